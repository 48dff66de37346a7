/-
  MERGED: my texts OrderMath, OrderSpec, ByMath, OrderLaw, OrderSpecB, PickSpec, WalkSpec, HeldT, WalkSpecB, WalkSpecC, BySpec, WalkSpecD, WalkX2, BySpecB, ByX, TabR, one behind the other, as they are. By an AI agent.
-/
import Derived.Test.YtfkgiimcnlagmaaGreatMFnExactWalkBy4
import Derived.Deep.QuietTactic
import Derived.BigQuiet
import Derived.OrdersHeld
import Derived.Deep.RegionHeld
section
/-
  MATHEMATICS of strategies: the places with a redex, the innermost and the outermost of them, what a strategy selects, and the walk by it. No Go in it. By an AI agent.
-/
namespace Go.Proofs.YtfkgiimcnlagmaaGreat.orderMath
open Go.Proofs.YtfkgiimcnlagmaaGreat.sig Go.Proofs.YtfkgiimcnlagmaaGreat.term Go.Proofs.YtfkgiimcnlagmaaGreat.termOk Go.Proofs.YtfkgiimcnlagmaaGreat.termFacts Go.Proofs.YtfkgiimcnlagmaaGreat.ruleMath Go.Proofs.YtfkgiimcnlagmaaGreat.stepMath Go.Proofs.YtfkgiimcnlagmaaGreat.walkMath Go.Proofs.YtfkgiimcnlagmaaGreat.stepsMath

/-- is there a redex at a -/
def hasR (sg : List Int) (rs : List Rl) (t : List Int) (a : Nat) : Bool := rs.any fun x => redB sg x t a
/-- the smallest rule with a redex at a, counted from k on; -1 if there is none -/
def ruleF (sg : List Int) (rs : List Rl) (t : List Int) (a : Nat) : Int := match rs.findIdx? (fun x => redB sg x t a) with
  | some r => (r : Int)
  | none => -1
/-- the places below n with a redex, in their order -/
def plN (sg : List Int) (rs : List Rl) (t : List Int) (n : Nat) : List Int := ((List.range n).filter (hasR sg rs t)).map fun a : Nat => (a : Int)
def placesL (sg : List Int) (rs : List Rl) (t : List Int) : List Int := plN sg rs t t.length
def placesI (sg : List Int) (rs : List Rl) (t : List Int) : List Int := if rightB sg rs t = true then placesL sg rs t else []
/-- of the first i places of l those below which there is none -/
def inN (E : Int → Int) (l : List Int) (i : Nat) : List Int := ((List.range i).filter fun k => decide (k + 1 = l.length ∨ E (l.getD k 0) ≤ l.getD (k + 1) 0)).map fun k => l.getD k 0
/-- of the first i places of l those that are not below another one, and where the last of them ends -/
def outN (E : Int → Int) (l : List Int) : Nat → List Int × Int
  | 0 => ([], 0)
  | i + 1 => if (outN E l i).2 ≤ l.getD i 0 then ((outN E l i).1 ++ [l.getD i 0], E (l.getD i 0)) else outN E l i
def inL (E : Int → Int) (l : List Int) : List Int := inN E l l.length
def outL (E : Int → Int) (l : List Int) : List Int := (outN E l l.length).1
/-- where the subterm at a ends -/
def endR (sg t : List Int) (a : Int) : Int := endI sg t a.toNat
def inmostI (sg : List Int) (rs : List Rl) (t : List Int) : List Int := inL (endR sg t) (placesI sg rs t)
def outmostI (sg : List Int) (rs : List Rl) (t : List Int) : List Int := outL (endR sg t) (placesI sg rs t)
/-- the places of which a strategy takes the first one -/
def selL (sg : List Int) (rs : List Rl) (t : List Int) (s : Int) : List Int := if s = 1 then inL (endR sg t) (placesL sg rs t) else if s = 2 then placesL sg rs t else (placesL sg rs t).reverse
def stratB (s : Int) : Bool := decide (1 ≤ s ∧ s ≤ 3)
def fuelB (f : Int) : Bool := decide (0 ≤ f ∧ f ≤ 60)
/-- what a strategy selects in a term -/
def pickL (sg : List Int) (rs : List Rl) (t : List Int) (s : Int) : Option (Int × Int) := (selL sg rs t s).head?.map fun a => (a, ruleF sg rs t a.toNat)
def pickO (sg : List Int) (rs : List Rl) (t : List Int) (s : Int) : Option (Int × Int) := if rightB sg rs t = true ∧ stratB s = true then pickL sg rs t s else none
/-- the steps that a strategy makes from t -/
def runS (sg : List Int) (rs : List Rl) (s : Int) : Nat → List Int → List St
  | 0, _ => []
  | f + 1, t => match pickL sg rs t s with
    | none => []
    | some p => match stepAtO sg rs t p.1 p.2 with
      | none => []
      | some v => (p.1, p.2, v) :: runS sg rs s f v
def byB (sg : List Int) (rs : List Rl) (t : List Int) (s f : Int) : Bool := rightB sg rs t && (stratB s && fuelB f)
def byW (sg : List Int) (rs : List Rl) (t : List Int) (s f : Int) : Wk := if byB sg rs t s f = true then (t, runS sg rs s f.toNat t) else ([], [])
def byD (sg : List Int) (rs : List Rl) (t : List Int) (s f : Int) : Bool := byB sg rs t s f && normalB sg rs (endL (t, runS sg rs s f.toNat t))
section
variable {sg : List Int} {rs : List Rl} {t : List Int}
theorem rule_none {a : Nat} (h : ∀ k, k < rs.length → redB sg (rs.getD k ([], [])) t a = false) : ruleF sg rs t a = -1 ∧ hasR sg rs t a = false := by
  have h1 : ∀ x ∈ rs, redB sg x t a = false := fun x hx => by
    obtain ⟨k, hk, e⟩ := List.mem_iff_getElem.1 hx
    have := h k hk
    rw [List.getD_eq_getElem?_getD, List.getElem?_eq_getElem hk, Option.getD_some, e] at this
    exact this
  have h2 : rs.findIdx? (fun x => redB sg x t a) = none := List.findIdx?_eq_none_iff.2 h1
  refine ⟨by unfold ruleF; rw [h2], ?_⟩
  unfold hasR
  rw [List.any_eq_false]
  exact fun x hx => by rw [h1 x hx]; simp
theorem rule_some {a k : Nat} (hk : k < rs.length) (h : ∀ j, j < k → redB sg (rs.getD j ([], [])) t a = false) (hy : redB sg (rs.getD k ([], [])) t a = true) : ruleF sg rs t a = (k : Int) ∧ hasR sg rs t a = true := by
  have e : ∀ j (hj : j < rs.length), rs.getD j ([], []) = rs[j] := fun j hj => by rw [List.getD_eq_getElem?_getD, List.getElem?_eq_getElem hj, Option.getD_some]
  have h2 : rs.findIdx? (fun x => redB sg x t a) = some k := by
    rw [List.findIdx?_eq_some_iff_getElem]
    exact ⟨hk, by rw [← e k hk]; exact hy, fun j hj => by rw [← e j (by omega)]; rw [h j hj]; simp⟩
  refine ⟨by unfold ruleF; rw [h2], ?_⟩
  unfold hasR
  rw [List.any_eq_true]
  exact ⟨rs[k], List.getElem_mem hk, by rw [← e k hk]; exact hy⟩
/-- where there is a redex, ruleF is its smallest rule -/
theorem has_rule {a : Nat} (h : hasR sg rs t a = true) : ∃ k, k < rs.length ∧ ruleF sg rs t a = (k : Int) ∧ redB sg (rs.getD k ([], [])) t a = true ∧ ∀ j, j < k → redB sg (rs.getD j ([], [])) t a = false := by
  have e : ∀ j (hj : j < rs.length), rs.getD j ([], []) = rs[j] := fun j hj => by rw [List.getD_eq_getElem?_getD, List.getElem?_eq_getElem hj, Option.getD_some]
  cases h2 : rs.findIdx? (fun x => redB sg x t a) with
  | none =>
    have h1 := List.findIdx?_eq_none_iff.1 h2
    unfold hasR at h
    rw [List.any_eq_true] at h
    obtain ⟨x, hx, hr⟩ := h
    rw [h1 x hx] at hr
    cases hr
  | some k =>
    obtain ⟨hk, hy, hn⟩ := List.findIdx?_eq_some_iff_getElem.1 h2
    exact ⟨k, hk, by unfold ruleF; rw [h2], by rw [e k hk]; exact hy, fun j hj => by rw [e j (by omega)]; have := hn j hj; simpa using this⟩
theorem pl_yes {n : Nat} (h : hasR sg rs t n = true) : plN sg rs t (n + 1) = plN sg rs t n ++ [(n : Int)] := by unfold plN; rw [List.range_succ, List.filter_append, List.map_append]; simp [h]
theorem pl_no {n : Nat} (h : hasR sg rs t n = false) : plN sg rs t (n + 1) = plN sg rs t n := by unfold plN; rw [List.range_succ, List.filter_append, List.map_append]; simp [h]
theorem pl_len (n : Nat) : (plN sg rs t n).length ≤ n := by
  unfold plN
  rw [List.length_map]
  exact Nat.le_trans (List.length_filter_le _ _) (by simp)
theorem pl_mem {n : Nat} {x : Int} : x ∈ plN sg rs t n ↔ ∃ a : Nat, a < n ∧ hasR sg rs t a = true ∧ x = (a : Int) := by
  unfold plN
  rw [List.mem_map]
  constructor
  · rintro ⟨a, ha, rfl⟩
    rw [List.mem_filter, List.mem_range] at ha
    exact ⟨a, ha.1, ha.2, rfl⟩
  · rintro ⟨a, h1, h2, rfl⟩
    exact ⟨a, by rw [List.mem_filter, List.mem_range]; exact ⟨h1, h2⟩, rfl⟩
theorem pl_sorted (n : Nat) : (plN sg rs t n).Pairwise (· < ·) := by
  unfold plN
  rw [List.pairwise_map]
  refine List.Pairwise.filter _ ?_
  exact List.Pairwise.imp (fun h => by omega) List.pairwise_lt_range
theorem places_empty (h : rightB sg rs t = true) : normalB sg rs t = decide (placesL sg rs t = []) := by
  unfold normalB
  rw [h, Bool.true_and]
  cases hb : (List.range t.length).all fun a => rs.all fun x => !redB sg x t a with
  | true =>
    symm
    rw [decide_eq_true_iff]
    cases hp : placesL sg rs t with
    | nil => rfl
    | cons y l =>
      obtain ⟨a, ha, hr, -⟩ := pl_mem.1 (show y ∈ plN sg rs t t.length by unfold placesL at hp; rw [hp]; exact List.mem_cons_self ..)
      rw [List.all_eq_true] at hb
      have h1 := hb a (List.mem_range.2 ha)
      rw [List.all_eq_true] at h1
      unfold hasR at hr
      rw [List.any_eq_true] at hr
      obtain ⟨x, hx, hr⟩ := hr
      have h2 := h1 x hx
      rw [hr] at h2
      cases h2
  | false =>
    symm
    rw [decide_eq_false_iff_not]
    intro hp
    rw [List.all_eq_false] at hb
    obtain ⟨a, ha, hb⟩ := hb
    have hh : hasR sg rs t a = true := by
      unfold hasR
      rw [List.any_eq_true]
      have hf : (rs.all fun x => !redB sg x t a) = false := by simpa using hb
      rw [List.all_eq_false] at hf
      obtain ⟨x, hx, hr⟩ := hf
      exact ⟨x, hx, by simpa using hr⟩
    have : (a : Int) ∈ plN sg rs t t.length := pl_mem.2 ⟨a, List.mem_range.1 ha, hh, rfl⟩
    unfold placesL at hp
    rw [hp] at this
    cases this
theorem in_yes {E : Int → Int} {l : List Int} {i : Nat} (h : i + 1 = l.length ∨ E (l.getD i 0) ≤ l.getD (i + 1) 0) : inN E l (i + 1) = inN E l i ++ [l.getD i 0] := by unfold inN; rw [List.range_succ, List.filter_append, List.map_append]; simp only [List.filter_cons, List.filter_nil, decide_eq_true h, if_true, List.map_cons, List.map_nil]
theorem in_no {E : Int → Int} {l : List Int} {i : Nat} (h : ¬ (i + 1 = l.length ∨ E (l.getD i 0) ≤ l.getD (i + 1) 0)) : inN E l (i + 1) = inN E l i := by unfold inN; rw [List.range_succ, List.filter_append, List.map_append]; simp only [List.filter_cons, List.filter_nil, decide_eq_false h, List.map_nil, List.append_nil]; simp
theorem in_len (E : Int → Int) (l : List Int) (i : Nat) : (inN E l i).length ≤ i := by
  unfold inN
  rw [List.length_map]
  exact Nat.le_trans (List.length_filter_le _ _) (by simp)
theorem out_yes {E : Int → Int} {l : List Int} {i : Nat} (h : (outN E l i).2 ≤ l.getD i 0) : outN E l (i + 1) = ((outN E l i).1 ++ [l.getD i 0], E (l.getD i 0)) := by rw [outN, if_pos h]
theorem out_no {E : Int → Int} {l : List Int} {i : Nat} (h : ¬ (outN E l i).2 ≤ l.getD i 0) : outN E l (i + 1) = outN E l i := by rw [outN, if_neg h]
theorem out_len (E : Int → Int) (l : List Int) : ∀ i : Nat, (outN E l i).1.length ≤ i
  | 0 => Nat.le_refl _
  | i + 1 => by
    have := out_len E l i
    by_cases h : (outN E l i).2 ≤ l.getD i 0
    · rw [out_yes h, List.length_append, List.length_singleton]; omega
    · rw [out_no h]; omega
theorem in_last {E : Int → Int} {l : List Int} (h : l ≠ []) : inL E l ≠ [] := by
  unfold inL
  obtain ⟨i, hi⟩ : ∃ i, l.length = i + 1 := ⟨l.length - 1, by have := List.length_pos_iff.2 h; omega⟩
  rw [hi, in_yes (.inl hi.symm)]
  simp
theorem sel_empty (s : Int) : selL sg rs t s = [] ↔ placesL sg rs t = [] := by
  unfold selL
  split
  · constructor
    · intro h
      cases hp : placesL sg rs t with
      | nil => rfl
      | cons y l => rw [hp] at h; exact absurd h (in_last (by simp))
    · intro h; rw [h]; rfl
  · split
    · exact Iff.rfl
    · rw [List.reverse_eq_nil_iff]
theorem in_mem {E : Int → Int} {l : List Int} {i : Nat} {x : Int} (hi : i ≤ l.length) (h : x ∈ inN E l i) : x ∈ l := by
  unfold inN at h
  obtain ⟨k, hk, rfl⟩ := List.mem_map.1 h
  have hk := List.mem_range.1 (List.mem_filter.1 hk).1
  rw [List.getD_eq_getElem?_getD, List.getElem?_eq_getElem (by omega), Option.getD_some]
  exact List.getElem_mem _
theorem sel_mem {s x : Int} (h : x ∈ selL sg rs t s) : x ∈ placesL sg rs t := by
  unfold selL at h
  split at h
  · exact in_mem (Nat.le_refl _) h
  · split at h
    · exact h
    · exact List.mem_reverse.1 h
theorem pick_none {s : Int} : pickL sg rs t s = none ↔ placesL sg rs t = [] := by
  unfold pickL
  rw [← sel_empty s]
  cases selL sg rs t s <;> simp
/-- what is selected is a redex -/
theorem pick_some {s : Int} {p : Int × Int} (h : pickL sg rs t s = some p) : ∃ a k : Nat, p = ((a : Int), (k : Int)) ∧ a < t.length ∧ k < rs.length ∧ redB sg (rs.getD k ([], [])) t a = true ∧ ∀ j, j < k → redB sg (rs.getD j ([], [])) t a = false := by
  unfold pickL at h
  cases hs : selL sg rs t s with
  | nil => rw [hs] at h; cases h
  | cons x l =>
    rw [hs] at h
    injection h with h
    obtain ⟨a, ha, hr, e⟩ := pl_mem.1 (sel_mem (s := s) (by rw [hs]; exact List.mem_cons_self ..) : x ∈ plN sg rs t t.length)
    obtain ⟨k, hk, e2, h3, h4⟩ := has_rule hr
    subst e
    exact ⟨a, k, by rw [← h]; simp [e2], ha, hk, h3, h4⟩
theorem run_none {s : Int} {f : Nat} (h : pickL sg rs t s = none) : runS sg rs s f t = [] := by
  cases f with
  | zero => rfl
  | succ f => rw [runS, h]
theorem run_stop {s : Int} {f : Nat} {p : Int × Int} (h : pickL sg rs t s = some p) (hs : stepAtO sg rs t p.1 p.2 = none) : runS sg rs s f t = [] := by
  cases f with
  | zero => rfl
  | succ f => rw [runS, h]; simp only [hs]
theorem run_go {s : Int} {f : Nat} {p : Int × Int} {v : List Int} (h : pickL sg rs t s = some p) (hs : stepAtO sg rs t p.1 p.2 = some v) : runS sg rs s (f + 1) t = (p.1, p.2, v) :: runS sg rs s f v := by rw [runS, h]; simp only [hs]
theorem end_snoc (L : List St) (a r : Int) (v : List Int) : endL (t, L ++ [(a, r, v)]) = v := by unfold endL; simp
end
theorem run_len (sg : List Int) (rs : List Rl) (s : Int) : ∀ (f : Nat) (t : List Int), (runS sg rs s f t).length ≤ f
  | 0, _ => Nat.le_refl _
  | f + 1, t => by
    rw [runS]
    split
    · exact Nat.zero_le _
    · split
      · exact Nat.zero_le _
      · rw [List.length_cons]; have := run_len sg rs s f; rename_i v _; have := this v; omega
/-- the steps of a strategy are a walk -/
theorem run_walk {sg : List Int} {rs : List Rl} {s : Int} : ∀ {f : Nat} {t : List Int}, goOn sg rs t (runS sg rs s f t) = some (endL (t, runS sg rs s f t))
  | 0, t => rfl
  | f + 1, t => by
    cases hp : pickL sg rs t s with
    | none => rw [run_none hp]; rfl
    | some p =>
      cases hs : stepAtO sg rs t p.1 p.2 with
      | none => rw [run_stop hp hs]; rfl
      | some v =>
        rw [run_go hp hs, end_cons]
        exact go_cons.2 ⟨hs, run_walk⟩
end Go.Proofs.YtfkgiimcnlagmaaGreat.orderMath
end

section
/-
  CONTRACTS: spec.l8Redex (the smallest rule with a redex at a place), RedexesIn. Conditions: the system and the term read as data ('Rd'), at most 1048576 numbers. By an AI agent.
-/
namespace Go.Proofs.YtfkgiimcnlagmaaGreat.orderSpec
open Go.RowKit Go.Proofs.YtfkgiimcnlagmaaGreat.base Go.Proofs.YtfkgiimcnlagmaaGreat.ints Go.Proofs.YtfkgiimcnlagmaaGreat.sig Go.Proofs.YtfkgiimcnlagmaaGreat.term Go.Proofs.YtfkgiimcnlagmaaGreat.termOk Go.Proofs.YtfkgiimcnlagmaaGreat.endAt Go.Proofs.YtfkgiimcnlagmaaGreat.endOf Go.Proofs.YtfkgiimcnlagmaaGreat.marks Go.Proofs.YtfkgiimcnlagmaaGreat.app Go.Proofs.YtfkgiimcnlagmaaGreat.sym Go.Proofs.YtfkgiimcnlagmaaGreat.sub Go.Proofs.YtfkgiimcnlagmaaGreat.segs Go.Proofs.YtfkgiimcnlagmaaGreat.segsHelp Go.Proofs.YtfkgiimcnlagmaaGreat.kinds Go.Proofs.YtfkgiimcnlagmaaGreat.termFacts Go.Proofs.YtfkgiimcnlagmaaGreat.shifted Go.Proofs.YtfkgiimcnlagmaaGreat.matchMath Go.Proofs.YtfkgiimcnlagmaaGreat.matchSpec Go.Proofs.YtfkgiimcnlagmaaGreat.shape Go.Proofs.YtfkgiimcnlagmaaGreat.kindsR Go.Proofs.YtfkgiimcnlagmaaGreat.kindsW Go.Proofs.YtfkgiimcnlagmaaGreat.ruleMath Go.Proofs.YtfkgiimcnlagmaaGreat.ruleSpec Go.Proofs.YtfkgiimcnlagmaaGreat.stepMath Go.Proofs.YtfkgiimcnlagmaaGreat.walkMath Go.Proofs.YtfkgiimcnlagmaaGreat.stepsMath Go.Proofs.YtfkgiimcnlagmaaGreat.varsOf Go.Proofs.YtfkgiimcnlagmaaGreat.stepSpec Go.Proofs.YtfkgiimcnlagmaaGreat.orderMath Go.Proofs.YtfkgiimcnlagmaaGreat.appAt
set_option maxRecDepth 100000

def MatchOn (W : World) (A : Option Addr) (n cs : Nat) (P : Option Addr) (pn pc : Nat) (D : Option Addr) (dn dc : Nat) (R : Option (List (List Int))) : Prop := ∀ X, Below W.heap.size W X → Calls Tryz.prog 100 #[.agg #[.slice A n cs], .slice P pn pc, .slice D dn dc] X fun e w' => ∃ G gn gc, e = .returned (.tuple #[.agg #[.slice G gn gc], .bool R.isSome]) ∧ Owns w' X.heap.size w'.heap.size G gn gc (resL R) ∧ Below W.heap.size W w' ∧ Below X.heap.size X w'
theorem matchOn {W : World} {A : Option Addr} {n cs : Nat} {P : Option Addr} {pn pc : Nat} {D : Option Addr} {dn dc B : Nat} {sg p ys : List Int} (h : Seg W W.heap.size A n sg) (h' : Seg W W.heap.size P pn p) (ho : Own W B (.slice D dn dc) ys) (hn : n ≤ 1048576) (hp : termOkB sg p = true) (ht : termOkB sg ys = true) : MatchOn W A n cs P pn pc D dn dc (mst sg ys p 0 s0) := fun X hX => by
  have hpn : pn ≤ 60 := by have := (term_len hp).2; have := h'.1; omega
  have hdn : dn ≤ 60 := by have := (term_len ht).2; have := Own.len ho; omega
  have hcd := look.own_cap ho
  refine (l4Match A P D n cs pn pc dn dc sg p ys X (h.next hX) (h'.next hX) (Own.seg (Own.next ho hX)) hn hpn hdn hcd.1 hcd.2.1 hp ht).mono ?_
  rintro e w4 ⟨G, gn, gc, rfl, og, b4⟩
  exact ⟨G, gn, gc, rfl, og, next_trans hX b4, b4⟩

set_option maxHeartbeats 4000000 in
theorem l8Redex (a v u : Value) (d : Dat sSystem) (t : List Int) (x : Nat) (w : World) (h : Rd w w.heap.size sSystem [a, v] d) (ht : Rd w w.heap.size sI [u] t) (hz : sz sSystem d ≤ 1048576) (hok : rightB d.1 d.2 t = true) (hx : x < t.length) :
    Calls Tryz.prog 99 #[.agg #[a, v], u, .int .i64 (x : Int)] w fun e w' => e = .returned (.int .i64 (ruleF d.1 d.2 t x)) ∧ Below w.heap.size w w' := by
  obtain ⟨T, m, c, rfl, hT, hcT⟩ := rd_ints.1 ht
  obtain ⟨A, n, cs, V, q, cv, rfl, rfl, hs, hc, hcv, hq, hn, hq1, hrs, hsg, hE⟩ := rd_sys h hz
  have HQ := Lib.hid hq
  have HTL := Lib.hid hT.1
  have HS := Lib.hid hs
  have HRS := Lib.hid hrs
  have HE := Lib.hid hE
  have HOK := Lib.hid (right_parts hok)
  have hcT1 := hcT.1
  have hcT2 := hcT.2.1
  have hm : m ≤ 60 := by have := (term_len (right_parts hok).2).2; have := hT.1; omega
  have hq12 : q ≤ 12 := by have := (sys_parts (right_parts hok).1).2.1; omega
  have HX := Lib.hid hx
  have HS0 := Lib.hid (show RowB w 29 #[.slice A n cs, .slice V q cv] (w.alloc (.cells #[.slice A n cs, .slice V q cv] 29)) from ⟨Row.new _ _ _, (Below.refl _ _).alloc (Nat.le_refl _) _⟩)
  have LS := Lib.hid (subIn (cs := cs) (c := c) (hs.next HS0.out.2) (hT.next HS0.out.2) hn (by omega) hcT1 hcT2 HOK.out.2 hx)
  clear h ht hz hok hs hc hcv hq hrs hsg hE hT hcT hx
  go_enter Tryz.func99, Tryz.ntmps99
  go_wp2_with fail
  refine (LS.out _ (Below.refl _ _)).mono ?_
  rintro e w1 ⟨D, dn, dc, rfl, od, B1, b1⟩
  have HS1 := Lib.hid (show RowB w 29 #[.slice A n cs, .slice V q cv] w1 from ⟨HS0.out.1.next b1, next_trans HS0.out.2 b1⟩)
  have HD := Lib.hid od
  have hw1 : w.heap.size < w1.heap.size := by have := b1.size; simp at this; omega
  clear b1 B1 od LS HS0
  go_wp2_with fail
  go_loopg [8] q (fun g r wr => ∃ k : Nat, r = .int .i64 k ∧ k + g = q ∧ (∀ j, j < k → redB d.1 (d.2.getD j ([], [])) t x = false) ∧ RowB w 29 #[.slice A n cs, .slice V q cv] wr ∧ Own wr (w.heap.size + 1) (.slice D dn dc) (subL d.1 t x))
  case atStart => exact ⟨0, rfl, by omega, fun j hj => absurd hj (Nat.not_lt_zero _), HS1.out, Own.lower HD.out (by simp)⟩
  case round =>
    clear HS1 HD
    obtain ⟨k, rfl, hkg, hlow, S, oD⟩ := hrel
    have K0 : wr.cell? ⟨w.heap.size, 0, none⟩ = some (.slice A n cs) := S.1.cell 0
    have K1 : wr.cell? ⟨w.heap.size, 1, none⟩ = some (.slice V q cv) := S.1.cell 1
    have HLOW := Lib.hid hlow
    have HK := Lib.hid hkg
    clear hlow hkg
    by_cases hkq : k < q
    · obtain ⟨b, off, l, rr, y, hV, hb, ey, cl, cr, hry⟩ := rd_at HRS.out S.2 HQ.out hkq
      subst hV
      have hzy : sz sRule y ≤ 1048576 := by rw [← ey.out]; exact HE.out k hkq
      obtain ⟨P, pn, pc, P', pn', pc', rfl, rfl, sP, kP, sP', kP', hpn, hpn'⟩ := rd_rule hry hzy
      have okr : ruleOkB d.1 y = true := by rw [← ey.out]; exact sys_rule HOK.out.1 (by rw [HQ.out]; exact hkq)
      have zA : w.heap.size < wr.heap.size := S.1.lt
      have zB : b < wr.heap.size := by omega
      have K2 : wr.cell? ⟨b, off + k * 2, none⟩ = some (.slice P pn pc) := cl
      have LM := Lib.hid (matchOn (W := wr) (cs := cs) (pc := pc) (HS.out.next S.2) (sP.more (Nat.le_of_lt zA)) oD hn (rule_parts okr).1 (sub_ok HOK.out.2 HX.out))
      obtain ⟨R, hR⟩ : ∃ R, mst d.1 (subL d.1 t x) y.1 0 s0 = R := ⟨_, rfl⟩
      rw [hR] at LM
      obtain ⟨bo, hbo⟩ : ∃ bo, R.isSome = bo := ⟨_, rfl⟩
      have HR := Lib.hid hbo
      have HRE := Lib.hid (show redB d.1 (d.2.getD k ([], [])) t x = bo by unfold redB; rw [ey.out, hR, hbo])
      have B0 := Below.refl wr.heap.size wr
      have i0 : (0 : Int) ≤ (k : Int) := by omega
      have i1 : (k : Int) < (q : Int) := by omega
      have hneA : ¬ w.heap.size = wr.heap.size := by omega
      have hneB : ¬ b = wr.heap.size := by omega
      have hnfA : ¬ wr.heap.size = w.heap.size := by omega
      have hnfB : ¬ wr.heap.size = b := by omega
      have SS := Lib.hid S
      have OD := Lib.hid oD
      clear sP kP sP' kP' hpn hpn' okr ey hry hzy cl cr hR hbo S oD
      go_upto_region 5 with fail
      go_cut [10] (fun s9 wx => s9 = .bool bo ∧ Below wr.heap.size wr wx)
      case first =>
        go_region_held3 (fun w' => w'.cell? ⟨w.heap.size, 0, none⟩ = some (.slice A n cs) ∧ w'.cell? ⟨w.heap.size, 1, none⟩ = some (.slice (some ⟨b, off, none⟩) q cv) ∧ w'.cell? ⟨b, off + k * 2, none⟩ = some (.slice P pn pc))
          (go_keep)
          (first | (go_at_call 100; refine (LM.out _ ?_).mono ?_; (first | exact B0 | exact B0.drew | exact (B0.alloc B0.size _) | exact (B0.alloc B0.size _).drew | exact (B0.drew.alloc B0.drew.size _)); rintro e w4 ⟨G, gn, gc, rfl, og, B4, b4⟩; rw [HR.out]; have z4 := B4.size; (first | have r9 := Row.next (Row.drew (Row.new wr 64 #[.slice none 0 0])) b4 | have r9 := Row.next (Row.new wr.drew 64 #[.slice none 0 0]) b4 | skip); (first | (have c9 : _ = some (Value.slice none 0 0) := r9.cell 0; have f9 := r9.free 0) | skip); have ne40 : ¬ w.heap.size = w4.heap.size := Nat.ne_of_lt (Nat.lt_of_lt_of_le zA B4.size); have nf40 : ¬ w4.heap.size = w.heap.size := Nat.ne_of_gt (Nat.lt_of_lt_of_le zA B4.size); have ne41 : ¬ b = w4.heap.size := Nat.ne_of_lt (Nat.lt_of_lt_of_le zB B4.size); have nf41 : ¬ w4.heap.size = b := Nat.ne_of_gt (Nat.lt_of_lt_of_le zB B4.size); have k0_4 : w4.cell? ⟨w.heap.size, 0, none⟩ = some (.slice A n cs) := (B4.cell (p := ⟨w.heap.size, 0, none⟩) zA).trans K0; have k1_4 : w4.cell? ⟨w.heap.size, 1, none⟩ = some (.slice (some ⟨b, off, none⟩) q cv) := (B4.cell (p := ⟨w.heap.size, 1, none⟩) zA).trans K1; have k2_4 : w4.cell? ⟨b, off + k * 2, none⟩ = some (.slice P pn pc) := (B4.cell (p := ⟨b, off + k * 2, none⟩) zB).trans K2))
        all_goals
          go_wp2_with fail
          go_meet
          first | (with_reducible exact box_a B4) | (with_reducible exact box_b B4 (Nat.le_refl _)) | (with_reducible exact box_b B4 z4)
      case rest =>
        rename World => wc
        obtain ⟨rfl, bx⟩ := hcut
        have FS := Lib.hid (show RowB w 29 #[.slice A n cs, .slice (some ⟨b, off, none⟩) q cv] wc from ⟨SS.out.1.next bx, SS.out.2.trans (bx.mono SS.out.2.size)⟩)
        have FO := Lib.hid (Own.next OD.out bx)
        clear bx SS OD K0 K1 K2 LM HR
        cases bo with
        | false =>
          have HL2 := Lib.hid (show ∀ j, j < k + 1 → redB d.1 (d.2.getD j ([], [])) t x = false from fun j hj => by
            by_cases e : j = k
            · subst e; exact HRE.out
            · exact HLOW.out j (by omega))
          clear HRE
          go_wp2
          go_roundg (gk - 1)
          case measure => have := HK.out; omega
          case rel => exact ⟨k + 1, by simp, by have := HK.out; omega, HL2.out, FS.out, FO.out⟩
        | true =>
          have HF := Lib.hid (show (Ending.returned (.int .i64 (k : Int))) = .returned (.int .i64 (ruleF d.1 d.2 t x)) ∧ Below w.heap.size w wc from ⟨by rw [(rule_some (by rw [HQ.out]; exact hkq) HLOW.out HRE.out).1], FS.out.2⟩)
          clear FS FO
          go_wp2
          go_ret
          exact HF.out
    · have e1 : k = q := by have := HK.out; omega
      subst e1
      have HF := Lib.hid (show (Ending.returned (.int .i64 (-1))) = .returned (.int .i64 (ruleF d.1 d.2 t x)) ∧ Below w.heap.size w wr from ⟨by rw [(rule_none (fun j hj => HLOW.out j (by rw [← HQ.out]; exact hj))).1], S.2⟩)
      clear S oD
      go_wp2
      go_ret
      exact HF.out
/-- an append of one number: where it lies, and that nothing else has turned -/
theorem app1Q {w : World} {ops : Array Oper} {rest : List Oper} {o : Oper} {a : Act} {Q : Exit → Act → World → Prop} (hgd : o.guard = none) (s x : Operand)
    (ho : o.op = .call { callee := .builtin .append, args := #[s, x], argTypes := #[24, 24] })
    (base : Nat) (A : Option Addr) (n c : Nat) (xs : List Int) (hs : a.eval s = .slice A n c) (hown : Own w base (.slice A n c) xs)
    (g c2 : Nat) (y : Int) (hx : a.eval x = .slice (some ⟨g, 0, none⟩) 1 c2) (hy : w.cell? ⟨g, 0, none⟩ = some (.int .i64 y)) (hn : n ≤ 2097152) (hbase : base ≤ w.heap.size)
    (h : ∀ A' c' w', Own w' base (.slice A' (n + 1) c') (xs ++ [y]) → w.grownBy w' (blk A) → (blk A' = blk A ∨ blk A' = some w.heap.size) → wpList Tryz.prog ops Q rest (a.put o.dst (.slice A' (n + 1) c')) w') : wpList Tryz.prog ops Q (o :: rest) a w :=
  appAllAt hgd s x ho base A n c xs hs hown (some ⟨g, 0, none⟩) 1 c2 (g + 1) [y] hx ⟨rfl, fun _ => ⟨g, 0, rfl, Nat.lt_succ_self _, fun j hj => by
    obtain rfl : j = 0 := by omega
    exact hy⟩⟩ (Nat.le_refl _) hn (by omega) hbase h
/-- a system in its box, a list of the call's own -/
structure Lo (w : World) (a v : Value) (O : Option Addr) (on oc : Nat) (L : List Int) (wr : World) : Prop where
  r : Row wr w.heap.size 29 #[a, v]
  o : Own wr (w.heap.size + 1) (.slice O on oc) L
  b : Below w.heap.size w wr
section
variable {w wr w' : World} {a v : Value} {O : Option Addr} {on oc : Nat} {L : List Int}
theorem Lo.next (h : Lo w a v O on oc L wr) (hb : Below wr.heap.size wr w') : Lo w a v O on oc L w' := ⟨h.r.next hb, Own.next h.o hb, next_trans h.b hb⟩
theorem Lo.over {O' : Option Addr} {on' oc' : Nat} {L' : List Int} (h : Lo w a v O on oc L wr) (ho : Own w' (w.heap.size + 1) (.slice O' on' oc') L') (hb : Below (w.heap.size + 1) wr w') : Lo w a v O' on' oc' L' w' := ⟨h.r.below hb (Nat.lt_succ_self _), ho, h.b.trans (hb.mono (Nat.le_succ _))⟩
theorem Lo.list (h : Lo w a v O on oc L wr) {L' : List Int} (e : L = L') : AnsList w L' (.returned (.slice O on oc)) wr := ⟨O, on, oc, rfl, by rw [← e]; exact Own.lower h.o (Nat.le_succ _), h.b⟩
end
theorem places_has {sg : List Int} {rs : List Rl} {t : List Int} {a k : Nat} (hk : k < rs.length) (h : redB sg (rs.getD k ([], [])) t a = true) : hasR sg rs t a = true := by
  unfold hasR
  rw [List.any_eq_true]
  have e : rs.getD k ([], []) = rs[k] := by rw [List.getD_eq_getElem?_getD, List.getElem?_eq_getElem hk, Option.getD_some]
  rw [e] at h
  exact ⟨rs[k], List.getElem_mem hk, h⟩
theorem places_no {sg : List Int} {rs : List Rl} {t : List Int} (h : rightB sg rs t = false) : ([] : List Int) = placesI sg rs t := by unfold placesI; rw [if_neg (by rw [h]; simp)]
theorem places_yes {sg : List Int} {rs : List Rl} {t : List Int} (h : rightB sg rs t = true) : plN sg rs t t.length = placesI sg rs t := by unfold placesI; rw [if_pos h]; rfl

set_option maxHeartbeats 4000000 in
theorem specRedexesIn (a v u : Value) (d : Dat sSystem) (t : List Int) (w : World) (h : Rd w w.heap.size sSystem [a, v] d) (ht : Rd w w.heap.size sI [u] t) (hz : sz sSystem d ≤ 1048576) (hz' : sz sI t ≤ 1048576) :
    Calls Tryz.prog 142 #[.agg #[a, v], u] w (AnsList w (placesI d.1 d.2 t)) := by
  have htv := ht
  obtain ⟨T, m, c, rfl, hT, hcT⟩ := rd_ints.1 ht
  have hm := len_ints hT.1 hz'
  have HTL := Lib.hid hT.1
  obtain ⟨W, hW⟩ : ∃ W, W = (w.alloc (.cells #[a, v] 29)).alloc (.cells #[] 2) := ⟨_, rfl⟩
  have T0 : Lo w a v (some ⟨w.heap.size + 1, 0, none⟩) 0 0 [] W := by
    rw [hW]
    refine ⟨(Row.new _ _ _).alloc _, ?_, ((Below.refl _ _).alloc (Nat.le_refl _) _).alloc (by simp) _⟩
    have := own_empty (w.alloc (.cells #[a, v] 29)) (w.heap.size + 1) (by simp)
    simpa using this
  have HW := Lib.hid hW
  have LR := Lib.hid (fun (w1 : World) (bb : Below w.heap.size w w1) => l7Right a v d T m c t w1 (h.next bb) hz (hT.next bb) hm)
  have LX := Lib.hid (fun (w1 : World) (bb : Below w.heap.size w w1) x hok hx => l8Redex a v _ d t x w1 (h.next bb) (htv.next bb) hz hok hx)
  have H0 := Lib.hid T0
  clear hW h ht htv hT hcT T0
  cases ok : rightB d.1 d.2 t with
  | false =>
    have HR := Lib.hid ok
    rw [ok] at LR
    clear ok LX
    go_enter Tryz.func142, Tryz.ntmps142
    go_wp2_with fail
    rw [← HW.out]
    go_loopg [5, 6] 0 (fun g out at_ wr => at_ = .int .i64 0 ∧ out = .slice (some ⟨w.heap.size + 1, 0, none⟩) 0 0 ∧ Lo w a v (some ⟨w.heap.size + 1, 0, none⟩) 0 0 [] wr)
    case atStart => exact ⟨rfl, rfl, H0.out⟩
    case round =>
      clear H0
      obtain ⟨rfl, rfl, S⟩ := hrel
      have SS := Lib.hid S
      have K0 : wr.cell? ⟨w.heap.size, 0, none⟩ = some a := S.r.cell 0
      have K1 : wr.cell? ⟨w.heap.size, 1, none⟩ = some v := S.r.cell 1
      have LR1 := Lib.hid (LR.out wr S.b)
      clear S LR
      by_cases h0 : 0 < m
      · have h1 : (0 : Int) < (m : Int) := by omega
        go_wp2_with (fail)
        refine LR1.out.mono ?_
        rintro e w2 ⟨rfl, bb⟩
        have F := Lib.hid ((SS.out.next bb).list (places_no HR.out))
        clear bb K0 K1 SS
        go_wp2
        go_ret
        exact F.out
      · have h1 : ¬ (0 : Int) < (m : Int) := by omega
        have F := Lib.hid (SS.out.list (places_no HR.out))
        clear SS
        go_wp2
        go_ret
        exact F.out
  | true =>
    have HR := Lib.hid ok
    have hm60 : m ≤ 60 := by have := (term_len (right_parts ok).2).2; have := HTL.out; omega
    rw [ok] at LR
    clear ok
    go_enter Tryz.func142, Tryz.ntmps142
    go_wp2_with fail
    rw [← HW.out]
    go_loopg [5, 6] m (fun g out at_ wr => ∃ (i on oc : Nat) (O : Option Addr), at_ = .int .i64 i ∧ i + g = m ∧ out = .slice O on oc ∧ on ≤ i ∧ Lo w a v O on oc (plN d.1 d.2 t i) wr)
    case atStart => exact ⟨0, 0, 0, _, rfl, by omega, rfl, Nat.le_refl _, H0.out⟩
    case round =>
      clear H0
      obtain ⟨i, on, oc, O, rfl, hig, rfl, hon, S⟩ := hrel
      have HI := Lib.hid hig
      have SS := Lib.hid S
      have K0 : wr.cell? ⟨w.heap.size, 0, none⟩ = some a := S.r.cell 0
      have K1 : wr.cell? ⟨w.heap.size, 1, none⟩ = some v := S.r.cell 1
      have LR1 := Lib.hid (LR.out wr S.b)
      clear S LR hig
      by_cases h0 : i < m
      · have h1 : (i : Int) < (m : Int) := by omega
        have LX1 := Lib.hid (fun w1 (bb : Below w.heap.size w w1) => LX.out w1 bb i HR.out (by rw [HTL.out]; exact h0))
        clear LX
        go_wp2_with (fail)
        refine LR1.out.mono ?_
        rintro e w2 ⟨rfl, bb⟩
        have S2 := SS.out.next bb
        have SS2 := Lib.hid S2
        have k0 : w2.cell? ⟨w.heap.size, 0, none⟩ = some a := S2.r.cell 0
        have k1 : w2.cell? ⟨w.heap.size, 1, none⟩ = some v := S2.r.cell 1
        have LX2 := Lib.hid (LX1.out w2 S2.b)
        clear bb K0 K1 SS S2 LX1 LR1
        go_wp2_with (fail)
        refine LX2.out.mono ?_
        rintro e w3 ⟨rfl, bb⟩
        have S3 := SS2.out.next bb
        have HS3 := Lib.hid S3
        cases hb : hasR d.1 d.2 t i with
        | false =>
          have hrf : ruleF d.1 d.2 t i = -1 := by
            refine (rule_none fun k hk => ?_).1
            cases hh : redB d.1 (d.2.getD k ([], [])) t i with
            | false => rfl
            | true => rw [places_has hk hh] at hb; cases hb
          have F := Lib.hid (show Lo w a v O on oc (plN d.1 d.2 t (i + 1)) w3 by rw [pl_no hb]; exact S3)
          rw [hrf]
          clear bb k0 k1 SS2 S3 HS3 LX2 hb hrf
          go_wp2
          go_roundg (gk - 1)
          case measure => have := HI.out; omega
          case rel => exact ⟨i + 1, on, oc, O, by simp, by have := HI.out; omega, rfl, by omega, F.out⟩
        | true =>
          obtain ⟨k, hk, hrf, -, -⟩ := has_rule hb
          have HB := Lib.hid hb
          have hkk : (0 : Int) ≤ (k : Int) := by omega
          rw [hrf]
          clear bb k0 k1 SS2 S3 LX2 hb hrf hk
          have ho : Own w3 (w.heap.size + 1) (.slice O on oc) (plN d.1 d.2 t i) := HS3.out.o
          have hsz : w.heap.size < w3.heap.size := HS3.out.r.lt
          go_wp2_with (at_builtin; refine app1 rfl _ _ rfl (w.heap.size + 1) O on oc _ rfl (Own.alloc ho _) w3.heap.size 1 (i : Int) rfl ((Row.new _ _ _).cell 0) (by omega) (by simp; omega) ?_; intro O' oc' w4 ho4 b4)
          have F := Lib.hid (show Lo w a v O' (on + 1) oc' (plN d.1 d.2 t (i + 1)) w4 from by
            have hb3 : Below (w.heap.size + 1) w3 w4 := ((Below.refl _ _).alloc (show w.heap.size + 1 ≤ w3.heap.size by omega) _).trans b4
            rw [pl_yes HB.out]
            exact HS3.out.over ho4 hb3)
          clear ho4 b4 ho HS3 HB
          go_wp2
          go_roundg (gk - 1)
          case measure => have := HI.out; omega
          case rel => exact ⟨i + 1, on + 1, oc', O', by simp, by have := HI.out; omega, rfl, by omega, F.out⟩
      · have e1 : i = m := by have := HI.out; omega
        subst e1
        have h1 : ¬ (i : Int) < (i : Int) := by omega
        have F := Lib.hid (SS.out.list (show _ = placesI d.1 d.2 t by rw [← places_yes HR.out, HTL.out]))
        clear SS LR1 LX K0 K1
        go_wp2
        go_ret
        exact F.out
end Go.Proofs.YtfkgiimcnlagmaaGreat.orderSpec
end

section
/-
  MATHEMATICS: the walk of a strategy, step by step ('Gone'): what has been done and what is left. No Go in it. By an AI agent.
-/
namespace Go.Proofs.YtfkgiimcnlagmaaGreat.orderMath
open Go.Proofs.YtfkgiimcnlagmaaGreat.sig Go.Proofs.YtfkgiimcnlagmaaGreat.term Go.Proofs.YtfkgiimcnlagmaaGreat.termOk Go.Proofs.YtfkgiimcnlagmaaGreat.termFacts Go.Proofs.YtfkgiimcnlagmaaGreat.ruleMath Go.Proofs.YtfkgiimcnlagmaaGreat.stepMath Go.Proofs.YtfkgiimcnlagmaaGreat.walkMath Go.Proofs.YtfkgiimcnlagmaaGreat.stepsMath

section
variable {E : Int → Int} {l : List Int}
theorem out_first (h0 : ∀ x ∈ l, 0 ≤ x) : ∀ i, 1 ≤ i → i ≤ l.length → (outN E l i).1.head? = l.head?
  | 1, _, h => by
    cases l with
    | nil => simp at h
    | cons y r => rw [out_yes (by show (0 : Int) ≤ _; exact h0 _ (List.mem_cons_self ..))]; rfl
  | i + 2, _, h => by
    have ih := out_first h0 (i + 1) (by omega) (by omega)
    by_cases hh : (outN E l (i + 1)).2 ≤ l.getD (i + 1) 0
    · rw [out_yes hh, ← ih]
      cases he : (outN E l (i + 1)).1 with
      | nil =>
        rw [he] at ih
        cases l with
        | nil => simp at h
        | cons y r => cases ih
      | cons y r => rfl
    · rw [out_no hh, ih]
theorem out_head (h0 : ∀ x ∈ l, 0 ≤ x) : (outL E l).head? = l.head? := by
  unfold outL
  cases l with
  | nil => rfl
  | cons y r => exact out_first h0 _ (by simp) (Nat.le_refl _)
end
section
variable {sg : List Int} {rs : List Rl} {t : List Int}
theorem placesI_mem {x : Int} (h : x ∈ placesI sg rs t) : rightB sg rs t = true ∧ ∃ a : Nat, a < t.length ∧ hasR sg rs t a = true ∧ x = (a : Int) := by
  unfold placesI at h
  split at h
  · exact ⟨by assumption, pl_mem.1 h⟩
  · cases h
theorem placesI_nonneg {x : Int} (h : x ∈ placesI sg rs t) : 0 ≤ x := by
  obtain ⟨-, a, -, -, rfl⟩ := placesI_mem h
  omega
theorem outI_head : (outmostI sg rs t).head? = (placesI sg rs t).head? := out_head fun x hx => placesI_nonneg hx
end
/-- of F steps i have been made: L; where they lead to: u -/
def Gone (sg : List Int) (rs : List Rl) (s : Int) (F : Nat) (t : List Int) (i : Nat) (L : List St) (u : List Int) : Prop := runS sg rs s F t = L ++ runS sg rs s (F - i) u ∧ L.length = i ∧ u = endL (t, L) ∧ rightB sg rs u = true ∧ i ≤ F
section
variable {sg : List Int} {rs : List Rl} {s : Int} {F i : Nat} {t u v : List Int} {L : List St}
theorem gone_zero (h : rightB sg rs t = true) : Gone sg rs s F t 0 [] t := ⟨rfl, rfl, rfl, h, Nat.zero_le _⟩
theorem right_step {p : Int × Int} (h : rightB sg rs u = true) (hs : stepAtO sg rs u p.1 p.2 = some v) : rightB sg rs v = true := by
  unfold rightB at h ⊢
  rw [Bool.and_eq_true] at h ⊢
  exact ⟨h.1, stepAt_ok hs⟩
theorem gone_step {p : Int × Int} (h : Gone sg rs s F t i L u) (hi : i < F) (hp : pickL sg rs u s = some p) (hs : stepAtO sg rs u p.1 p.2 = some v) : Gone sg rs s F t (i + 1) (L ++ [(p.1, p.2, v)]) v := by
  obtain ⟨h1, h2, h3, h4, h5⟩ := h
  refine ⟨?_, by rw [List.length_append, h2]; rfl, (end_snoc L p.1 p.2 v).symm, right_step h4 hs, hi⟩
  obtain ⟨g, hg⟩ : ∃ g, F - i = g + 1 := ⟨F - i - 1, by omega⟩
  have hg2 : F - (i + 1) = g := by omega
  rw [h1, hg, run_go hp hs, hg2, List.append_assoc]
  rfl
theorem gone_full (h : Gone sg rs s F t i L u) (hi : ¬ i < F) : runS sg rs s F t = L := by
  have : F - i = 0 := by omega
  rw [h.1, this]
  exact List.append_nil L
theorem gone_none (h : Gone sg rs s F t i L u) (hp : pickL sg rs u s = none) : runS sg rs s F t = L := by rw [h.1, run_none hp, List.append_nil]
theorem gone_stop {p : Int × Int} (h : Gone sg rs s F t i L u) (hp : pickL sg rs u s = some p) (hs : stepAtO sg rs u p.1 p.2 = none) : runS sg rs s F t = L := by rw [h.1, run_stop hp hs, List.append_nil]
theorem by_done (hR : runS sg rs s F t = L) (hu : u = endL (t, L)) (hb : byB sg rs t s (F : Int) = true) : byW sg rs t s (F : Int) = (t, L) ∧ byD sg rs t s (F : Int) = normalB sg rs u := by
  unfold byD byW
  rw [hb, if_pos rfl, Int.toNat_natCast, hR, ← hu, Bool.true_and]
  exact ⟨rfl, rfl⟩
theorem by_off {f : Int} (h : byB sg rs t s f = false) : byW sg rs t s f = ([], []) ∧ byD sg rs t s f = false := by
  unfold byD byW
  rw [h, if_neg (by simp), Bool.false_and]
  exact ⟨rfl, rfl⟩
theorem by_no1 {f : Int} (h : (rightB sg rs t && stratB s) = false) : byB sg rs t s f = false := by
  unfold byB
  rw [← Bool.and_assoc, h]
  rfl
theorem by_no2 {f : Int} (h : fuelB f = false) : byB sg rs t s f = false := by unfold byB; rw [h, Bool.and_false, Bool.and_false]
theorem by_yes {f : Int} (h : (rightB sg rs t && stratB s) = true) (h2 : fuelB f = true) : byB sg rs t s f = true := by
  unfold byB
  rw [← Bool.and_assoc, h, h2]
  rfl
/-- what is selected is a redex, the step by it is that of its rule -/
theorem pick_step {p : Int × Int} (hr : rightB sg rs u = true) (h : pickL sg rs u s = some p) : ∃ a k : Nat, p = ((a : Int), (k : Int)) ∧ a < u.length ∧ k < rs.length ∧ redB sg (rs.getD k ([], [])) u a = true ∧ (∀ j, j < k → redB sg (rs.getD j ([], [])) u a = false) ∧ stepAtO sg rs u p.1 p.2 = stepO sg (rs.getD k ([], [])) u a := by
  obtain ⟨a, k, rfl, ha, hk, h1, h2⟩ := pick_some h
  refine ⟨a, k, rfl, ha, hk, h1, h2, ?_⟩
  unfold rightB at hr
  rw [Bool.and_eq_true] at hr
  unfold stepAtO
  rw [if_pos (there_mk hr.1 hr.2 (by omega) (by omega))]
  unfold rl
  rw [Int.toNat_natCast, Int.toNat_natCast]
/-- a walk has come to its end exactly if nothing is selected any more -/
theorem normal_pick (hr : rightB sg rs u = true) : normalB sg rs u = (pickL sg rs u s).isNone := by
  rw [places_empty hr]
  cases h : pickL sg rs u s with
  | none => rw [pick_none.1 h]; rfl
  | some p =>
    have : placesL sg rs u ≠ [] := fun e => by rw [pick_none.2 e] at h; cases h
    rw [decide_eq_false this]
    rfl
end
section
variable {sg : List Int} {rs : List Rl} {t : List Int}
theorem by_walk {s f : Int} (h : byB sg rs t s f = true) : walkB sg rs (byW sg rs t s f) = true := by
  have h0 := h
  unfold byB at h
  rw [Bool.and_eq_true, Bool.and_eq_true] at h
  obtain ⟨hr, hs, hf⟩ := h
  unfold fuelB at hf
  rw [decide_eq_true_iff] at hf
  unfold rightB at hr
  rw [Bool.and_eq_true] at hr
  unfold byW
  rw [if_pos h0]
  exact walk_mk hr.1 hr.2 (Nat.le_trans (run_len _ _ _ _ _) (by omega)) run_walk
end
end Go.Proofs.YtfkgiimcnlagmaaGreat.orderMath
end

section
/-
  MATHEMATICS for laws.FnRedexes and FnOrders: below an innermost redex there is none, above an outermost one neither; there is one of each kind if there is a redex; the walk of a strategy is a walk. No Go in it. By an AI agent.
-/
namespace Go.Proofs.YtfkgiimcnlagmaaGreat.orderMath
open Go.Proofs.YtfkgiimcnlagmaaGreat.sig Go.Proofs.YtfkgiimcnlagmaaGreat.term Go.Proofs.YtfkgiimcnlagmaaGreat.termOk Go.Proofs.YtfkgiimcnlagmaaGreat.termFacts Go.Proofs.YtfkgiimcnlagmaaGreat.endAt Go.Proofs.YtfkgiimcnlagmaaGreat.posMath Go.Proofs.YtfkgiimcnlagmaaGreat.inside Go.Proofs.YtfkgiimcnlagmaaGreat.ruleMath Go.Proofs.YtfkgiimcnlagmaaGreat.stepMath Go.Proofs.YtfkgiimcnlagmaaGreat.walkMath Go.Proofs.YtfkgiimcnlagmaaGreat.stepsMath

theorem get_lt {l : List Int} {i : Nat} (h : i < l.length) : l.getD i 0 = l[i] := by rw [List.getD_eq_getElem?_getD, List.getElem?_eq_getElem h, Option.getD_some]
theorem mem_get {l : List Int} {x : Int} (h : x ∈ l) : ∃ i, i < l.length ∧ l.getD i 0 = x := by
  obtain ⟨i, hi, e⟩ := List.mem_iff_getElem.1 h
  exact ⟨i, hi, by rw [get_lt hi, e]⟩
section
variable {E : Int → Int} {l : List Int}
end
section
variable {sg : List Int} {rs : List Rl} {t : List Int}
theorem right_ok (h : rightB sg rs t = true) : termOkB sg t = true := by
  unfold rightB at h
  rw [Bool.and_eq_true] at h
  exact h.2
theorem endR_at (h : termOkB sg t = true) {a : Nat} (ha : a < t.length) : endR sg t (a : Int) = ((a + len1 sg t a : Nat) : Int) := by unfold endR; rw [Int.toNat_natCast]; exact end_at h ha
end
end Go.Proofs.YtfkgiimcnlagmaaGreat.orderMath
end

section
/-
  CONTRACTS: spec.InmostIn, OutmostIn. Conditions: the system and the term read as data ('Rd'), at most 1048576 numbers. By an AI agent.
-/
namespace Go.Proofs.YtfkgiimcnlagmaaGreat.orderSpec
open Go.RowKit Go.Proofs.YtfkgiimcnlagmaaGreat.base Go.Proofs.YtfkgiimcnlagmaaGreat.ints Go.Proofs.YtfkgiimcnlagmaaGreat.sig Go.Proofs.YtfkgiimcnlagmaaGreat.term Go.Proofs.YtfkgiimcnlagmaaGreat.termOk Go.Proofs.YtfkgiimcnlagmaaGreat.endAt Go.Proofs.YtfkgiimcnlagmaaGreat.endOf Go.Proofs.YtfkgiimcnlagmaaGreat.marks Go.Proofs.YtfkgiimcnlagmaaGreat.app Go.Proofs.YtfkgiimcnlagmaaGreat.sym Go.Proofs.YtfkgiimcnlagmaaGreat.sub Go.Proofs.YtfkgiimcnlagmaaGreat.segs Go.Proofs.YtfkgiimcnlagmaaGreat.segsHelp Go.Proofs.YtfkgiimcnlagmaaGreat.kinds Go.Proofs.YtfkgiimcnlagmaaGreat.termFacts Go.Proofs.YtfkgiimcnlagmaaGreat.shifted Go.Proofs.YtfkgiimcnlagmaaGreat.matchMath Go.Proofs.YtfkgiimcnlagmaaGreat.matchSpec Go.Proofs.YtfkgiimcnlagmaaGreat.shape Go.Proofs.YtfkgiimcnlagmaaGreat.kindsR Go.Proofs.YtfkgiimcnlagmaaGreat.kindsW Go.Proofs.YtfkgiimcnlagmaaGreat.ruleMath Go.Proofs.YtfkgiimcnlagmaaGreat.ruleSpec Go.Proofs.YtfkgiimcnlagmaaGreat.stepMath Go.Proofs.YtfkgiimcnlagmaaGreat.walkMath Go.Proofs.YtfkgiimcnlagmaaGreat.stepsMath Go.Proofs.YtfkgiimcnlagmaaGreat.varsOf Go.Proofs.YtfkgiimcnlagmaaGreat.stepSpec Go.Proofs.YtfkgiimcnlagmaaGreat.orderMath Go.Proofs.YtfkgiimcnlagmaaGreat.appAt
set_option maxRecDepth 100000

theorem ownLt {w : World} {base : Nat} {A : Option Addr} {n c : Nat} {xs : List Int} (h : Own w base (.slice A n c) xs) : ∀ k, blk A = some k → base ≤ k ∧ k < w.heap.size := fun k hk => World.ownsRow.lt h k (by rw [blk_own]; exact hk)
/-- .. and a list that is read -/
structure Lq (w : World) (a v : Value) (A : Option Addr) (n c : Nat) (all : List Int) (O : Option Addr) (on oc : Nat) (L : List Int) (wr : World) : Prop where
  t : Lo w a v O on oc L wr
  s : Own wr (w.heap.size + 1) (.slice A n c) all
  ne : ∀ k, blk A = some k → blk O ≠ some k
section
variable {w wr w' : World} {a v : Value} {A O : Option Addr} {n c on oc : Nat} {all L : List Int}
theorem Lq.next (h : Lq w a v A n c all O on oc L wr) (hb : Below wr.heap.size wr w') : Lq w a v A n c all O on oc L w' := ⟨h.t.next hb, Own.next h.s hb, h.ne⟩
theorem Lq.app {O' : Option Addr} {oc' : Nat} {y : Int} {o : Obj} (h : Lq w a v A n c all O on oc L wr) (ho : Own w' (w.heap.size + 1) (.slice O' (on + 1) oc') (L ++ [y])) (hg : (wr.alloc o).grownBy w' (blk O)) (hat : blk O' = blk O ∨ blk O' = some (wr.alloc o).heap.size) : Lq w a v A n c all O' (on + 1) oc' (L ++ [y]) w' := by
  have z1 : w.heap.size < wr.heap.size := h.t.r.lt
  have hb : Below (w.heap.size + 1) wr w' := ((Below.refl (w.heap.size + 1) wr).alloc z1 o).trans ((Below.refl _ _).grown hg (by simp; omega) (fun k hk => (ownLt h.t.o k hk).1))
  refine ⟨h.t.over ho hb, Own.kept (Own.alloc h.s o) hg ?_, fun k hk e => ?_⟩
  · cases hA : blk A with
    | none => exact .inl rfl
    | some k => exact .inr fun e => h.ne k hA e.symm
  · rcases hat with hat | hat
    · exact h.ne k hk (by rw [← hat]; exact e)
    · rw [hat] at e
      injection e with e
      have := (ownLt h.s k hk).2
      simp at e
      omega
end
theorem mem_get {l : List Int} {k n : Nat} (hl : l.length = n) (hk : k < n) : l.getD k 0 ∈ l := by rw [List.getD_eq_getElem?_getD, List.getElem?_eq_getElem (by omega), Option.getD_some]; exact List.getElem_mem _
/-- an element of the places: a place of a valid term, its end is a number of the machine's -/
theorem place_at {sg : List Int} {rs : List Rl} {t : List Int} {k n : Nat} (hl : (placesI sg rs t).length = n) (hk : k < n) : ∃ p : Nat, (placesI sg rs t).getD k 0 = (p : Int) ∧ p < t.length ∧ termOkB sg t = true ∧ ∃ e : Nat, endR sg t (p : Int) = (e : Int) ∧ e ≤ 60 ∧ p < 60 := by
  obtain ⟨hr, p, hp, -, e⟩ := placesI_mem (mem_get hl hk)
  have ht := right_ok hr
  have h60 := (term_len ht).2
  refine ⟨p, e, hp, ht, p + len1 sg t p, endR_at ht hp, ?_, by omega⟩
  have := (posMath.term_at ht hp).2.2
  omega
theorem placesI_len {sg : List Int} {rs : List Rl} {t : List Int} : (placesI sg rs t).length ≤ 60 := by
  unfold placesI
  split
  · rename_i h
    have h60 := (term_len (right_ok h)).2
    exact Nat.le_trans (pl_len _) h60
  · exact Nat.zero_le _
/-- l1End of a place -/
theorem endOn {W : World} {A T : Option Addr} {n cs m c p : Nat} {sg t : List Int} (h : Seg W W.heap.size A n sg) (h' : Seg W W.heap.size T m t) (hn : n ≤ 1048576) (hm : m ≤ 1048576) (ht : termOkB sg t = true) (hp : p < t.length) :
    Calls Tryz.prog 128 #[.agg #[.slice A n cs], .slice T m c, .int .i64 (p : Int)] W fun e w' => e = .returned (.int .i64 (endR sg t (p : Int))) ∧ Below W.heap.size W w' := by
  have hl := h'.1
  refine (specEnd A T n cs m c sg t (p : Int) W h h' hn hm (sig_arities (termOk_parts ht).1).1 (by omega) (by omega)).mono ?_
  rintro e w' ⟨he, hb⟩
  exact ⟨he, hb⟩

set_option maxHeartbeats 4000000 in
theorem specInmostIn (a v u : Value) (d : Dat sSystem) (t : List Int) (w : World) (h : Rd w w.heap.size sSystem [a, v] d) (ht : Rd w w.heap.size sI [u] t) (hz : sz sSystem d ≤ 1048576) (hz' : sz sI t ≤ 1048576) :
    Calls Tryz.prog 141 #[.agg #[a, v], u] w (AnsList w (inmostI d.1 d.2 t)) := by
  have htv := ht
  have h0 := h
  obtain ⟨T, m, c, rfl, hT, hcT⟩ := rd_ints.1 ht
  obtain ⟨A0, n0, cs0, V, q, cv, rfl, rfl, hs, hc, hcv, hq, hn, hq1, hrs, hsg, hE⟩ := rd_sys h hz
  have hm := len_ints hT.1 hz'
  obtain ⟨W, hW⟩ : ∃ W, W = (w.alloc (.cells #[.slice A0 n0 cs0, .slice V q cv] 29)).alloc (.cells #[] 2) := ⟨_, rfl⟩
  have T0 : Lo w (.slice A0 n0 cs0) (.slice V q cv) (some ⟨w.heap.size + 1, 0, none⟩) 0 0 [] W := by
    rw [hW]
    refine ⟨(Row.new _ _ _).alloc _, ?_, ((Below.refl _ _).alloc (Nat.le_refl _) _).alloc (by simp) _⟩
    have := own_empty (w.alloc (.cells #[.slice A0 n0 cs0, .slice V q cv] 29)) (w.heap.size + 1) (by simp)
    simpa using this
  have hzW : W.heap.size = w.heap.size + 2 := by rw [hW]; simp
  have LA := Lib.hid (specRedexesIn _ _ _ d t W (h0.next T0.b) (htv.next T0.b) hz hz')
  have LE := Lib.hid (fun (w1 : World) (bb : Below w.heap.size w w1) p hok (hp : p < t.length) => endOn (cs := cs0) (c := c) (hs.next bb) (hT.next bb) hn hm hok hp)
  have K0 : W.cell? ⟨w.heap.size, 0, none⟩ = some (.slice A0 n0 cs0) := T0.r.cell 0
  have K1 : W.cell? ⟨w.heap.size, 1, none⟩ = some (.slice V q cv) := T0.r.cell 1
  have HW := Lib.hid hW
  have H0 := Lib.hid T0
  have HZW := Lib.hid hzW
  clear hW h h0 ht htv hT hcT T0 hs hc hcv hq hrs hsg hE hzW
  go_enter Tryz.func141, Tryz.ntmps141
  go_wp2_with fail
  rw [← HW.out]
  go_wp2_with fail
  refine LA.out.mono ?_
  rintro e w1 ⟨A, n, cA, rfl, oA, bb⟩
  have hnl : (placesI d.1 d.2 t).length = n := (Own.len oA).symm
  have hn60 : n ≤ 60 := by rw [← hnl]; exact placesI_len
  have HNL := Lib.hid hnl
  have H1 := Lib.hid (show Lq w (.slice A0 n0 cs0) (.slice V q cv) A n cA (placesI d.1 d.2 t) (some ⟨w.heap.size + 1, 0, none⟩) 0 0 [] w1 from
    ⟨H0.out.next bb, Own.lower oA (by rw [HZW.out]; omega), fun k hk e => by
      have h1 := (ownLt oA k hk).1
      rw [HZW.out] at h1
      injection e with e
      have e : w.heap.size + 1 = k := e
      omega⟩)
  clear oA bb H0 K0 K1 HW LA hnl HZW
  go_wp2_with fail
  go_loopg [5, 7] n (fun g out i_ wr => ∃ (i on oc : Nat) (O : Option Addr), i_ = .int .i64 i ∧ i + g = n ∧ out = .slice O on oc ∧ on ≤ i ∧ Lq w (.slice A0 n0 cs0) (.slice V q cv) A n cA (placesI d.1 d.2 t) O on oc (inN (endR d.1 t) (placesI d.1 d.2 t) i) wr)
  case atStart => exact ⟨0, 0, 0, _, rfl, by omega, rfl, Nat.le_refl _, H1.out⟩
  case round =>
    clear H1
    obtain ⟨i, on, oc, O, rfl, hig, rfl, hon, S⟩ := hrel
    have HI := Lib.hid hig
    have HS := Lib.hid S
    have K0 : wr.cell? ⟨w.heap.size, 0, none⟩ = some (.slice A0 n0 cs0) := S.t.r.cell 0
    have K1 : wr.cell? ⟨w.heap.size, 1, none⟩ = some (.slice V q cv) := S.t.r.cell 1
    by_cases hi : i < n
    · have h1 : (i : Int) < (n : Int) := by omega
      have h2 : (0 : Int) ≤ (i : Int) := by omega
      obtain ⟨b, off, eA, hbl, ci⟩ := (Own.seg S.s).round hi
      subst eA
      obtain ⟨p, hp, hpt, htok, e, he, he60, hp60⟩ := place_at HNL.out hi
      rw [hp] at ci
      have HP := Lib.hid hp
      have HEE := Lib.hid he
      have LE1 := Lib.hid (fun w1 bb => LE.out w1 bb p htok hpt)
      have zA : w.heap.size < wr.heap.size := S.t.r.lt
      have bel := Lib.hid S.t.b
      clear S hp he hpt htok hig LE
      obtain ⟨y, hy⟩ : ∃ y, (placesI d.1 d.2 t).getD (i + 1) 0 = y := ⟨_, rfl⟩
      have HY := Lib.hid hy
      have hcn : i + 1 < n → wr.cell? ⟨b, off + (i + 1), none⟩ = some (.int .i64 y) := fun hlt => by
        obtain ⟨b', off', e1, -, c1⟩ := (Own.seg HS.out.s).round hlt
        injection e1 with e1
        injection e1 with e1 e2
        subst e1 e2
        rw [hy] at c1
        exact c1
      have HCN := Lib.hid hcn
      have zB : b < wr.heap.size := hbl
      clear hy hcn
      go_wp2_with fail
      go_region_held3 (fun w' => w'.cell? ⟨w.heap.size, 0, none⟩ = some (.slice A0 n0 cs0) ∧ w'.cell? ⟨b, off + i, none⟩ = some (.int .i64 (p : Int)))
        (go_keep)
        (first
          | (go_at_call 128; refine (LE1.out _ bel.out.drew).mono ?_; rintro e w2 ⟨rfl, bb⟩; rw [HEE.out]; have k0 : w2.cell? ⟨w.heap.size, 0, none⟩ = some (.slice A0 n0 cs0) := (bb.cell (p := ⟨w.heap.size, 0, none⟩) zA).trans K0; have ci2 : w2.cell? ⟨b, off + i, none⟩ = some (.int .i64 (p : Int)) := (bb.cell (p := ⟨b, off + i, none⟩) zB).trans ci))
      have S2 := Lib.hid ((HS.out.next (drew_below wr)).next bb)
      have hcn2 : i + 1 < n → w2.cell? ⟨b, off + (i + 1), none⟩ = some (.int .i64 y) := fun hlt => (bb.cell (p := ⟨b, off + (i + 1), none⟩) zB).trans (HCN.out hlt)
      clear K0 K1 ci HCN bb HS bel LE1
      by_cases hl : i + 1 = n
      · have q1 : (i : Int) + 1 = (n : Int) := by omega
        have HC := Lib.hid (show i + 1 = (placesI d.1 d.2 t).length ∨ endR d.1 t ((placesI d.1 d.2 t).getD i 0) ≤ (placesI d.1 d.2 t).getD (i + 1) 0 from .inl (by rw [HNL.out]; exact hl))
        have ho : Own w2 (w.heap.size + 1) (.slice O on oc) (inN (endR d.1 t) (placesI d.1 d.2 t) i) := S2.out.t.o
        have hsz : w.heap.size < w2.heap.size := S2.out.t.r.lt
        go_wp2_with (at_builtin; refine app1Q rfl _ _ rfl (w.heap.size + 1) O on oc _ rfl (Own.alloc ho _) w2.heap.size 1 (p : Int) rfl ((Row.new _ _ _).cell 0) (by omega) (by simp; omega) ?_; intro O' oc' w4 ho4 hg4 hat4)
        have F := Lib.hid (show Lq w (.slice A0 n0 cs0) (.slice V q cv) (some ⟨b, off, none⟩) n cA (placesI d.1 d.2 t) O' (on + 1) oc' (inN (endR d.1 t) (placesI d.1 d.2 t) (i + 1)) w4 from by rw [in_yes HC.out, HP.out]; exact S2.out.app ho4 hg4 hat4)
        clear ho4 hg4 hat4 ho S2 HC
        go_wp2
        go_roundg (gk - 1)
        case measure => have := HI.out; omega
        case rel => exact ⟨i + 1, on + 1, oc', O', by (first | (simp; done) | (simp; omega)), by have := HI.out; omega, rfl, by omega, F.out⟩
      · have q1 : ¬ (i : Int) + 1 = (n : Int) := by omega
        have q2 : (i : Int) + 1 < (n : Int) := by omega
        have q3 : (0 : Int) ≤ (i : Int) + 1 := by omega
        have cy := hcn2 (by omega)
        by_cases hye : (e : Int) ≤ y
        · have HC := Lib.hid (show i + 1 = (placesI d.1 d.2 t).length ∨ endR d.1 t ((placesI d.1 d.2 t).getD i 0) ≤ (placesI d.1 d.2 t).getD (i + 1) 0 from .inr (by rw [HP.out, HEE.out, HY.out]; exact hye))
          have ho : Own w2 (w.heap.size + 1) (.slice O on oc) (inN (endR d.1 t) (placesI d.1 d.2 t) i) := S2.out.t.o
          have hsz : w.heap.size < w2.heap.size := S2.out.t.r.lt
          go_wp2_with (at_builtin; refine app1Q rfl _ _ rfl (w.heap.size + 1) O on oc _ rfl (Own.alloc ho _) w2.heap.size 1 (p : Int) rfl ((Row.new _ _ _).cell 0) (by omega) (by simp; omega) ?_; intro O' oc' w4 ho4 hg4 hat4)
          have F := Lib.hid (show Lq w (.slice A0 n0 cs0) (.slice V q cv) (some ⟨b, off, none⟩) n cA (placesI d.1 d.2 t) O' (on + 1) oc' (inN (endR d.1 t) (placesI d.1 d.2 t) (i + 1)) w4 from by rw [in_yes HC.out, HP.out]; exact S2.out.app ho4 hg4 hat4)
          clear ho4 hg4 hat4 ho S2 HC
          go_wp2
          go_roundg (gk - 1)
          case measure => have := HI.out; omega
          case rel => exact ⟨i + 1, on + 1, oc', O', by (first | (simp; done) | (simp; omega)), by have := HI.out; omega, rfl, by omega, F.out⟩
        · have HC := Lib.hid (show ¬ (i + 1 = (placesI d.1 d.2 t).length ∨ endR d.1 t ((placesI d.1 d.2 t).getD i 0) ≤ (placesI d.1 d.2 t).getD (i + 1) 0) from by rw [HNL.out, HP.out, HEE.out, HY.out]; omega)
          have F := Lib.hid (show Lq w (.slice A0 n0 cs0) (.slice V q cv) (some ⟨b, off, none⟩) n cA (placesI d.1 d.2 t) O on oc (inN (endR d.1 t) (placesI d.1 d.2 t) (i + 1)) w2 from by rw [in_no HC.out]; exact S2.out)
          clear S2 HC
          go_wp2
          go_roundg (gk - 1)
          case measure => have := HI.out; omega
          case rel => exact ⟨i + 1, on, oc, O, by simp, by have := HI.out; omega, rfl, by omega, F.out⟩
    · have e1 : i = n := by have := HI.out; omega
      subst e1
      have h1 : ¬ (i : Int) < (i : Int) := by omega
      have F := Lib.hid (HS.out.t.list (show _ = inmostI d.1 d.2 t by unfold inmostI inL; rw [HNL.out]))
      clear HS LE K0 K1 S
      go_wp2
      go_ret
      exact F.out
theorem seg_cell {w : World} {B b off n i : Nat} {L : List Int} {p : Int} (h : Seg w B (some ⟨b, off, none⟩) n L) (hi : i < n) (hp : L.getD i 0 = p) : w.cell? ⟨b, off + i, none⟩ = some (.int .i64 p) := by
  obtain ⟨b', off', e1, -, c1⟩ := h.round hi
  injection e1 with e1
  injection e1 with e1 e2
  subst e1 e2
  rw [hp] at c1
  exact c1

end Go.Proofs.YtfkgiimcnlagmaaGreat.orderSpec
end

section
/-
  CONTRACTS: spec.l8Places (the places of which a strategy takes the first one), l8Right, PickBy. Conditions: the system and the term read as data ('Rd'), at most 1048576 numbers; the strategy is an int64. By an AI agent.
-/
namespace Go.Proofs.YtfkgiimcnlagmaaGreat.orderSpec
open Go.RowKit Go.Proofs.YtfkgiimcnlagmaaGreat.base Go.Proofs.YtfkgiimcnlagmaaGreat.ints Go.Proofs.YtfkgiimcnlagmaaGreat.sig Go.Proofs.YtfkgiimcnlagmaaGreat.term Go.Proofs.YtfkgiimcnlagmaaGreat.termOk Go.Proofs.YtfkgiimcnlagmaaGreat.endAt Go.Proofs.YtfkgiimcnlagmaaGreat.endOf Go.Proofs.YtfkgiimcnlagmaaGreat.marks Go.Proofs.YtfkgiimcnlagmaaGreat.app Go.Proofs.YtfkgiimcnlagmaaGreat.sym Go.Proofs.YtfkgiimcnlagmaaGreat.sub Go.Proofs.YtfkgiimcnlagmaaGreat.segs Go.Proofs.YtfkgiimcnlagmaaGreat.segsHelp Go.Proofs.YtfkgiimcnlagmaaGreat.kinds Go.Proofs.YtfkgiimcnlagmaaGreat.termFacts Go.Proofs.YtfkgiimcnlagmaaGreat.shifted Go.Proofs.YtfkgiimcnlagmaaGreat.shape Go.Proofs.YtfkgiimcnlagmaaGreat.kindsR Go.Proofs.YtfkgiimcnlagmaaGreat.kindsW Go.Proofs.YtfkgiimcnlagmaaGreat.ruleMath Go.Proofs.YtfkgiimcnlagmaaGreat.ruleSpec Go.Proofs.YtfkgiimcnlagmaaGreat.stepMath Go.Proofs.YtfkgiimcnlagmaaGreat.walkMath Go.Proofs.YtfkgiimcnlagmaaGreat.stepsMath Go.Proofs.YtfkgiimcnlagmaaGreat.varsOf Go.Proofs.YtfkgiimcnlagmaaGreat.stepSpec Go.Proofs.YtfkgiimcnlagmaaGreat.orderMath Go.Proofs.YtfkgiimcnlagmaaGreat.appAt
set_option maxRecDepth 100000

/-- the places of which spec takes the first one -/
def spL (sg : List Int) (rs : List Rl) (t : List Int) (s : Int) : List Int := if s = 1 then inmostI sg rs t else if s = 2 then placesI sg rs t else (placesI sg rs t).drop ((placesI sg rs t).length - 1)
theorem placesL_of {sg : List Int} {rs : List Rl} {t : List Int} (h : rightB sg rs t = true) : placesI sg rs t = placesL sg rs t := by unfold placesI; rw [if_pos h]
theorem last_head (l : List Int) : (l.drop (l.length - 1)).head? = l.reverse.head? := by
  rw [List.head?_reverse, List.head?_drop]
  cases l with
  | nil => rfl
  | cons x r => rw [List.getLast?_eq_getElem?]
theorem spL_head {sg : List Int} {rs : List Rl} {t : List Int} {s : Int} (h : rightB sg rs t = true) : (spL sg rs t s).head? = (selL sg rs t s).head? := by
  unfold spL selL inmostI
  rw [placesL_of h]
  split
  · rfl
  · split
    · rfl
    · exact last_head _
/-- what a strategy selects, as a call tells it -/
def AnsPick (w : World) (o : Option (Int × Int)) (e : Ending) (w' : World) : Prop := e = .returned (.tuple #[.int .i64 ((o.map (·.1)).getD 0), .int .i64 ((o.map (·.2)).getD 0), .bool o.isSome]) ∧ Below w.heap.size w w'
theorem ansPick_none {w w' : World} {o : Option (Int × Int)} (h : o = none) (hb : Below w.heap.size w w') : AnsPick w o (.returned (.tuple #[.int .i64 0, .int .i64 0, .bool false])) w' := ⟨by rw [h]; rfl, hb⟩
theorem ansPick_some {w w' : World} {o : Option (Int × Int)} {a r : Int} (h : o = some (a, r)) (hb : Below w.heap.size w w') : AnsPick w o (.returned (.tuple #[.int .i64 a, .int .i64 r, .bool true])) w' := ⟨by rw [h]; rfl, hb⟩
theorem pickO_no {sg : List Int} {rs : List Rl} {t : List Int} {s : Int} (h : (rightB sg rs t && stratB s) = false) : pickO sg rs t s = none := by
  unfold pickO
  rw [if_neg]
  rw [Bool.and_eq_false_iff] at h
  rintro ⟨h1, h2⟩
  rcases h with h | h
  · rw [h1] at h; cases h
  · rw [h2] at h; cases h
theorem pickO_yes {sg : List Int} {rs : List Rl} {t : List Int} {s : Int} (h1 : rightB sg rs t = true) (h2 : stratB s = true) : pickO sg rs t s = pickL sg rs t s := by unfold pickO; rw [if_pos ⟨h1, h2⟩]
theorem pickL_nil {sg : List Int} {rs : List Rl} {t : List Int} {s : Int} (h : (selL sg rs t s).head? = none) : pickL sg rs t s = none := by unfold pickL; rw [h]; rfl
theorem pickL_at {sg : List Int} {rs : List Rl} {t : List Int} {s x : Int} (h : (selL sg rs t s).head? = some x) : pickL sg rs t s = some (x, ruleF sg rs t x.toNat) := by unfold pickL; rw [h]; rfl
theorem sel_at {sg : List Int} {rs : List Rl} {t : List Int} {s x : Int} (h : (selL sg rs t s).head? = some x) : ∃ a : Nat, x = (a : Int) ∧ a < t.length := by
  have h1 : x ∈ selL sg rs t s := List.mem_of_head? h
  obtain ⟨a, ha, -, e⟩ := pl_mem.1 (show x ∈ plN sg rs t t.length from sel_mem h1)
  exact ⟨a, e, ha⟩

set_option maxHeartbeats 2000000 in
theorem l8Right (a v u : Value) (d : Dat sSystem) (t : List Int) (s : Int) (w : World) (h : Rd w w.heap.size sSystem [a, v] d) (ht : Rd w w.heap.size sI [u] t) (hz : sz sSystem d ≤ 1048576) (hz' : sz sI t ≤ 1048576) :
    Calls Tryz.prog 41 #[.agg #[a, v], u, .int .i64 s] w (AnsB w (rightB d.1 d.2 t && stratB s)) := by
  obtain ⟨T, m, c, rfl, hT, hcT⟩ := rd_ints.1 ht
  have hm := len_ints hT.1 hz'
  obtain ⟨W, hW, rA, bel⟩ := box1 w 29 #[a, v]
  have HW := Lib.hid hW
  have L1 := Lib.hid (l7Right a v d T m c t W (h.next bel) hz (hT.next bel) hm)
  clear hW h hz hT hcT ht
  cases ok : rightB d.1 d.2 t with
  | false =>
    have HS := Lib.hid ok
    clear ok
    go_enter Tryz.func41, Tryz.ntmps41
    go_wp2_with fail
    rw [← HW.out]
    refine L1.out.mono ?_
    rintro e w1 ⟨he, bb⟩
    rw [HS.out] at he
    subst he
    have F := Lib.hid (show AnsB w (false && stratB s) (.returned (.bool false)) w1 from ⟨rfl, next_trans bel bb⟩)
    clear bb bel rA
    go_wp2
    go_ret
    exact F.out
  | true =>
    have HS := Lib.hid ok
    clear ok
    by_cases hs : 1 ≤ s ∧ s ≤ 3
    · have HB := Lib.hid (show stratB s = true from decide_eq_true hs)
      have hy := inYes s 1 3
      go_enter Tryz.func41, Tryz.ntmps41
      go_wp2_with fail
      rw [← HW.out]
      refine L1.out.mono ?_
      rintro e w1 ⟨he, bb⟩
      rw [HS.out] at he
      subst he
      have HY := Lib.hid (hy w1 hs)
      have F := Lib.hid (show AnsB w (true && stratB s) (.returned (.bool true)) w1 from ⟨by rw [HB.out]; rfl, next_trans bel bb⟩)
      clear bb bel rA hs hy
      go_wp2_with fail
      refine HY.out.mono ?_
      rintro e w2 ⟨rfl, rfl⟩
      go_wp2
      go_ret
      exact F.out
    · have HB := Lib.hid (show stratB s = false from decide_eq_false hs)
      have hy := inNo s 1 3
      go_enter Tryz.func41, Tryz.ntmps41
      go_wp2_with fail
      rw [← HW.out]
      refine L1.out.mono ?_
      rintro e w1 ⟨he, bb⟩
      rw [HS.out] at he
      subst he
      have HY := Lib.hid (hy w1 hs)
      have F := Lib.hid (show AnsB w (true && stratB s) (.returned (.bool false)) w1 from ⟨by rw [HB.out]; rfl, next_trans bel bb⟩)
      clear bb bel rA hs hy
      go_wp2_with fail
      refine HY.out.mono ?_
      rintro e w2 ⟨rfl, rfl⟩
      go_wp2
      go_ret
      exact F.out

set_option maxHeartbeats 2000000 in
theorem l8Places (a v u : Value) (d : Dat sSystem) (t : List Int) (s : Int) (w : World) (h : Rd w w.heap.size sSystem [a, v] d) (ht : Rd w w.heap.size sI [u] t) (hz : sz sSystem d ≤ 1048576) (hz' : sz sI t ≤ 1048576) :
    Calls Tryz.prog 98 #[.agg #[a, v], u, .int .i64 s] w (AnsSeg w (spL d.1 d.2 t s)) := by
  obtain ⟨W, hW, rA, bel⟩ := box1 w 29 #[a, v]
  have HW := Lib.hid hW
  have LP := Lib.hid (specRedexesIn a v u d t W (h.next bel) (ht.next bel) hz hz')
  have LI := Lib.hid (specInmostIn a v u d t W (h.next bel) (ht.next bel) hz hz')
  have K0 : W.cell? ⟨w.heap.size, 0, none⟩ = some a := rA.cell 0
  have K1 : W.cell? ⟨w.heap.size, 1, none⟩ = some v := rA.cell 1
  obtain ⟨T, m, c, rfl, -, -⟩ := rd_ints.1 ht
  clear hW h hz ht
  by_cases h1 : s = 1
  · subst h1
    clear LP
    go_enter Tryz.func98, Tryz.ntmps98
    go_wp2_with fail
    rw [← HW.out]
    go_wp2_with fail
    refine LI.out.mono ?_
    rintro e w1 ⟨O, on, oc, rfl, oO, bb⟩
    have F := Lib.hid (show AnsSeg w (spL d.1 d.2 t 1) (.returned (.slice O on oc)) w1 from ⟨O, on, oc, rfl, Own.seg oO, next_trans bel bb⟩)
    clear oO bb bel rA LI K0 K1
    go_wp2
    go_ret
    exact F.out
  · by_cases h2 : s = 2
    · subst h2
      clear LI
      go_enter Tryz.func98, Tryz.ntmps98
      go_wp2_with fail
      rw [← HW.out]
      go_wp2_with fail
      refine LP.out.mono ?_
      rintro e w1 ⟨O, on, oc, rfl, oO, bb⟩
      have F := Lib.hid (show AnsSeg w (spL d.1 d.2 t 2) (.returned (.slice O on oc)) w1 from ⟨O, on, oc, rfl, Own.seg oO, next_trans bel bb⟩)
      clear oO bb bel rA LP K0 K1
      go_wp2
      go_ret
      exact F.out
    · have HF := Lib.hid (show spL d.1 d.2 t s = (placesI d.1 d.2 t).drop ((placesI d.1 d.2 t).length - 1) by unfold spL; rw [if_neg h1, if_neg h2])
      have d1 : decide (s = 1) = false := decide_eq_false h1
      have d2 : decide (s = 2) = false := decide_eq_false h2
      clear LI
      go_enter Tryz.func98, Tryz.ntmps98
      go_wp2_with fail
      rw [← HW.out]
      go_wp2_with fail
      refine LP.out.mono ?_
      rintro e w1 ⟨O, on, oc, rfl, oO, bb⟩
      have hl := Own.len oO
      have hn60 : on ≤ 60 := by rw [hl]; exact placesI_len
      have hcap := (look.own_cap oO).1
      by_cases h0 : on = 0
      · subst h0
        have F := Lib.hid (show AnsSeg w (spL d.1 d.2 t s) (.returned (.slice O 0 oc)) w1 from ⟨O, 0, oc, rfl, by
          have e0 : placesI d.1 d.2 t = [] := List.eq_nil_of_length_eq_zero hl.symm
          rw [HF.out, e0]
          have := Own.seg oO
          rw [e0] at this
          exact this, next_trans bel bb⟩)
        clear oO bb bel rA LP K0 K1 hl
        go_wp2
        go_ret
        exact F.out
      · obtain ⟨b, off, rfl, hbl, hcs⟩ := (Own.seg oO).2 (by omega)
        have hpos : (0 : Int) < (on : Int) := by omega
        have hsub : ((on : Int) - 1).toNat = on - 1 := by omega
        have p1 : (0 : Int) ≤ (on : Int) - 1 := by omega
        have p2 : (on : Int) - 1 ≤ (oc : Int) := by omega
        have hne : ¬ on - 1 = oc := by omega
        have hln : on - (on - 1) = 1 := by omega
        have F := Lib.hid (show AnsSeg w (spL d.1 d.2 t s) (.returned (.slice (some ⟨b, off + (on - 1), none⟩) 1 (oc - (on - 1)))) w1 from ⟨_, 1, _, rfl, by
          rw [HF.out, ← hl]
          have := Seg.cut (a := on - 1) (j := 1) (Own.seg oO) (by omega)
          rwa [List.take_of_length_le (by rw [List.length_drop, ← hl]; omega)] at this, next_trans bel bb⟩)
        clear oO bb bel rA LP K0 K1 hl hcap hcs
        go_wp2
        go_ret
        exact F.out

set_option maxHeartbeats 4000000 in
theorem specPickBy (a v u : Value) (d : Dat sSystem) (t : List Int) (s : Int) (w : World) (h : Rd w w.heap.size sSystem [a, v] d) (ht : Rd w w.heap.size sI [u] t) (hz : sz sSystem d ≤ 1048576) (hz' : sz sI t ≤ 1048576) :
    Calls Tryz.prog 44 #[.agg #[a, v], u, .int .i64 s] w (AnsPick w (pickO d.1 d.2 t s)) := by
  obtain ⟨W, hW, rA, bel⟩ := box1 w 29 #[a, v]
  have HW := Lib.hid hW
  have LR := Lib.hid (l8Right a v u d t s W (h.next bel) (ht.next bel) hz hz')
  have LP := Lib.hid (fun (w1 : World) (bb : Below w.heap.size w w1) => l8Places a v u d t s w1 (h.next bb) (ht.next bb) hz hz')
  have LX := Lib.hid (fun (w1 : World) (bb : Below w.heap.size w w1) x hok hx => l8Redex a v u d t x w1 (h.next bb) (ht.next bb) hz hok hx)
  have K0 : W.cell? ⟨w.heap.size, 0, none⟩ = some a := rA.cell 0
  have K1 : W.cell? ⟨w.heap.size, 1, none⟩ = some v := rA.cell 1
  obtain ⟨T, m, c, rfl, -, -⟩ := rd_ints.1 ht
  clear hW h hz ht
  cases ok : (rightB d.1 d.2 t && stratB s) with
  | false =>
    have HS := Lib.hid ok
    rw [ok] at LR
    clear ok LP LX
    go_enter Tryz.func44, Tryz.ntmps44
    go_wp2_with fail
    rw [← HW.out]
    go_wp2_with fail
    refine LR.out.mono ?_
    rintro e w1 ⟨rfl, bb⟩
    have F := Lib.hid (ansPick_none (w := w) (pickO_no HS.out) (next_trans bel bb))
    clear bb bel rA K0 K1 LR
    go_wp2
    go_ret3
    exact F.out
  | true =>
    rw [ok] at LR
    have HS := Lib.hid ((Bool.and_eq_true _ _).mp ok)
    clear ok
    have zW : w.heap.size < W.heap.size := rA.lt
    go_enter Tryz.func44, Tryz.ntmps44
    go_wp2_with fail
    rw [← HW.out]
    go_wp2_with fail
    refine LR.out.mono ?_
    rintro e w1 ⟨rfl, bb⟩
    replace rA := rA.next bb
    replace bel := next_trans bel bb
    have k0 : w1.cell? ⟨w.heap.size, 0, none⟩ = some a := rA.cell 0
    have k1 : w1.cell? ⟨w.heap.size, 1, none⟩ = some v := rA.cell 1
    have LP1 := Lib.hid (LP.out w1 bel)
    have zw1 : w.heap.size < w1.heap.size := rA.lt
    clear bb LR LP K0 K1 zW
    go_wp2_with fail
    refine LP1.out.mono ?_
    rintro e w2 ⟨O, on, oc, rfl, oO, bb⟩
    have hhd := spL_head (s := s) HS.out.1
    cases hL : spL d.1 d.2 t s with
    | nil =>
      rw [hL] at oO hhd
      have e0 : on = 0 := by have := oO.1; simpa using this.symm
      subst e0
      have F := Lib.hid (ansPick_none (w := w) (show pickO d.1 d.2 t s = none by rw [pickO_yes HS.out.1 HS.out.2]; exact pickL_nil hhd.symm) (next_trans bel bb))
      clear oO hhd hL bb bel rA k0 k1 LP1 LX
      go_wp2
      go_ret3
      exact F.out
    | cons x r =>
      rw [hL] at oO hhd
      have hlen : on = r.length + 1 := by have := oO.1; simpa using this.symm
      obtain ⟨p, rfl, hp⟩ := sel_at hhd.symm
      obtain ⟨b, off, y, rfl, hb, cy, ey⟩ := oO.spot (k := 0) (by omega)
      have ey : y = (p : Int) := by have := ey.out; simpa using this.symm
      subst ey
      have LX2 := Lib.hid (fun (w3 : World) (b3 : Below w2.heap.size w2 w3) => LX.out w3 (next_trans (next_trans bel bb) b3) p HS.out.1 hp)
      have HPK := Lib.hid (show pickO d.1 d.2 t s = some ((p : Int), ruleF d.1 d.2 t p) by rw [pickO_yes HS.out.1 HS.out.2, pickL_at hhd.symm]; rfl)
      have rA2 := rA.next bb
      have z2 : w.heap.size < w2.heap.size := rA2.lt
      have HBB := Lib.hid (next_trans bel bb)
      have q0 : w2.cell? ⟨w.heap.size, 0, none⟩ = some a := rA2.cell 0
      have q1 : w2.cell? ⟨w.heap.size, 1, none⟩ = some v := rA2.cell 1
      have cy0 : w2.cell? ⟨b, off, none⟩ = some (.int .i64 (p : Int)) := cy
      have on0 : 0 < on := by omega
      have on1 : (0 : Int) < (on : Int) := by omega
      have hne : ¬ on = 0 := by omega
      have hne2 : ¬ (on : Int) = 0 := by omega
      clear cy oO hhd hL bb bel rA k0 k1 LP1 LX hlen rA2
      go_wp2_with fail
      go_region_held3 (fun w' => w'.cell? ⟨w.heap.size, 0, none⟩ = some a ∧ w'.cell? ⟨w.heap.size, 1, none⟩ = some v ∧ w'.cell? ⟨b, off, none⟩ = some (.int .i64 (p : Int)))
        (go_keep)
        (first
          | (go_at_call 99; refine (LX2.out _ (drew_below w2)).mono ?_; rintro e w3 ⟨rfl, bb⟩; have j0 : w3.cell? ⟨w.heap.size, 0, none⟩ = some a := (bb.cell (p := ⟨w.heap.size, 0, none⟩) z2).trans q0; have j1 : w3.cell? ⟨w.heap.size, 1, none⟩ = some v := (bb.cell (p := ⟨w.heap.size, 1, none⟩) z2).trans q1; have j2 : w3.cell? ⟨b, off, none⟩ = some (.int .i64 (p : Int)) := (bb.cell (p := ⟨b, off, none⟩) hb).trans cy0))
      have F := Lib.hid (ansPick_some (w := w) HPK.out (next_trans HBB.out ((drew_below w2).trans bb)))
      clear HBB HPK bb
      go_wp2
      go_ret3
      exact F.out
end Go.Proofs.YtfkgiimcnlagmaaGreat.orderSpec
end

section
/-
  CONTRACTS: spec.WalkOk, l7End, EndTerm. Conditions: the system and the walk read as data ('Rd'), at most 1048576 numbers. By an AI agent.
-/
namespace Go.Proofs.YtfkgiimcnlagmaaGreat.walkSpec
open Go.RowKit Go.Proofs.YtfkgiimcnlagmaaGreat.base Go.Proofs.YtfkgiimcnlagmaaGreat.ints Go.Proofs.YtfkgiimcnlagmaaGreat.sig Go.Proofs.YtfkgiimcnlagmaaGreat.term Go.Proofs.YtfkgiimcnlagmaaGreat.termOk Go.Proofs.YtfkgiimcnlagmaaGreat.endAt Go.Proofs.YtfkgiimcnlagmaaGreat.endOf Go.Proofs.YtfkgiimcnlagmaaGreat.marks Go.Proofs.YtfkgiimcnlagmaaGreat.app Go.Proofs.YtfkgiimcnlagmaaGreat.sym Go.Proofs.YtfkgiimcnlagmaaGreat.sub Go.Proofs.YtfkgiimcnlagmaaGreat.segs Go.Proofs.YtfkgiimcnlagmaaGreat.segsHelp Go.Proofs.YtfkgiimcnlagmaaGreat.kinds Go.Proofs.YtfkgiimcnlagmaaGreat.termFacts Go.Proofs.YtfkgiimcnlagmaaGreat.same Go.Proofs.YtfkgiimcnlagmaaGreat.shifted Go.Proofs.YtfkgiimcnlagmaaGreat.shape Go.Proofs.YtfkgiimcnlagmaaGreat.kindsR Go.Proofs.YtfkgiimcnlagmaaGreat.kindsW Go.Proofs.YtfkgiimcnlagmaaGreat.varsOf Go.Proofs.YtfkgiimcnlagmaaGreat.ruleMath Go.Proofs.YtfkgiimcnlagmaaGreat.ruleSpec Go.Proofs.YtfkgiimcnlagmaaGreat.stepMath Go.Proofs.YtfkgiimcnlagmaaGreat.walkMath Go.Proofs.YtfkgiimcnlagmaaGreat.stepSpec
set_option maxRecDepth 100000

/-! ### a walk in memory -/
theorem rd_own {w : World} {lo : Nat} {A : Option Addr} {n c : Nat} {xs : List Int} (h : Own w lo (.slice A n c) xs) : Rd w w.heap.size sI [.slice A n c] xs := rd_ints.2 ⟨A, n, c, rfl, Own.seg h, look.own_cap h⟩
theorem rd_step {w wr : World} {B : Nat} {A : Option Addr} {n c : Nat} {L : List St} {k : Nat} (h : Rd w B sStepS [.slice A n c] L) (hb : Below B w wr) (hl : L.length = n) (hk : k < n) :
    ∃ b off u x, A = some ⟨b, off, none⟩ ∧ b < B ∧ Hid (L.getD k (0, 0, []) = x) ∧ wr.cell? ⟨b, off + k * 3, none⟩ = some (.int .i64 x.1) ∧ wr.cell? ⟨b, off + k * 3 + 1, none⟩ = some (.int .i64 x.2.1) ∧ wr.cell? ⟨b, off + k * 3 + 2, none⟩ = some u ∧ Rd wr B sI [u] x.2.2 := by
  obtain ⟨b, off, n2, c2, es, ev, -, -, hbB, hel, hp, hr⟩ := h.elem (j := k) (by rw [hl]; exact hk)
  injection ev with e1 e2 e3
  subst e1
  obtain ⟨v0, rfl⟩ := cells_Step hr
  have hpw := hp.keep (w' := wr) (fun p hp => hb.cell (p := p) (by rw [hp]; exact hbB))
  obtain ⟨-, -, p2⟩ := parts_Step hr
  exact ⟨b, off, v0, _, rfl, hbB, Lib.hid rfl, hpw 0 (by simp), hpw 1 (by simp), hpw 2 (by simp), p2.below hb⟩
theorem rd_walk {w : World} {B : Nat} {f s : Value} {k : Dat sWalk} (h : Rd w B sWalk [f, s] k) (hz : sz sWalk k ≤ 1048576) :
    ∃ F fn fc S sn sc, f = .slice F fn fc ∧ s = .slice S sn sc ∧ Seg w B F fn k.1 ∧ Cap F fn fc ∧ fn ≤ 1048576 ∧ k.2.length = sn ∧ sn ≤ 1048576 ∧ Cap S sn sc ∧ Rd w B sI [.slice F fn fc] k.1 ∧ Rd w B sStepS [.slice S sn sc] k.2 ∧ sz sI k.1 ≤ 1048576 ∧ ∀ i, i < sn → sz sI (k.2.getD i (0, 0, [])).2.2 ≤ 1048576 := by
  have hz0 : sz sI k.1 + sz sStepS k.2 ≤ 1048576 := hz
  obtain ⟨p1, p2⟩ := parts_Walk h
  obtain ⟨F, fn, fc, rfl, hs, hc⟩ := rd_ints.1 p1
  obtain ⟨S, sc, rfl, hc2⟩ := p2.slice
  have hz1 : sz sI k.1 ≤ 1048576 := by omega
  have hz2 : sz sStepS k.2 ≤ 1048576 := by omega
  refine ⟨F, fn, fc, S, List.length k.2, sc, rfl, rfl, hs, hc, len_ints hs.1 hz1, rfl, sz_len hz2, hc2, p1, p2, hz1, fun i hi => ?_⟩
  have h1 := sz_each hz2 hi
  have h2 : sz sStep (k.2.getD i (0, 0, [])) = 0 + (0 + sz sI (k.2.getD i (0, 0, [])).2.2) := rfl
  have h3 : sz sStep (k.2.getD i (0, 0, [])) ≤ 1048576 := h1
  omega

/-! ### plain facts -/
end Go.Proofs.YtfkgiimcnlagmaaGreat.walkSpec
end

section
/-
  A REGION THAT DRAWS ITS ORDER AND ENDS IN STORES TO CELLS THAT IT LOADS ('u.a, u.b = f(u.a), f(u.b)'): what is held of the world (S) is asked behind each operation but the late ones (the stores), and a load may be taken first where every late operation waits for it. Over any program. By an AI agent.
-/
namespace Go.Proofs.YtfkgiimcnlagmaaGreat.heldT
section
variable {P : Program} {md : Region.Mode} {ops : Array Oper} {Q : Exit → Act → World → Prop} {S : World → Prop} {late : Nat → Bool}

/-- whatever order is picked from here on; each operation that is not late keeps S -/
def AnyT (P : Program) (md : Region.Mode) (ops : Array Oper) (Q : Exit → Act → World → Prop) (S : World → Prop) (late : Nat → Bool) : Nat → Array Bool → Act → World → Prop
  | 0, listed, a, w => Region.ready md ops listed = [] ∧ Q .normal a w
  | fuel + 1, listed, a, w => (Region.ready md ops listed = [] → Q .normal a w) ∧
    ∀ i ∈ Region.ready md ops listed, wpOp P ops Q i (fun a' w' => (late i = false → S w → S w') ∧ AnyT P md ops Q S late fuel (listed.setIfInBounds i true) a' w') a w
theorem AnyT.any : ∀ (fuel : Nat) (listed : Array Bool) (a : Act) (w : World), AnyT P md ops Q S late fuel listed a w → wpAny P md ops Q fuel listed a w
  | 0, _, _, _, h => h
  | fuel + 1, _, _, _, h => ⟨h.1, fun i hi => wpOp_mono (fun a' w' h' => AnyT.any fuel _ a' w' h'.2) (h.2 i hi)⟩

/-- every late operation that has not come up waits for number i -/
def Waits (md : Region.Mode) (ops : Array Oper) (late : Nat → Bool) (listed : Array Bool) (i : Nat) : Prop :=
  ∀ j o, ops[j]? = some o → late j = true → listed.getD j true = false → ∃ e ∈ o.after, Region.binds md e = true ∧ e.on = i
def waitsB (md : Region.Mode) (ops : Array Oper) (late : Nat → Bool) (listed : Array Bool) (i : Nat) : Bool :=
  (List.range ops.size).all fun j => !late j || listed.getD j true || ((ops[j]?).map fun o => o.after.any fun e => Region.binds md e && e.on == i).getD false
theorem waits_of {listed : Array Bool} {i : Nat} (h : waitsB md ops late listed i = true) : Waits md ops late listed i := by
  intro j o ho hl hu
  have hj : j < ops.size := by
    rcases Nat.lt_or_ge j ops.size with h' | h'
    · exact h'
    · rw [Array.getElem?_eq_none h'] at ho; cases ho
  have := List.all_eq_true.1 h j (List.mem_range.2 hj)
  rw [hl, hu, ho] at this
  simp only [Bool.not_true, Bool.false_or, Option.map_some, Option.getD_some, Array.any_eq_true', Bool.and_eq_true, beq_iff_eq] at this
  exact this
theorem AnyT.first {i : Nat} {oi : Oper} {v : Value} (hi : ops[i]? = some oi) (hsel : ∀ (j : Nat) (o : Oper) cs b, ops[j]? = some o → o.op ≠ .select cs b) (hQ : ∀ c a w, Q (.panic c) (a.put oi.dst v) w → Q (.panic c) a w) :
    ∀ (fuel : Nat) (listed : Array Bool) (a : Act) (w : World),
      (∀ j oj, ops[j]? = some oj → j ≠ i → listed.getD j true = false → (∀ e ∈ oj.after, Region.binds md e = true → e.on ≠ i) → oi.apart ops oj = true) → Waits md ops late listed i →
      i ∈ Region.ready md ops listed → YieldsIf P ops S oi v a → S w → AnyT P md ops Q S late fuel (listed.setIfInBounds i true) (a.put oi.dst v) w → AnyT P md ops Q S late (fuel + 1) listed a w := by
  intro fuel
  induction fuel with
  | zero =>
    intro listed a w _ _ hr hy hS H
    refine ⟨fun h => (by rw [h] at hr; cases hr), fun j hj => ?_⟩
    rcases Classical.em (j = i) with e | e
    · subst e; exact hy.wpOp hi hS ⟨fun _ h => h, H⟩
    · have := ready_mono hj e
      rw [H.1] at this
      cases this
  | succ fuel ih =>
    intro listed a w hfree hwait hr hy hS H
    refine ⟨fun h => (by rw [h] at hr; cases hr), fun j hj => ?_⟩
    rcases Classical.em (j = i) with e | hji
    · subst e; exact hy.wpOp hi hS ⟨fun _ h => h, H⟩
    have h1 := H.2 j (ready_mono hj hji)
    obtain ⟨hjun, oj, hoj, hall⟩ := mem_ready.1 hj
    have h0 := (mem_ready.1 hr).1
    have hnot : ∀ e ∈ oj.after, Region.binds md e = true → e.on ≠ i := fun e he hb heq => by
      have h1 := hall e he hb
      rw [heq] at h1
      rcases Nat.lt_or_ge i listed.size with h' | h'
      · simp [h'] at h0 h1; rw [h0] at h1; cases h1
      · simp [Array.getElem?_eq_none h'] at h1
    have hlj : late j = false := by
      cases e : late j with
      | false => rfl
      | true =>
        obtain ⟨x, hx, hb, ho⟩ := hwait j oj hoj e hjun
        exact absurd ho (hnot x hx hb)
    have far : ∀ {k : Nat}, j ≠ k → (listed.setIfInBounds j true).getD k true = false → listed.getD k true = false := fun hjk h => by rwa [getD_set_ne true hjk] at h
    have same : ∀ {k : Nat}, k = j → listed.getD k true = false := fun e => by rw [e]; exact hjun
    have un : ∀ (k : Nat), (listed.setIfInBounds j true).getD k true = false → listed.getD k true = false := fun k h => by
      rcases Classical.em (k = j) with e | e
      · exact same e
      · exact far (fun e' => e e'.symm) h
    have h2 := wpOp_putIf hoj (hfree j oj hoj hji hjun hnot) (fun cs b => hsel i oi cs b hi) (fun cs b => hsel j oj cs b hoj) hQ hy h1
    refine wpOp_mono (fun a' w' h3 => ⟨h3.2.1, ih (listed.setIfInBounds j true) a' w' (fun k ok hk hki hun hno => hfree k ok hk hki (un k hun) hno) (fun k o hk hl hu => hwait k o hk hl (un k hu)) (ready_mono hr (Ne.symm hji)) h3.1 (h3.2.1 hlj hS) ?_⟩) h2
    rw [Array.setIfInBounds_comm _ _ hji]
    exact h3.2.2
/-- take number i first: it yields v in every world that meets S, and every late one waits for it -/
theorem AnyT.take {i : Nat} {oi : Oper} {v : Value} {fuel : Nat} {listed : Array Bool} {a : Act} {w : World} (hi : ops[i]? = some oi) (hs : Region.noSelect ops = true) (hf : Region.free md ops listed i = true) (hw : waitsB md ops late listed i = true) (hr : (Region.ready md ops listed).contains i = true)
    (hQ : ∀ c a w, Q (.panic c) (a.put oi.dst v) w → Q (.panic c) a w) (hy : YieldsIf P ops S oi v a) (hS : S w) (h : AnyT P md ops Q S late fuel (listed.setIfInBounds i true) (a.put oi.dst v) w) : AnyT P md ops Q S late (fuel + 1) listed a w :=
  AnyT.first hi (Region.noSelect_spec hs) hQ fuel listed a w (Region.free_spec hi hf) (waits_of hw) (by simpa using hr) hy hS h
theorem AnyT.firstA {i : Nat} {oi : Oper} {v : Value} (hi : ops[i]? = some oi) (hsel : ∀ (j : Nat) (o : Oper) cs b, ops[j]? = some o → o.op ≠ .select cs b) (hQ : ∀ c a w, Q (.panic c) (a.put oi.dst v) w → Q (.panic c) a w) :
    ∀ (fuel : Nat) (listed : Array Bool) (a : Act) (w : World),
      (∀ j oj, ops[j]? = some oj → j ≠ i → listed.getD j true = false → (∀ e ∈ oj.after, Region.binds md e = true → e.on ≠ i) → oi.apart ops oj = true) →
      i ∈ Region.ready md ops listed → YieldsIf P ops (fun _ => True) oi v a → AnyT P md ops Q S late fuel (listed.setIfInBounds i true) (a.put oi.dst v) w → AnyT P md ops Q S late (fuel + 1) listed a w := by
  intro fuel
  induction fuel with
  | zero =>
    intro listed a w _ hr hy H
    refine ⟨fun h => (by rw [h] at hr; cases hr), fun j hj => ?_⟩
    rcases Classical.em (j = i) with e | e
    · subst e; exact hy.wpOp hi trivial ⟨fun _ h => h, H⟩
    · have := ready_mono hj e
      rw [H.1] at this
      cases this
  | succ fuel ih =>
    intro listed a w hfree hr hy H
    refine ⟨fun h => (by rw [h] at hr; cases hr), fun j hj => ?_⟩
    rcases Classical.em (j = i) with e | hji
    · subst e; exact hy.wpOp hi trivial ⟨fun _ h => h, H⟩
    have h1 := H.2 j (ready_mono hj hji)
    obtain ⟨hjun, oj, hoj, hall⟩ := mem_ready.1 hj
    have h0 := (mem_ready.1 hr).1
    have hnot : ∀ e ∈ oj.after, Region.binds md e = true → e.on ≠ i := fun e he hb heq => by
      have h1 := hall e he hb
      rw [heq] at h1
      rcases Nat.lt_or_ge i listed.size with h' | h'
      · simp [h'] at h0 h1; rw [h0] at h1; cases h1
      · simp [Array.getElem?_eq_none h'] at h1
    have un : ∀ (k : Nat), (listed.setIfInBounds j true).getD k true = false → listed.getD k true = false := fun k h => by
      rcases Classical.em (k = j) with e | e
      · rw [e]; exact hjun
      · rwa [getD_set_ne true (fun e' => e e'.symm)] at h
    have h2 := wpOp_putIf hoj (hfree j oj hoj hji hjun hnot) (fun cs b => hsel i oi cs b hi) (fun cs b => hsel j oj cs b hoj) hQ hy h1
    refine wpOp_mono (fun a' w' h3 => ⟨h3.2.1, ih (listed.setIfInBounds j true) a' w' (fun k ok hk hki hun hno => hfree k ok hk hki (un k hun) hno) (ready_mono hr (Ne.symm hji)) h3.1 ?_⟩) h2
    rw [Array.setIfInBounds_comm _ _ hji]
    exact h3.2.2
/-- take number i first: it yields v in whatever world -/
theorem AnyT.takeA {i : Nat} {oi : Oper} {v : Value} {fuel : Nat} {listed : Array Bool} {a : Act} {w : World} (hi : ops[i]? = some oi) (hs : Region.noSelect ops = true) (hf : Region.free md ops listed i = true) (hr : (Region.ready md ops listed).contains i = true)
    (hQ : ∀ c a w, Q (.panic c) (a.put oi.dst v) w → Q (.panic c) a w) (hy : YieldsIf P ops (fun _ => True) oi v a) (h : AnyT P md ops Q S late fuel (listed.setIfInBounds i true) (a.put oi.dst v) w) : AnyT P md ops Q S late (fuel + 1) listed a w :=
  AnyT.firstA hi (Region.noSelect_spec hs) hQ fuel listed a w (Region.free_spec hi hf) (by simpa using hr) hy h
/-- number i alone may come up: the way back is hidden behind K' -/
theorem AnyT.call {i : Nat} {o : Oper} {fuel : Nat} {listed : Array Bool} {a : Act} {w : World} (hr : Region.ready md ops listed = [i]) (ho : ops[i]? = some o)
    (h : ∀ K' : Act → World → Prop, Shut (∀ a w', (late i = false → S w → S w') → ((late i = false → S w → S w') → AnyT P md ops Q S late fuel (listed.setIfInBounds i true) a w') → K' a w') → if Region.wanted o (yielded ops a.tmps) = true then Oper.wp P o a w K' Q else K' (a.put o.dst undef) w) : AnyT P md ops Q S late (fuel + 1) listed a w :=
  ⟨fun h0 => absurd (hr ▸ h0) (by simp), fun j hj => by
    rw [hr, List.mem_singleton] at hj
    subst hj
    exact wpOp_step ho (fun K' hK => h K' (fun a w' hS hW => hK a w' ⟨hS, hW hS⟩))⟩
theorem AnyT.done {listed : Array Bool} {a : Act} {w : World} (hr : Region.ready md ops listed = []) (h : Q .normal a w) : ∀ fuel, AnyT P md ops Q S late fuel listed a w
  | 0 => ⟨hr, h⟩
  | _ + 1 => ⟨fun _ => h, by rw [hr]; simp⟩
theorem AnyT.start {id : Nat} {a : Act} {w : World} (late : Nat → Bool) (hm : P.follows .mixedOrders = true) (hS : S w.drew) (h : S w.drew → AnyT P .any ops Q S late ops.size (Array.replicate ops.size false) a w.drew) : (Code.region id ops true).wp P Q a w :=
  wp_region_any hm (AnyT.any _ _ _ _ (h hS))
end
end Go.Proofs.YtfkgiimcnlagmaaGreat.heldT
end

section
/-
  CONTRACTS: spec.l7End, EndTerm, l7CopySteps. Conditions: the arguments read as data ('Rd'), at most 1048576 numbers. Written by a program of mine (mkwalkspecb.py). By an AI agent.
-/
namespace Go.Proofs.YtfkgiimcnlagmaaGreat.walkSpec
open Go.RowKit Go.Proofs.YtfkgiimcnlagmaaGreat.base Go.Proofs.YtfkgiimcnlagmaaGreat.ints Go.Proofs.YtfkgiimcnlagmaaGreat.sig Go.Proofs.YtfkgiimcnlagmaaGreat.term Go.Proofs.YtfkgiimcnlagmaaGreat.termOk Go.Proofs.YtfkgiimcnlagmaaGreat.endAt Go.Proofs.YtfkgiimcnlagmaaGreat.endOf Go.Proofs.YtfkgiimcnlagmaaGreat.marks Go.Proofs.YtfkgiimcnlagmaaGreat.app Go.Proofs.YtfkgiimcnlagmaaGreat.sym Go.Proofs.YtfkgiimcnlagmaaGreat.sub Go.Proofs.YtfkgiimcnlagmaaGreat.segs Go.Proofs.YtfkgiimcnlagmaaGreat.segsHelp Go.Proofs.YtfkgiimcnlagmaaGreat.kinds Go.Proofs.YtfkgiimcnlagmaaGreat.termFacts Go.Proofs.YtfkgiimcnlagmaaGreat.same Go.Proofs.YtfkgiimcnlagmaaGreat.shifted Go.Proofs.YtfkgiimcnlagmaaGreat.shape Go.Proofs.YtfkgiimcnlagmaaGreat.kindsR Go.Proofs.YtfkgiimcnlagmaaGreat.kindsW Go.Proofs.YtfkgiimcnlagmaaGreat.varsOf Go.Proofs.YtfkgiimcnlagmaaGreat.ruleMath Go.Proofs.YtfkgiimcnlagmaaGreat.ruleSpec Go.Proofs.YtfkgiimcnlagmaaGreat.stepMath Go.Proofs.YtfkgiimcnlagmaaGreat.walkMath Go.Proofs.YtfkgiimcnlagmaaGreat.stepSpec Go.Proofs.YtfkgiimcnlagmaaGreat.ownL Go.Proofs.YtfkgiimcnlagmaaGreat.heldT
set_option maxRecDepth 100000

theorem end_none {k : Wk} (h : k.2.length = 0) : endL k = k.1 := by unfold endL; rw [List.eq_nil_of_length_eq_zero h]; rfl
theorem end_last {k : Wk} {n : Nat} {x : St} (h : k.2.length = n + 1) (hx : k.2.getD n (0, 0, []) = x) : endL k = x.2.2 := by
  unfold endL
  have : k.2.getLast? = some x := by
    rw [List.getLast?_eq_getElem?, h, ← hx]
    have hn : n < k.2.length := by omega
    simp [List.getD, hn]
  rw [this]
/-! ### the steps, copied -/
end Go.Proofs.YtfkgiimcnlagmaaGreat.walkSpec
end

section
/-
  CONTRACTS: spec.JoinedWalk. Conditions: the arguments read as data ('Rd'), at most 1048576 numbers. Written by a program of mine (mkwalkspecc.py). By an AI agent.
-/
namespace Go.Proofs.YtfkgiimcnlagmaaGreat.walkSpec
open Go.RowKit Go.Proofs.YtfkgiimcnlagmaaGreat.base Go.Proofs.YtfkgiimcnlagmaaGreat.ints Go.Proofs.YtfkgiimcnlagmaaGreat.sig Go.Proofs.YtfkgiimcnlagmaaGreat.term Go.Proofs.YtfkgiimcnlagmaaGreat.termOk Go.Proofs.YtfkgiimcnlagmaaGreat.endAt Go.Proofs.YtfkgiimcnlagmaaGreat.endOf Go.Proofs.YtfkgiimcnlagmaaGreat.marks Go.Proofs.YtfkgiimcnlagmaaGreat.app Go.Proofs.YtfkgiimcnlagmaaGreat.sym Go.Proofs.YtfkgiimcnlagmaaGreat.sub Go.Proofs.YtfkgiimcnlagmaaGreat.segs Go.Proofs.YtfkgiimcnlagmaaGreat.segsHelp Go.Proofs.YtfkgiimcnlagmaaGreat.kinds Go.Proofs.YtfkgiimcnlagmaaGreat.termFacts Go.Proofs.YtfkgiimcnlagmaaGreat.same Go.Proofs.YtfkgiimcnlagmaaGreat.shifted Go.Proofs.YtfkgiimcnlagmaaGreat.shape Go.Proofs.YtfkgiimcnlagmaaGreat.kindsR Go.Proofs.YtfkgiimcnlagmaaGreat.kindsW Go.Proofs.YtfkgiimcnlagmaaGreat.varsOf Go.Proofs.YtfkgiimcnlagmaaGreat.ruleMath Go.Proofs.YtfkgiimcnlagmaaGreat.ruleSpec Go.Proofs.YtfkgiimcnlagmaaGreat.stepMath Go.Proofs.YtfkgiimcnlagmaaGreat.walkMath Go.Proofs.YtfkgiimcnlagmaaGreat.stepSpec Go.Proofs.YtfkgiimcnlagmaaGreat.ownL Go.Proofs.YtfkgiimcnlagmaaGreat.heldT
set_option maxRecDepth 100000

/-! ### a walk and whether there is one -/
def AnsWalk (w : World) (k : Wk) (b : Bool) (e : Ending) (w' : World) : Prop := ∃ A0 n0 c0 A1 n1 c1, e = .returned (.tuple #[.agg #[.slice A0 n0 c0, .slice A1 n1 c1], .bool b]) ∧ Owned w' w.heap.size w'.heap.size sWalk [.slice A0 n0 c0, .slice A1 n1 c1] k ∧ Below w.heap.size w w'
theorem owned_zero (w : World) (lo hi : Nat) : Owned w lo hi sWalk [.slice none 0 0, .slice none 0 0] (([], []) : List Int × List St) :=
  ⟨[], ⟨[.slice none 0 0], [.slice none 0 0], [], [], rfl, rfl, ⟨none, 0, 0, rfl, rfl, .inl ⟨rfl, rfl, rfl, rfl⟩⟩, ⟨none, 0, 0, rfl, rfl, .inl ⟨rfl, rfl, rfl, rfl⟩⟩⟩, List.nodup_nil, fun k hk => by cases hk⟩
theorem owned_walk {w : World} {lo mid hi : Nat} {X O : Option Addr} {xn xc n c : Nat} {f : List Int} {L : List St} (h : Ownd w lo mid X xn xc f) (h2 : OwnL w mid hi 83 sStep O n c L) (h3 : lo ≤ mid) (h4 : mid ≤ hi) : Owned w lo hi sWalk [.slice X xn xc, .slice O n c] (f, L) :=
  Owned.cat (ow_ints.2 h) h2.owned (Nat.le_refl _) h3 h4
theorem ansWalk_no {w w' : World} {k : Wk} {b : Bool} (h : k = ([], []) ∧ b = false) (hb : Below w.heap.size w w') : AnsWalk w k b (.returned (.tuple #[.agg #[.slice none 0 0, .slice none 0 0], .bool false])) w' :=
  ⟨none, 0, 0, none, 0, 0, by rw [h.2], by rw [h.1]; exact owned_zero _ _ _, hb⟩
section
variable {sg : List Int} {rs : List Rl} {a b : Wk}
end

structure Jn (w : World) (a v f s f' s' : Value) (wr : World) : Prop where
  r0 : Row wr w.heap.size 29 #[a, v]
  r1 : Row wr (w.heap.size + 1) 34 #[f, s]
  r2 : Row wr (w.heap.size + 1 + 1) 34 #[f', s']
  r3 : Row wr (w.heap.size + 1 + 1 + 1) 34 #[.slice none 0 0, .slice none 0 0]
  b : Below w.heap.size w wr
section
variable {w wr w' : World} {a v f s f' s' : Value}
theorem Jn.next (h : Jn w a v f s f' s' wr) (hb : Below wr.heap.size wr w') : Jn w a v f s f' s' w' := ⟨h.r0.next hb, h.r1.next hb, h.r2.next hb, h.r3.next hb, next_trans h.b hb⟩
theorem Jn.size (h : Jn w a v f s f' s' wr) : w.heap.size + 1 + 1 + 1 + 1 ≤ wr.heap.size := h.r3.lt
end
end Go.Proofs.YtfkgiimcnlagmaaGreat.walkSpec
end

section
/-
  CONTRACTS: spec.WalkBy. Conditions: the arguments read as data ('Rd'), at most 1048576 numbers; strategy and fuel are int64. Written by a program of mine (mkbyspec.py). By an AI agent.
-/
namespace Go.Proofs.YtfkgiimcnlagmaaGreat.bySpec
open Go.RowKit Go.Proofs.YtfkgiimcnlagmaaGreat.base Go.Proofs.YtfkgiimcnlagmaaGreat.ints Go.Proofs.YtfkgiimcnlagmaaGreat.sig Go.Proofs.YtfkgiimcnlagmaaGreat.term Go.Proofs.YtfkgiimcnlagmaaGreat.termOk Go.Proofs.YtfkgiimcnlagmaaGreat.endAt Go.Proofs.YtfkgiimcnlagmaaGreat.endOf Go.Proofs.YtfkgiimcnlagmaaGreat.marks Go.Proofs.YtfkgiimcnlagmaaGreat.app Go.Proofs.YtfkgiimcnlagmaaGreat.sym Go.Proofs.YtfkgiimcnlagmaaGreat.sub Go.Proofs.YtfkgiimcnlagmaaGreat.segs Go.Proofs.YtfkgiimcnlagmaaGreat.segsHelp Go.Proofs.YtfkgiimcnlagmaaGreat.kinds Go.Proofs.YtfkgiimcnlagmaaGreat.termFacts Go.Proofs.YtfkgiimcnlagmaaGreat.same Go.Proofs.YtfkgiimcnlagmaaGreat.shifted Go.Proofs.YtfkgiimcnlagmaaGreat.shape Go.Proofs.YtfkgiimcnlagmaaGreat.drawX Go.Proofs.YtfkgiimcnlagmaaGreat.kindsR Go.Proofs.YtfkgiimcnlagmaaGreat.kindsW Go.Proofs.YtfkgiimcnlagmaaGreat.varsOf Go.Proofs.YtfkgiimcnlagmaaGreat.ruleMath Go.Proofs.YtfkgiimcnlagmaaGreat.ruleSpec Go.Proofs.YtfkgiimcnlagmaaGreat.stepMath Go.Proofs.YtfkgiimcnlagmaaGreat.walkMath Go.Proofs.YtfkgiimcnlagmaaGreat.stepSpec Go.Proofs.YtfkgiimcnlagmaaGreat.walkSpec Go.Proofs.YtfkgiimcnlagmaaGreat.ownL Go.Proofs.YtfkgiimcnlagmaaGreat.heldT Go.Proofs.YtfkgiimcnlagmaaGreat.orderMath Go.Proofs.YtfkgiimcnlagmaaGreat.orderSpec
set_option maxRecDepth 100000

structure Wb (w : World) (T : TypeId) (a v : Value) (B : Nat) (X O : Option Addr) (xn xc on oc : Nat) (fr : List Int) (L : List St) (wr : World) : Prop where
  r0 : Row wr w.heap.size T #[a, v]
  r1 : Row wr (w.heap.size + 1) 34 #[.slice none 0 0, .slice none 0 0]
  r3 : Row wr B 34 #[.slice X xn xc, .slice O on oc]
  x : Ownd wr (w.heap.size + 1 + 1) B X xn xc fr
  o : OwnL wr (B + 1) wr.heap.size 83 sStep O on oc L
  b : Below w.heap.size w wr
  z : w.heap.size + 1 + 1 ≤ B
theorem Wb.next {w wr w' : World} {T : TypeId} {a v : Value} {B : Nat} {X O : Option Addr} {xn xc on oc : Nat} {fr : List Int} {L : List St} (h : Wb w T a v B X O xn xc on oc fr L wr) (hb : Below wr.heap.size wr w') : Wb w T a v B X O xn xc on oc fr L w' :=
  ⟨h.r0.next hb, h.r1.next hb, h.r3.next hb, h.x.next hb, (h.o.next hb).wider (Nat.le_refl _) hb.size, next_trans h.b hb, h.z⟩
/-- what an append of a step to the box's list leaves -/
theorem Wb.app {w w5 w4 : World} {T : TypeId} {a v : Value} {B : Nat} {X O : Option Addr} {xn xc on oc : Nat} {fr : List Int} {L : List St} {O' oc' : Nat} {y : St} {o : Obj} (h : Wb w T a v B X O xn xc on oc fr L w5) (oL4 : OwnL w4 (B + 1) w4.heap.size 83 sStep (some ⟨O', 0, none⟩) (on + 1) oc' (L ++ [y])) (hg4 : (w5.alloc o).grownBy w4 (blk O)) :
    Wb w T a v B X (some ⟨O', 0, none⟩) xn xc (on + 1) oc' fr (L ++ [y]) (w4.setCell ⟨B, 1, none⟩ (.slice (some ⟨O', 0, none⟩) (on + 1) oc')) := by
  have z := h.z
  have hB : B < w5.heap.size := h.r3.lt
  have hblk : ∀ k, blk O = some k → B + 1 ≤ k ∧ k < w5.heap.size := fun k e => h.o.ge k e
  have b0 : Below w5.heap.size w5 (w5.alloc o) := (Below.refl _ _).alloc (Nat.le_refl _) _
  have b4 : Below (B + 1) (w5.alloc o) w4 := (Below.refl _ _).grown hg4 (by simp; omega) (fun k e => (hblk k e).1)
  have b5 : Below (B + 1) w5 w4 := (b0.mono (by omega)).trans b4
  have hz4 : w5.heap.size + 1 ≤ w4.heap.size := by have := hg4.size; simpa using this
  refine ⟨(h.r0.below b5 (by omega)).far (show w.heap.size ≠ B by omega) _, (h.r1.below b5 (by omega)).far (show w.heap.size + 1 ≠ B by omega) _, (h.r3.below b5 (by omega)).put 1 _, ?_, ?_, (h.b.trans (b5.mono (by omega))).setCell (show w.heap.size ≤ B by omega) _, z⟩
  · exact ((h.x.next b0).btw (lo' := B + 1) (hi' := w4.heap.size) (Btw.of_grown hg4 (fun q hq => by have h8 := hblk q hq; omega)) (.inl (by omega))).btw (lo' := B) (hi' := B + 1) ⟨rfl, rfl, rfl, by simp, fun k hk ho => Below.heap_setCell w4 _ _ k (by show k ≠ B; omega)⟩ (.inl (Nat.le_refl _))
  · have o5 : OwnL (w4.setCell ⟨B, 1, none⟩ (.slice (some ⟨O', 0, none⟩) (on + 1) oc')) (B + 1) w4.heap.size 83 sStep (some ⟨O', 0, none⟩) (on + 1) oc' (L ++ [y]) := oL4.btw (lo' := B) (hi' := B + 1) ⟨rfl, rfl, rfl, by simp, fun k hk ho => Below.heap_setCell w4 _ _ k (by show k ≠ B; omega)⟩ (.inr (Nat.le_refl _))
    exact o5.wider (Nat.le_refl _) (by simp)
theorem fuel_yes {F : Nat} (h : F ≤ 60) : fuelB (F : Int) = true := decide_eq_true (by omega)
theorem ansWalk_yes {w wr w' : World} {T : TypeId} {a v : Value} {B : Nat} {X O : Option Addr} {xn xc on oc : Nat} {fr : List Int} {L : List St} {k : Wk} {b : Bool} (h : Wb w T a v B X O xn xc on oc fr L wr) (hk : k = (fr, L)) (hb : Below wr.heap.size wr w') :
    AnsWalk w k b (.returned (.tuple #[.agg #[.slice X xn xc, .slice O on oc], .bool b])) ((w'.setCell ⟨w.heap.size + 1, 0, none⟩ (.slice X xn xc)).setCell ⟨w.heap.size + 1, 1, none⟩ (.slice O on oc)) := by
  have h2 := h.next hb
  have z := h.z
  have ow : Owned w' (w.heap.size + 1 + 1) w'.heap.size sWalk [.slice X xn xc, .slice O on oc] (fr, L) := owned_walk (h2.x.wider (Nat.le_refl _) (Nat.le_succ _)) h2.o (by omega) h2.r3.lt
  exact ⟨_, _, _, _, _, _, rfl, by rw [hk]; exact ((ow.put (g := w.heap.size + 1) (i := 0) (by omega)).put (g := w.heap.size + 1) (i := 1) (by omega)).wider (by omega) (by simp), (h2.b.setCell (show w.heap.size ≤ w.heap.size + 1 by omega) _).setCell (show w.heap.size ≤ w.heap.size + 1 by omega) _⟩
theorem AnsWalk.next {w w1 w2 : World} {k : Wk} {b : Bool} {e : Ending} (h : AnsWalk w k b e w1) (hb : Below w1.heap.size w1 w2) : AnsWalk w k b e w2 := by
  obtain ⟨A0, n0, c0, A1, n1, c1, he, ho, hw⟩ := h
  exact ⟨A0, n0, c0, A1, n1, c1, he, (ho.next hb).wider (Nat.le_refl _) hb.size, next_trans hw hb⟩

set_option maxHeartbeats 8000000 in
theorem specWalkBy (a v u : Value) (d : Dat sSystem) (t : List Int) (s f : Int) (w : World) (h : Rd w w.heap.size sSystem [a, v] d) (ht : Rd w w.heap.size sI [u] t) (hz : sz sSystem d ≤ 1048576) (hz' : sz sI t ≤ 1048576) :
    Calls Tryz.prog 9 #[.agg #[a, v], u, .int .i64 s, .int .i64 f] w (AnsWalk w (byW d.1 d.2 t s f) (byD d.1 d.2 t s f)) := by
  obtain ⟨T, m, c, rfl, hT, hcT⟩ := rd_ints.1 ht
  have hm := len_ints hT.1 hz'
  obtain ⟨A, n, cs, V, q, cv, rfl, rfl, -⟩ := rd_sys h hz
  obtain ⟨W, hW, r0, r1, bel⟩ : ∃ W, W = (w.alloc (.cells #[.slice A n cs, .slice V q cv] 29)).alloc (.cells #[.slice none 0 0, .slice none 0 0] 34) ∧ Row W w.heap.size 29 #[.slice A n cs, .slice V q cv] ∧ Row W (w.heap.size + 1) 34 #[.slice none 0 0, .slice none 0 0] ∧ Below w.heap.size w W := by
    refine ⟨_, rfl, (Row.new w _ _).alloc _, ?_, ((Below.refl _ _).alloc (Nat.le_refl _) _).alloc (by simp) _⟩
    have := Row.new (w.alloc (.cells #[.slice A n cs, .slice V q cv] 29)) 34 #[.slice none 0 0, .slice none 0 0]
    simpa using this
  have HW := Lib.hid hW
  have LR := Lib.hid (l8Right _ _ _ d t s W (h.next bel) (ht.next bel) hz hz')
  have LC := Lib.hid (fun (w1 : World) (bb : Below w.heap.size w w1) => copyInts T m c t w1 (hT.next bb) hcT.2.2 hm)
  have LK := Lib.hid (fun (w1 : World) (bb : Below w.heap.size w w1) (nw : Value) (x : List Int) (hx : Rd w1 w1.heap.size sI [nw] x) (hx2 : sz sI x ≤ 1048576) => specPickBy _ _ nw d x s w1 (h.next bb) hx hz hx2)
  have LS := Lib.hid (fun (w1 : World) (bb : Below w.heap.size w w1) (nw : Value) (x : List Int) (hx : Rd w1 w1.heap.size sI [nw] x) hok y k hy hk => l7Step _ _ nw d x y k w1 (h.next bb) hx hz hok hy hk)
  have LN := Lib.hid (fun (w1 : World) (bb : Below w.heap.size w w1) (nw : Value) (x : List Int) (hx : Rd w1 w1.heap.size sI [nw] x) (hx2 : sz sI x ≤ 1048576) => specNormalIn _ _ nw d x w1 (h.next bb) hx hz hx2)
  have K0 : W.cell? ⟨w.heap.size, 0, none⟩ = some (.slice A n cs) := r0.cell 0
  have K1 : W.cell? ⟨w.heap.size, 1, none⟩ = some (.slice V q cv) := r0.cell 1
  clear hW h ht hz hT hcT
  cases ok : (rightB d.1 d.2 t && stratB s) with
  | false =>
    have HS := Lib.hid (by_off (by_no1 (f := f) ok))
    rw [ok] at LR
    clear ok LC LK LS LN
    go_enter Tryz.func9, Tryz.ntmps9
    go_wp2_with fail
    rw [← HW.out]
    go_wp2_with fail
    refine LR.out.mono ?_
    rintro e w1 ⟨rfl, bb⟩
    replace r1 := r1.next bb
    replace bel := next_trans bel bb
    clear K0 K1
    have y0 : w1.cell? ⟨w.heap.size + 1, 0, none⟩ = some (.slice none 0 0) := r1.cell 0
    have y1 : w1.cell? ⟨w.heap.size + 1, 1, none⟩ = some (.slice none 0 0) := r1.cell 1
    have g0 := r1.free 0
    have g1 := r1.free 1
    have ra := r1.put 0 (.slice none 0 0)
    have y2 : (w1.setCell ⟨w.heap.size + 1, 0, none⟩ (.slice none 0 0)).cell? ⟨w.heap.size + 1, 1, none⟩ = some (.slice none 0 0) := ra.cell 1
    have g2 := ra.free 1
    have rb := ra.put 1 (.slice none 0 0)
    have u0 : ((w1.setCell ⟨w.heap.size + 1, 0, none⟩ (.slice none 0 0)).setCell ⟨w.heap.size + 1, 1, none⟩ (.slice none 0 0)).cell? ⟨w.heap.size + 1, 0, none⟩ = some (.slice none 0 0) := rb.cell 0
    have u1 : ((w1.setCell ⟨w.heap.size + 1, 0, none⟩ (.slice none 0 0)).setCell ⟨w.heap.size + 1, 1, none⟩ (.slice none 0 0)).cell? ⟨w.heap.size + 1, 1, none⟩ = some (.slice none 0 0) := rb.cell 1
    have FZ : AnsWalk w (byW d.1 d.2 t s f) (byD d.1 d.2 t s f) (.returned (.tuple #[.agg #[.slice none 0 0, .slice none 0 0], .bool false])) ((w1.setCell ⟨w.heap.size + 1, 0, none⟩ (.slice none 0 0)).setCell ⟨w.heap.size + 1, 1, none⟩ (.slice none 0 0)) := ansWalk_no HS.out (((bel).setCell (show w.heap.size ≤ w.heap.size + 1 by omega) _).setCell (show w.heap.size ≤ w.heap.size + 1 by omega) _)
    have HFZ := Lib.hid FZ
    clear FZ ra rb bb bel r0 r1 LR
    go_wp2
    exact bodyPost_ret (v := .tuple #[.agg #[.slice none 0 0, .slice none 0 0], .bool false]) (by simp [results, Tryz.results9, go_sem, u0, u1]) rfl HFZ.out
  | true =>
    have HS := Lib.hid ok
    rw [ok] at LR
    clear ok
    by_cases hf : 0 ≤ f ∧ f ≤ 60
    · obtain ⟨F, rfl⟩ := Int.eq_ofNat_of_zero_le hf.1
      have hF : F ≤ 60 := by omega
      have HB := Lib.hid (by_yes HS.out (fuel_yes hF))
      have HR := Lib.hid ((Bool.and_eq_true _ _).mp HS.out)
      have HIN := Lib.hid (fun w1 => inYes (F : Int) 0 60 w1 (by omega))
      have zW : w.heap.size + 1 < W.heap.size := r1.lt
      clear hf
      go_enter Tryz.func9, Tryz.ntmps9
      go_wp2_with fail
      rw [← HW.out]
      go_wp2_with fail
      refine LR.out.mono ?_
      rintro e w1 ⟨rfl, bb⟩
      replace r0 := r0.next bb
      replace r1 := r1.next bb
      replace bel := next_trans bel bb
      have zw1 : w.heap.size + 1 < w1.heap.size := r1.lt
      have LI := Lib.hid (HIN.out w1)
      have LC1 := Lib.hid (LC.out w1 bel)
      clear bb K0 K1 LR zW HIN
      go_wp2_with fail
      refine LI.out.mono ?_
      rintro e w2 ⟨rfl, rfl⟩
      go_wp2_with fail
      refine LC1.out.mono ?_
      rintro e w3 ⟨X, xn, xc, rfl, oX, bb⟩
      replace r0 := r0.next bb
      replace r1 := r1.next bb
      replace bel := next_trans bel bb
      have zz := bb.size
      have b4 : Below w3.heap.size w3 (w3.alloc (.cells #[.slice X xn xc, .slice none 0 0] 34)) := (Below.refl _ _).alloc (Nat.le_refl _) _
      obtain ⟨W4, hW4⟩ : ∃ W4, W4 = w3.alloc (.cells #[.slice X xn xc, .slice none 0 0] 34) := ⟨_, rfl⟩
      have HI0 := Lib.hid (show Wb w 29 (.slice A n cs) (.slice V q cv) w3.heap.size X none xn xc 0 0 t [] W4 from by
        rw [hW4]
        exact ⟨r0.next b4, r1.next b4, Row.new _ _ _, ((Ownd.of_own oX).next b4).wider (by omega) (Nat.le_refl _), OwnL.nil _ _ _ _ _, next_trans bel b4, by omega⟩)
      have LC2 := Lib.hid (LC.out W4 HI0.out.b)
      have HW4 := Lib.hid hW4
      clear bb oX b4 r0 r1 bel hW4 LC1 HW LI LC
      go_wp2_with fail
      rw [← HW4.out]
      refine LC2.out.mono ?_
      rintro e w5 ⟨N, nn, nc, rfl, oN, bb⟩
      have HI1 := Lib.hid (HI0.out.next bb)
      have HN1 := Lib.hid (Own.lower oN (show w.heap.size + 1 + 1 ≤ W4.heap.size by have h1 := HI0.out.r3.lt; have h2 := HI0.out.z; omega))
      clear HW4 bb oN HI0 LC2
      generalize w3.heap.size = B at *
      go_wp2_with fail
      go_loopg [11] F (fun g now_ wr => ∃ (i on oc nn nc : Nat) (O N : Option Addr) (L : List St) (x : List Int), now_ = .slice N nn nc ∧ i + g = F ∧ Gone d.1 d.2 s F t i L x ∧ Wb w 29 (.slice A n cs) (.slice V q cv) B X O xn xc on oc t L wr ∧ Own wr (w.heap.size + 1 + 1) (.slice N nn nc) x)
      case atStart => exact ⟨0, 0, 0, _, _, _, _, _, _, rfl, by omega, gone_zero HR.out.1, HI1.out, HN1.out⟩
      case round =>
        clear HI1 HN1
        obtain ⟨i, on, oc, nn, nc, O, N, L, x, rfl, hig, G, J, hN⟩ := hrel
        have HI := Lib.hid hig
        have HG := Lib.hid G
        have hon : on = i := by rw [← G.2.1, J.o.1]
        subst hon
        have hx60 : x.length ≤ 60 := (term_len (right_parts G.2.2.2.1).2).2
        have hx2 : sz sI x ≤ 1048576 := by rw [sz_ints]; omega
        have K0 : wr.cell? ⟨w.heap.size, 0, none⟩ = some (.slice A n cs) := J.r0.cell 0
        have K1 : wr.cell? ⟨w.heap.size, 1, none⟩ = some (.slice V q cv) := J.r0.cell 1
        have K2 : wr.cell? ⟨B, 0, none⟩ = some (.slice X xn xc) := J.r3.cell 0
        have K3 : wr.cell? ⟨B, 1, none⟩ = some (.slice O on oc) := J.r3.cell 1
        have HJ := Lib.hid J
        have HNR := Lib.hid hN
        have HX2 := Lib.hid hx2
        clear J hN hig G hx2
        by_cases hlt : on < F
        · have h1 : (on : Int) < (F : Int) := by omega
          have LK1 := Lib.hid (LK.out wr HJ.out.b _ x (rd_own HNR.out) HX2.out)
          rw [pickO_yes HG.out.2.2.2.1 HR.out.2] at LK1
          cases hp : pickL d.1 d.2 x s with
          | none =>
            have HP := Lib.hid (gone_none HG.out hp)
            rw [hp] at LK1
            clear hp LK LS
            go_wp2_with fail
            refine LK1.out.mono ?_
            rintro e w6 ⟨he, bb⟩
            have he : e = .returned (.tuple #[.int .i64 0, .int .i64 0, .bool false]) := he
            subst he
            have HJ2 := Lib.hid (HJ.out.next bb)
            have HN2 := Lib.hid (HNR.out.next bb)
            clear K0 K1 K2 K3 bb HJ HNR LK1
            go_upto_region 12 with fail
            have HZ := Lib.hid (by_done HP.out HG.out.2.2.1 HB.out)
            have c0 : w6.cell? ⟨w.heap.size, 0, none⟩ = some (.slice A n cs) := HJ2.out.r0.cell 0
            have c1 : w6.cell? ⟨w.heap.size, 1, none⟩ = some (.slice V q cv) := HJ2.out.r0.cell 1
            have c2 : w6.cell? ⟨B, 0, none⟩ = some (.slice X xn xc) := HJ2.out.r3.cell 0
            have c3 : w6.cell? ⟨B, 1, none⟩ = some (.slice O on oc) := HJ2.out.r3.cell 1
            have zS : w.heap.size < w6.drew.heap.size := show w.heap.size < w6.heap.size from HJ2.out.r0.lt
            have zB : B < w6.drew.heap.size := show B < w6.heap.size from HJ2.out.r3.lt
            have LN1 := Lib.hid (LN.out w6.drew (next_trans HJ2.out.b (drew_below w6)) _ x (rd_own (HN2.out.next (drew_below w6))) HX2.out)
            have HBD := Lib.hid (drew_below w6)
            clear LN HN2
            refine AnyT.start (S := (fun w' => w'.cell? ⟨w.heap.size, 0, none⟩ = some (.slice A n cs) ∧ w'.cell? ⟨w.heap.size, 1, none⟩ = some (.slice V q cv) ∧ w'.cell? ⟨B, 0, none⟩ = some (.slice X xn xc) ∧ w'.cell? ⟨B, 1, none⟩ = some (.slice O on oc))) (fun _ => false) (by kernel_rfl) ⟨c0, c1, c2, c3⟩ (fun hHeld => ?_)
            refine AnyT.take (i := 0) (v := ?_) rfl (by kernel_rfl) (by kernel_rfl) (by kernel_rfl) (by kernel_rfl) (fun _ _ _ h => h) (Or.inl ⟨by rfl, ?_⟩) (by assumption) ?_
            rotate_left 1
            · (intro w0 hSw; (try dsimp only at hSw); go_simp; try with_reducible rfl)
            try simp only [Act.put, List.setIfInBounds_toArray, List.set_cons_zero, List.set_cons_succ, List.getElem_toArray, List.getElem_cons_zero, List.getElem_cons_succ]
            refine AnyT.take (i := 1) (v := ?_) rfl (by kernel_rfl) (by kernel_rfl) (by kernel_rfl) (by kernel_rfl) (fun _ _ _ h => h) (Or.inl ⟨by rfl, ?_⟩) (by assumption) ?_
            rotate_left 1
            · (intro w0 hSw; (try dsimp only at hSw); go_simp; try with_reducible rfl)
            try simp only [Act.put, List.setIfInBounds_toArray, List.set_cons_zero, List.set_cons_succ, List.getElem_toArray, List.getElem_cons_zero, List.getElem_cons_succ]
            refine AnyT.takeA (i := 2) (v := ?_) rfl (by kernel_rfl) (by kernel_rfl) (by kernel_rfl) (fun _ _ _ h => h) (Or.inl ⟨by rfl, ?_⟩) ?_
            rotate_left 1
            · (intro w0 _; go_simp; try with_reducible rfl)
            try simp only [Act.put, List.setIfInBounds_toArray, List.set_cons_zero, List.set_cons_succ, List.getElem_toArray, List.getElem_cons_zero, List.getElem_cons_succ]
            refine AnyT.call (i := 3) (by kernel_rfl) rfl (fun K hK => ?_)
            try simp only [Act.put, List.setIfInBounds_toArray, List.set_cons_zero, List.set_cons_succ, List.getElem_toArray, List.getElem_cons_zero, List.getElem_cons_succ]
            rw [if_pos (by rfl)]
            go_simp
            (go_at_call 46; refine LN1.out.mono ?_; rintro e w9 ⟨rfl, bb9⟩; have e0 : w9.cell? ⟨w.heap.size, 0, none⟩ = some (.slice A n cs) := (bb9.cell (p := ⟨w.heap.size, 0, none⟩) zS).trans c0; have e1 : w9.cell? ⟨w.heap.size, 1, none⟩ = some (.slice V q cv) := (bb9.cell (p := ⟨w.heap.size, 1, none⟩) zS).trans c1; have e2 : w9.cell? ⟨B, 0, none⟩ = some (.slice X xn xc) := (bb9.cell (p := ⟨B, 0, none⟩) zB).trans c2; have e3 : w9.cell? ⟨B, 1, none⟩ = some (.slice O on oc) := (bb9.cell (p := ⟨B, 1, none⟩) zB).trans c3; go_wp2_with fail)
            refine hK.out _ _ (fun _ _ => ?_) (fun hKeep => ?_)
            · exact ⟨e0, e1, e2, e3⟩
            replace hHeld := hKeep (by first | rfl | trivial) hHeld
            clear hK K hKeep
            try simp only [Act.put, List.setIfInBounds_toArray, List.set_cons_zero, List.set_cons_succ, List.getElem_toArray, List.getElem_cons_zero, List.getElem_cons_succ]
            have hb9 := HBD.out.trans bb9
            have r9 := HJ2.out.r1.next hb9
            have g0 := r9.free 0
            have g1 := r9.free 1
            have y0 : w9.cell? ⟨w.heap.size + 1, 0, none⟩ = some (.slice none 0 0) := r9.cell 0
            have y1 : w9.cell? ⟨w.heap.size + 1, 1, none⟩ = some (.slice none 0 0) := r9.cell 1
            have ra := r9.put 0 (.slice X xn xc)
            have y2 : (w9.setCell ⟨w.heap.size + 1, 0, none⟩ (.slice X xn xc)).cell? ⟨w.heap.size + 1, 1, none⟩ = some (.slice none 0 0) := ra.cell 1
            have g2 := ra.free 1
            have rb := ra.put 1 (.slice O on oc)
            have u0 : ((w9.setCell ⟨w.heap.size + 1, 0, none⟩ (.slice X xn xc)).setCell ⟨w.heap.size + 1, 1, none⟩ (.slice O on oc)).cell? ⟨w.heap.size + 1, 0, none⟩ = some (.slice X xn xc) := rb.cell 0
            have u1 : ((w9.setCell ⟨w.heap.size + 1, 0, none⟩ (.slice X xn xc)).setCell ⟨w.heap.size + 1, 1, none⟩ (.slice O on oc)).cell? ⟨w.heap.size + 1, 1, none⟩ = some (.slice O on oc) := rb.cell 1
            have j9 := HJ2.out.next hb9
            have a0 := (j9.r0.far (show w.heap.size ≠ w.heap.size + 1 by omega) (p := ⟨w.heap.size + 1, 0, none⟩) (.slice X xn xc)).far (show w.heap.size ≠ w.heap.size + 1 by omega) (p := ⟨w.heap.size + 1, 1, none⟩) (.slice O on oc)
            have a3 := (j9.r3.far (show B ≠ w.heap.size + 1 by have := j9.z; omega) (p := ⟨w.heap.size + 1, 0, none⟩) (.slice X xn xc)).far (show B ≠ w.heap.size + 1 by have := j9.z; omega) (p := ⟨w.heap.size + 1, 1, none⟩) (.slice O on oc)
            have FZ : AnsWalk w (byW d.1 d.2 t s (F : Int)) (byD d.1 d.2 t s (F : Int)) (.returned (.tuple #[.agg #[.slice X xn xc, .slice O on oc], .bool (normalB d.1 d.2 x)])) ((w9.setCell ⟨w.heap.size + 1, 0, none⟩ (.slice X xn xc)).setCell ⟨w.heap.size + 1, 1, none⟩ (.slice O on oc)) := by
              rw [← HZ.out.2]
              exact ansWalk_yes (b := byD d.1 d.2 t s (F : Int)) HJ2.out HZ.out.1 hb9
            have HFZ := Lib.hid FZ
            have HA0 := Lib.hid a0
            have HA3 := Lib.hid a3
            clear FZ ra rb r9 hb9 bb9 j9 a0 a3
            refine AnyT.call (i := 4) (by kernel_rfl) rfl (fun K hK => ?_)
            try simp only [Act.put, List.setIfInBounds_toArray, List.set_cons_zero, List.set_cons_succ, List.getElem_toArray, List.getElem_cons_zero, List.getElem_cons_succ]
            rw [if_pos (by rfl)]
            go_simp
            refine hK.out _ _ (fun _ _ => ?_) (fun hKeep => ?_)
            · exact ⟨HA0.out.cell 0, HA0.out.cell 1, HA3.out.cell 0, HA3.out.cell 1⟩
            replace hHeld := hKeep (by first | rfl | trivial) hHeld
            clear hK K hKeep
            try simp only [Act.put, List.setIfInBounds_toArray, List.set_cons_zero, List.set_cons_succ, List.getElem_toArray, List.getElem_cons_zero, List.getElem_cons_succ]
            refine AnyT.takeA (i := 5) (v := ?_) rfl (by kernel_rfl) (by kernel_rfl) (by kernel_rfl) (fun _ _ _ h => h) (Or.inl ⟨by rfl, ?_⟩) ?_
            rotate_left 1
            · (intro w0 _; go_simp; try with_reducible rfl)
            try simp only [Act.put, List.setIfInBounds_toArray, List.set_cons_zero, List.set_cons_succ, List.getElem_toArray, List.getElem_cons_zero, List.getElem_cons_succ]
            refine AnyT.done (by kernel_rfl) ?_ _
            go_wp2
            exact bodyPost_ret (v := .tuple #[.agg #[.slice X xn xc, .slice O on oc], .bool (normalB d.1 d.2 x)]) (by simp [results, Tryz.results9, go_sem, u0, u1]) rfl HFZ.out
          | some p =>
            obtain ⟨pa, pk, rfl, hpa, hpk, hred, -, hst⟩ := pick_step HG.out.2.2.2.1 hp
            have LS1 := Lib.hid (fun (w1 : World) (bb : Below wr.heap.size wr w1) => LS.out w1 (next_trans HJ.out.b bb) _ x (rd_own (HNR.out.next bb)) HG.out.2.2.2.1 pa pk hpa hpk)
            have HP := Lib.hid hp
            rw [hp] at LK1
            have LK2 := Lib.hid (show Calls Tryz.prog 44 #[.agg #[.slice A n cs, .slice V q cv], .slice N nn nc, .int .i64 s] wr (fun e w' => e = .returned (.tuple #[.int .i64 (pa : Int), .int .i64 (pk : Int), .bool true]) ∧ Below wr.heap.size wr w') from LK1.out)
            have HST := Lib.hid hst
            obtain ⟨so, hso⟩ : ∃ so, stepO d.1 (d.2.getD pk ([], [])) x pa = so := ⟨_, rfl⟩
            rw [hso] at LS1 HST
            have HSO := Lib.hid hso
            clear hp LK LS LK1 hst hso hred
            cases so with
            | none =>
              have HQ := Lib.hid (gone_stop HG.out HP.out HST.out)
              go_wp2_with fail
              refine LK2.out.mono ?_
              rintro e w6 ⟨rfl, bb⟩
              have HJ2 := Lib.hid (HJ.out.next bb)
              have LS2 := Lib.hid (LS1.out w6 bb)
              have HN2 := Lib.hid (HNR.out.next bb)
              have k0 : w6.cell? ⟨w.heap.size, 0, none⟩ = some (.slice A n cs) := HJ2.out.r0.cell 0
              have k1 : w6.cell? ⟨w.heap.size, 1, none⟩ = some (.slice V q cv) := HJ2.out.r0.cell 1
              clear K0 K1 K2 K3 bb HJ HNR LK2 LS1
              go_wp2_with fail
              refine LS2.out.mono ?_
              rintro e w7 ⟨Y, yn, yc, he, oY, bb⟩
              have he : e = .returned (.tuple #[.slice Y yn yc, .bool false]) := he
              subst he
              have HJ3 := Lib.hid (HJ2.out.next bb)
              have HN3 := Lib.hid (HN2.out.next bb)
              clear k0 k1 bb HJ2 HN2 LS2 oY
              go_upto_region 12 with fail
              have HZ := Lib.hid (by_done HQ.out HG.out.2.2.1 HB.out)
              have c0 : w7.cell? ⟨w.heap.size, 0, none⟩ = some (.slice A n cs) := HJ3.out.r0.cell 0
              have c1 : w7.cell? ⟨w.heap.size, 1, none⟩ = some (.slice V q cv) := HJ3.out.r0.cell 1
              have c2 : w7.cell? ⟨B, 0, none⟩ = some (.slice X xn xc) := HJ3.out.r3.cell 0
              have c3 : w7.cell? ⟨B, 1, none⟩ = some (.slice O on oc) := HJ3.out.r3.cell 1
              have zS : w.heap.size < w7.drew.heap.size := show w.heap.size < w7.heap.size from HJ3.out.r0.lt
              have zB : B < w7.drew.heap.size := show B < w7.heap.size from HJ3.out.r3.lt
              have LN1 := Lib.hid (LN.out w7.drew (next_trans HJ3.out.b (drew_below w7)) _ x (rd_own (HN3.out.next (drew_below w7))) HX2.out)
              have HBD := Lib.hid (drew_below w7)
              clear LN HN3
              refine AnyT.start (S := (fun w' => w'.cell? ⟨w.heap.size, 0, none⟩ = some (.slice A n cs) ∧ w'.cell? ⟨w.heap.size, 1, none⟩ = some (.slice V q cv) ∧ w'.cell? ⟨B, 0, none⟩ = some (.slice X xn xc) ∧ w'.cell? ⟨B, 1, none⟩ = some (.slice O on oc))) (fun _ => false) (by kernel_rfl) ⟨c0, c1, c2, c3⟩ (fun hHeld => ?_)
              refine AnyT.take (i := 0) (v := ?_) rfl (by kernel_rfl) (by kernel_rfl) (by kernel_rfl) (by kernel_rfl) (fun _ _ _ h => h) (Or.inl ⟨by rfl, ?_⟩) (by assumption) ?_
              rotate_left 1
              · (intro w0 hSw; (try dsimp only at hSw); go_simp; try with_reducible rfl)
              try simp only [Act.put, List.setIfInBounds_toArray, List.set_cons_zero, List.set_cons_succ, List.getElem_toArray, List.getElem_cons_zero, List.getElem_cons_succ]
              refine AnyT.take (i := 1) (v := ?_) rfl (by kernel_rfl) (by kernel_rfl) (by kernel_rfl) (by kernel_rfl) (fun _ _ _ h => h) (Or.inl ⟨by rfl, ?_⟩) (by assumption) ?_
              rotate_left 1
              · (intro w0 hSw; (try dsimp only at hSw); go_simp; try with_reducible rfl)
              try simp only [Act.put, List.setIfInBounds_toArray, List.set_cons_zero, List.set_cons_succ, List.getElem_toArray, List.getElem_cons_zero, List.getElem_cons_succ]
              refine AnyT.takeA (i := 2) (v := ?_) rfl (by kernel_rfl) (by kernel_rfl) (by kernel_rfl) (fun _ _ _ h => h) (Or.inl ⟨by rfl, ?_⟩) ?_
              rotate_left 1
              · (intro w0 _; go_simp; try with_reducible rfl)
              try simp only [Act.put, List.setIfInBounds_toArray, List.set_cons_zero, List.set_cons_succ, List.getElem_toArray, List.getElem_cons_zero, List.getElem_cons_succ]
              refine AnyT.call (i := 3) (by kernel_rfl) rfl (fun K hK => ?_)
              try simp only [Act.put, List.setIfInBounds_toArray, List.set_cons_zero, List.set_cons_succ, List.getElem_toArray, List.getElem_cons_zero, List.getElem_cons_succ]
              rw [if_pos (by rfl)]
              go_simp
              (go_at_call 46; refine LN1.out.mono ?_; rintro e w9 ⟨rfl, bb9⟩; have e0 : w9.cell? ⟨w.heap.size, 0, none⟩ = some (.slice A n cs) := (bb9.cell (p := ⟨w.heap.size, 0, none⟩) zS).trans c0; have e1 : w9.cell? ⟨w.heap.size, 1, none⟩ = some (.slice V q cv) := (bb9.cell (p := ⟨w.heap.size, 1, none⟩) zS).trans c1; have e2 : w9.cell? ⟨B, 0, none⟩ = some (.slice X xn xc) := (bb9.cell (p := ⟨B, 0, none⟩) zB).trans c2; have e3 : w9.cell? ⟨B, 1, none⟩ = some (.slice O on oc) := (bb9.cell (p := ⟨B, 1, none⟩) zB).trans c3; go_wp2_with fail)
              refine hK.out _ _ (fun _ _ => ?_) (fun hKeep => ?_)
              · exact ⟨e0, e1, e2, e3⟩
              replace hHeld := hKeep (by first | rfl | trivial) hHeld
              clear hK K hKeep
              try simp only [Act.put, List.setIfInBounds_toArray, List.set_cons_zero, List.set_cons_succ, List.getElem_toArray, List.getElem_cons_zero, List.getElem_cons_succ]
              have hb9 := HBD.out.trans bb9
              have r9 := HJ3.out.r1.next hb9
              have g0 := r9.free 0
              have g1 := r9.free 1
              have y0 : w9.cell? ⟨w.heap.size + 1, 0, none⟩ = some (.slice none 0 0) := r9.cell 0
              have y1 : w9.cell? ⟨w.heap.size + 1, 1, none⟩ = some (.slice none 0 0) := r9.cell 1
              have ra := r9.put 0 (.slice X xn xc)
              have y2 : (w9.setCell ⟨w.heap.size + 1, 0, none⟩ (.slice X xn xc)).cell? ⟨w.heap.size + 1, 1, none⟩ = some (.slice none 0 0) := ra.cell 1
              have g2 := ra.free 1
              have rb := ra.put 1 (.slice O on oc)
              have u0 : ((w9.setCell ⟨w.heap.size + 1, 0, none⟩ (.slice X xn xc)).setCell ⟨w.heap.size + 1, 1, none⟩ (.slice O on oc)).cell? ⟨w.heap.size + 1, 0, none⟩ = some (.slice X xn xc) := rb.cell 0
              have u1 : ((w9.setCell ⟨w.heap.size + 1, 0, none⟩ (.slice X xn xc)).setCell ⟨w.heap.size + 1, 1, none⟩ (.slice O on oc)).cell? ⟨w.heap.size + 1, 1, none⟩ = some (.slice O on oc) := rb.cell 1
              have j9 := HJ3.out.next hb9
              have a0 := (j9.r0.far (show w.heap.size ≠ w.heap.size + 1 by omega) (p := ⟨w.heap.size + 1, 0, none⟩) (.slice X xn xc)).far (show w.heap.size ≠ w.heap.size + 1 by omega) (p := ⟨w.heap.size + 1, 1, none⟩) (.slice O on oc)
              have a3 := (j9.r3.far (show B ≠ w.heap.size + 1 by have := j9.z; omega) (p := ⟨w.heap.size + 1, 0, none⟩) (.slice X xn xc)).far (show B ≠ w.heap.size + 1 by have := j9.z; omega) (p := ⟨w.heap.size + 1, 1, none⟩) (.slice O on oc)
              have FZ : AnsWalk w (byW d.1 d.2 t s (F : Int)) (byD d.1 d.2 t s (F : Int)) (.returned (.tuple #[.agg #[.slice X xn xc, .slice O on oc], .bool (normalB d.1 d.2 x)])) ((w9.setCell ⟨w.heap.size + 1, 0, none⟩ (.slice X xn xc)).setCell ⟨w.heap.size + 1, 1, none⟩ (.slice O on oc)) := by
                rw [← HZ.out.2]
                exact ansWalk_yes (b := byD d.1 d.2 t s (F : Int)) HJ3.out HZ.out.1 hb9
              have HFZ := Lib.hid FZ
              have HA0 := Lib.hid a0
              have HA3 := Lib.hid a3
              clear FZ ra rb r9 hb9 bb9 j9 a0 a3
              refine AnyT.call (i := 4) (by kernel_rfl) rfl (fun K hK => ?_)
              try simp only [Act.put, List.setIfInBounds_toArray, List.set_cons_zero, List.set_cons_succ, List.getElem_toArray, List.getElem_cons_zero, List.getElem_cons_succ]
              rw [if_pos (by rfl)]
              go_simp
              refine hK.out _ _ (fun _ _ => ?_) (fun hKeep => ?_)
              · exact ⟨HA0.out.cell 0, HA0.out.cell 1, HA3.out.cell 0, HA3.out.cell 1⟩
              replace hHeld := hKeep (by first | rfl | trivial) hHeld
              clear hK K hKeep
              try simp only [Act.put, List.setIfInBounds_toArray, List.set_cons_zero, List.set_cons_succ, List.getElem_toArray, List.getElem_cons_zero, List.getElem_cons_succ]
              refine AnyT.takeA (i := 5) (v := ?_) rfl (by kernel_rfl) (by kernel_rfl) (by kernel_rfl) (fun _ _ _ h => h) (Or.inl ⟨by rfl, ?_⟩) ?_
              rotate_left 1
              · (intro w0 _; go_simp; try with_reducible rfl)
              try simp only [Act.put, List.setIfInBounds_toArray, List.set_cons_zero, List.set_cons_succ, List.getElem_toArray, List.getElem_cons_zero, List.getElem_cons_succ]
              refine AnyT.done (by kernel_rfl) ?_ _
              go_wp2
              exact bodyPost_ret (v := .tuple #[.agg #[.slice X xn xc, .slice O on oc], .bool (normalB d.1 d.2 x)]) (by simp [results, Tryz.results9, go_sem, u0, u1]) rfl HFZ.out
            | some y =>
              have HG2 := Lib.hid (gone_step HG.out hlt HP.out HST.out)
              have HL60 : L.length ≤ 60 := by rw [HG.out.2.1]; omega
              go_wp2_with fail
              refine LK2.out.mono ?_
              rintro e w6 ⟨rfl, bb⟩
              have HJ2 := Lib.hid (HJ.out.next bb)
              have LS2 := Lib.hid (LS1.out w6 bb)
              have k0 : w6.cell? ⟨w.heap.size, 0, none⟩ = some (.slice A n cs) := HJ2.out.r0.cell 0
              have k1 : w6.cell? ⟨w.heap.size, 1, none⟩ = some (.slice V q cv) := HJ2.out.r0.cell 1
              clear K0 K1 K2 K3 bb HJ HNR LK2 LS1
              go_wp2_with fail
              refine LS2.out.mono ?_
              rintro e w7 ⟨Y, yn, yc, he, oY, bb⟩
              have he : e = .returned (.tuple #[.slice Y yn yc, .bool true]) := he
              subst he
              have oY : Own w7 w6.heap.size (.slice Y yn yc) y := oY
              have J3 := HJ2.out.next bb
              have c3 : w7.cell? ⟨B, 1, none⟩ = some (.slice O on oc) := J3.r3.cell 1
              have zB : B + 1 ≤ w6.heap.size := HJ2.out.r3.lt
              have b3 : Below w7.heap.size w7 (w7.alloc (.cells #[.int .i64 (pa : Int), .int .i64 (pk : Int), .slice Y yn yc] 83)) := (Below.refl _ _).alloc (Nat.le_refl _) _
              have z2 := bb.size
              have HAPP := Lib.hid (show OwnL (w7.alloc (.cells #[.int .i64 (pa : Int), .int .i64 (pk : Int), .slice Y yn yc] 83)) (B + 1) w6.heap.size 83 sStep O on oc L ∧ OwnL (w7.alloc (.cells #[.int .i64 (pa : Int), .int .i64 (pk : Int), .slice Y yn yc] 83)) w6.heap.size (w7.heap.size + 1) 83 sStep (some ⟨w7.heap.size, 0, none⟩) 1 1 [((pa : Int), (pk : Int), y)] from
                ⟨(HJ2.out.o.next bb).next b3, OwnL.single (e := 83) (s := sStep) (Row.new w7 83 #[.int .i64 (pa : Int), .int .i64 (pk : Int), .slice Y yn yc]) ((owned_step oY (pa : Int) (pk : Int)).next b3) (Nat.le_refl _) z2⟩)
              have HBY := Lib.hid (show ∀ k, blk O = some k → k < w6.heap.size from fun k e => (HJ2.out.o.ge k e).2)
              have HJ3 := Lib.hid J3
              have HOY := Lib.hid (oY.next b3)
              have HYG := Lib.hid (show ∀ k, blk Y = some k → w6.heap.size ≤ k from fun k e => (ownLt oY k e).1)
              have r3 := J3.r3.next b3
              have HR3 := Lib.hid r3
              clear k0 k1 bb HJ2 LS2 oY b3 J3 r3
              go_wp2_with (at_builtin; refine appLm rfl _ _ 32 83 sStep _ _ Tryz.underlying32 info_StepS rfl (by decide) rfl (B + 1) w6.heap.size w6.heap.size (w7.heap.size + 1) O on oc w7.heap.size 1 1 _ _ rfl HAPP.out.1 rfl HAPP.out.2 (Nat.le_refl _) zB (by omega) (by omega) (by simp; omega) ?_; intro A4 oc' w4 oL4 hg4 hat4 b4 hf4; obtain ⟨O', rfl⟩ := hf4 (.inr (by omega)); have rB4 := HR3.out.below b4 (show B < B + 1 by omega); have y1 : w4.cell? ⟨B, 1, none⟩ = some (.slice O on oc) := rB4.cell 1; have g1 := rB4.free 1; refine (?_ : Hid _).out)
              have HJ5 := Lib.hid (HJ3.out.app oL4 hg4)
              have oY4 : Own w4 w6.heap.size (.slice Y yn yc) y := Go.Proofs.YtfkgiimcnlagmaaGreat.appAt.Own.kept HOY.out hg4 (by
                cases hY : blk Y with
                | none => exact .inl rfl
                | some k => exact .inr fun e => by have h1 := HYG.out k hY; have h2 := HBY.out k e.symm; omega)
              have oY5 := (Ownd.of_own oY4).btw (w' := w4.setCell ⟨B, 1, none⟩ (.slice (some ⟨O', 0, none⟩) (on + 1) oc')) (lo' := B) (hi' := B + 1) ⟨rfl, rfl, rfl, by simp, fun k hk ho => Below.heap_setCell w4 _ _ k (by show k ≠ B; omega)⟩ (.inr (by omega))
              have hy60 : y.length ≤ 60 := (term_len (right_parts HG2.out.2.2.2.1).2).2
              have LC3 := Lib.hid (copyInts Y yn yc y _ (Own.seg oY5.1) (look.own_cap oY5.1).2.2 (by have := Own.len oY5.1; omega))
              clear oL4 hg4 hat4 b4 hf4 HAPP HJ3 HOY HBY HYG HR3 rB4 oY4 oY5
              refine Lib.hid ?_
              go_wp2_with fail
              refine LC3.out.mono ?_
              rintro e w8 ⟨N2, nn2, nc2, rfl, oN, bb⟩
              have HJ6 := Lib.hid (HJ5.out.next bb)
              have HN6 := Lib.hid (Own.lower oN (show w.heap.size + 1 + 1 ≤ _ by have h1 := HJ5.out.r3.lt; have h2 := HJ5.out.z; omega))
              clear bb oN HJ5 LC3 y1 g1 c3
              go_wp2
              go_roundg (gk - 1)
              case measure => have := HI.out; omega
              case rel => exact ⟨on + 1, on + 1, oc', nn2, nc2, some ⟨O', 0, none⟩, N2, L ++ [((pa : Int), (pk : Int), y)], y, rfl, by have := HI.out; omega, HG2.out, HJ6.out, HN6.out⟩
        · have HP := Lib.hid (gone_full HG.out hlt)
          have h1 : ¬ (on : Int) < (F : Int) := by omega
          clear LK LS
          go_upto_region 12 with fail
          have HJ2 := HJ
          have HN2 := HNR
          clear HJ HNR K0 K1 K2 K3
          have HZ := Lib.hid (by_done HP.out HG.out.2.2.1 HB.out)
          have c0 : wr.cell? ⟨w.heap.size, 0, none⟩ = some (.slice A n cs) := HJ2.out.r0.cell 0
          have c1 : wr.cell? ⟨w.heap.size, 1, none⟩ = some (.slice V q cv) := HJ2.out.r0.cell 1
          have c2 : wr.cell? ⟨B, 0, none⟩ = some (.slice X xn xc) := HJ2.out.r3.cell 0
          have c3 : wr.cell? ⟨B, 1, none⟩ = some (.slice O on oc) := HJ2.out.r3.cell 1
          have zS : w.heap.size < wr.drew.heap.size := show w.heap.size < wr.heap.size from HJ2.out.r0.lt
          have zB : B < wr.drew.heap.size := show B < wr.heap.size from HJ2.out.r3.lt
          have LN1 := Lib.hid (LN.out wr.drew (next_trans HJ2.out.b (drew_below wr)) _ x (rd_own (HN2.out.next (drew_below wr))) HX2.out)
          have HBD := Lib.hid (drew_below wr)
          clear LN HN2
          refine AnyT.start (S := (fun w' => w'.cell? ⟨w.heap.size, 0, none⟩ = some (.slice A n cs) ∧ w'.cell? ⟨w.heap.size, 1, none⟩ = some (.slice V q cv) ∧ w'.cell? ⟨B, 0, none⟩ = some (.slice X xn xc) ∧ w'.cell? ⟨B, 1, none⟩ = some (.slice O on oc))) (fun _ => false) (by kernel_rfl) ⟨c0, c1, c2, c3⟩ (fun hHeld => ?_)
          refine AnyT.take (i := 0) (v := ?_) rfl (by kernel_rfl) (by kernel_rfl) (by kernel_rfl) (by kernel_rfl) (fun _ _ _ h => h) (Or.inl ⟨by rfl, ?_⟩) (by assumption) ?_
          rotate_left 1
          · (intro w0 hSw; (try dsimp only at hSw); go_simp; try with_reducible rfl)
          try simp only [Act.put, List.setIfInBounds_toArray, List.set_cons_zero, List.set_cons_succ, List.getElem_toArray, List.getElem_cons_zero, List.getElem_cons_succ]
          refine AnyT.take (i := 1) (v := ?_) rfl (by kernel_rfl) (by kernel_rfl) (by kernel_rfl) (by kernel_rfl) (fun _ _ _ h => h) (Or.inl ⟨by rfl, ?_⟩) (by assumption) ?_
          rotate_left 1
          · (intro w0 hSw; (try dsimp only at hSw); go_simp; try with_reducible rfl)
          try simp only [Act.put, List.setIfInBounds_toArray, List.set_cons_zero, List.set_cons_succ, List.getElem_toArray, List.getElem_cons_zero, List.getElem_cons_succ]
          refine AnyT.takeA (i := 2) (v := ?_) rfl (by kernel_rfl) (by kernel_rfl) (by kernel_rfl) (fun _ _ _ h => h) (Or.inl ⟨by rfl, ?_⟩) ?_
          rotate_left 1
          · (intro w0 _; go_simp; try with_reducible rfl)
          try simp only [Act.put, List.setIfInBounds_toArray, List.set_cons_zero, List.set_cons_succ, List.getElem_toArray, List.getElem_cons_zero, List.getElem_cons_succ]
          refine AnyT.call (i := 3) (by kernel_rfl) rfl (fun K hK => ?_)
          try simp only [Act.put, List.setIfInBounds_toArray, List.set_cons_zero, List.set_cons_succ, List.getElem_toArray, List.getElem_cons_zero, List.getElem_cons_succ]
          rw [if_pos (by rfl)]
          go_simp
          (go_at_call 46; refine LN1.out.mono ?_; rintro e w9 ⟨rfl, bb9⟩; have e0 : w9.cell? ⟨w.heap.size, 0, none⟩ = some (.slice A n cs) := (bb9.cell (p := ⟨w.heap.size, 0, none⟩) zS).trans c0; have e1 : w9.cell? ⟨w.heap.size, 1, none⟩ = some (.slice V q cv) := (bb9.cell (p := ⟨w.heap.size, 1, none⟩) zS).trans c1; have e2 : w9.cell? ⟨B, 0, none⟩ = some (.slice X xn xc) := (bb9.cell (p := ⟨B, 0, none⟩) zB).trans c2; have e3 : w9.cell? ⟨B, 1, none⟩ = some (.slice O on oc) := (bb9.cell (p := ⟨B, 1, none⟩) zB).trans c3; go_wp2_with fail)
          refine hK.out _ _ (fun _ _ => ?_) (fun hKeep => ?_)
          · exact ⟨e0, e1, e2, e3⟩
          replace hHeld := hKeep (by first | rfl | trivial) hHeld
          clear hK K hKeep
          try simp only [Act.put, List.setIfInBounds_toArray, List.set_cons_zero, List.set_cons_succ, List.getElem_toArray, List.getElem_cons_zero, List.getElem_cons_succ]
          have hb9 := HBD.out.trans bb9
          have r9 := HJ2.out.r1.next hb9
          have g0 := r9.free 0
          have g1 := r9.free 1
          have y0 : w9.cell? ⟨w.heap.size + 1, 0, none⟩ = some (.slice none 0 0) := r9.cell 0
          have y1 : w9.cell? ⟨w.heap.size + 1, 1, none⟩ = some (.slice none 0 0) := r9.cell 1
          have ra := r9.put 0 (.slice X xn xc)
          have y2 : (w9.setCell ⟨w.heap.size + 1, 0, none⟩ (.slice X xn xc)).cell? ⟨w.heap.size + 1, 1, none⟩ = some (.slice none 0 0) := ra.cell 1
          have g2 := ra.free 1
          have rb := ra.put 1 (.slice O on oc)
          have u0 : ((w9.setCell ⟨w.heap.size + 1, 0, none⟩ (.slice X xn xc)).setCell ⟨w.heap.size + 1, 1, none⟩ (.slice O on oc)).cell? ⟨w.heap.size + 1, 0, none⟩ = some (.slice X xn xc) := rb.cell 0
          have u1 : ((w9.setCell ⟨w.heap.size + 1, 0, none⟩ (.slice X xn xc)).setCell ⟨w.heap.size + 1, 1, none⟩ (.slice O on oc)).cell? ⟨w.heap.size + 1, 1, none⟩ = some (.slice O on oc) := rb.cell 1
          have j9 := HJ2.out.next hb9
          have a0 := (j9.r0.far (show w.heap.size ≠ w.heap.size + 1 by omega) (p := ⟨w.heap.size + 1, 0, none⟩) (.slice X xn xc)).far (show w.heap.size ≠ w.heap.size + 1 by omega) (p := ⟨w.heap.size + 1, 1, none⟩) (.slice O on oc)
          have a3 := (j9.r3.far (show B ≠ w.heap.size + 1 by have := j9.z; omega) (p := ⟨w.heap.size + 1, 0, none⟩) (.slice X xn xc)).far (show B ≠ w.heap.size + 1 by have := j9.z; omega) (p := ⟨w.heap.size + 1, 1, none⟩) (.slice O on oc)
          have FZ : AnsWalk w (byW d.1 d.2 t s (F : Int)) (byD d.1 d.2 t s (F : Int)) (.returned (.tuple #[.agg #[.slice X xn xc, .slice O on oc], .bool (normalB d.1 d.2 x)])) ((w9.setCell ⟨w.heap.size + 1, 0, none⟩ (.slice X xn xc)).setCell ⟨w.heap.size + 1, 1, none⟩ (.slice O on oc)) := by
            rw [← HZ.out.2]
            exact ansWalk_yes (b := byD d.1 d.2 t s (F : Int)) HJ2.out HZ.out.1 hb9
          have HFZ := Lib.hid FZ
          have HA0 := Lib.hid a0
          have HA3 := Lib.hid a3
          clear FZ ra rb r9 hb9 bb9 j9 a0 a3
          refine AnyT.call (i := 4) (by kernel_rfl) rfl (fun K hK => ?_)
          try simp only [Act.put, List.setIfInBounds_toArray, List.set_cons_zero, List.set_cons_succ, List.getElem_toArray, List.getElem_cons_zero, List.getElem_cons_succ]
          rw [if_pos (by rfl)]
          go_simp
          refine hK.out _ _ (fun _ _ => ?_) (fun hKeep => ?_)
          · exact ⟨HA0.out.cell 0, HA0.out.cell 1, HA3.out.cell 0, HA3.out.cell 1⟩
          replace hHeld := hKeep (by first | rfl | trivial) hHeld
          clear hK K hKeep
          try simp only [Act.put, List.setIfInBounds_toArray, List.set_cons_zero, List.set_cons_succ, List.getElem_toArray, List.getElem_cons_zero, List.getElem_cons_succ]
          refine AnyT.takeA (i := 5) (v := ?_) rfl (by kernel_rfl) (by kernel_rfl) (by kernel_rfl) (fun _ _ _ h => h) (Or.inl ⟨by rfl, ?_⟩) ?_
          rotate_left 1
          · (intro w0 _; go_simp; try with_reducible rfl)
          try simp only [Act.put, List.setIfInBounds_toArray, List.set_cons_zero, List.set_cons_succ, List.getElem_toArray, List.getElem_cons_zero, List.getElem_cons_succ]
          refine AnyT.done (by kernel_rfl) ?_ _
          go_wp2
          exact bodyPost_ret (v := .tuple #[.agg #[.slice X xn xc, .slice O on oc], .bool (normalB d.1 d.2 x)]) (by simp [results, Tryz.results9, go_sem, u0, u1]) rfl HFZ.out
    · have HB := Lib.hid (by_off (by_no2 (sg := d.1) (rs := d.2) (t := t) (s := s) (decide_eq_false hf : fuelB f = false)))
      have HIN := Lib.hid (fun w1 => inNo f 0 60 w1 hf)
      clear hf LC LK LS LN
      go_enter Tryz.func9, Tryz.ntmps9
      go_wp2_with fail
      rw [← HW.out]
      go_wp2_with fail
      refine LR.out.mono ?_
      rintro e w1 ⟨rfl, bb⟩
      replace r1 := r1.next bb
      replace bel := next_trans bel bb
      have LI := Lib.hid (HIN.out w1)
      clear bb K0 K1 LR HIN
      go_wp2_with fail
      refine LI.out.mono ?_
      rintro e w2 ⟨rfl, rfl⟩
      have y0 : w1.cell? ⟨w.heap.size + 1, 0, none⟩ = some (.slice none 0 0) := r1.cell 0
      have y1 : w1.cell? ⟨w.heap.size + 1, 1, none⟩ = some (.slice none 0 0) := r1.cell 1
      have g0 := r1.free 0
      have g1 := r1.free 1
      have ra := r1.put 0 (.slice none 0 0)
      have y2 : (w1.setCell ⟨w.heap.size + 1, 0, none⟩ (.slice none 0 0)).cell? ⟨w.heap.size + 1, 1, none⟩ = some (.slice none 0 0) := ra.cell 1
      have g2 := ra.free 1
      have rb := ra.put 1 (.slice none 0 0)
      have u0 : ((w1.setCell ⟨w.heap.size + 1, 0, none⟩ (.slice none 0 0)).setCell ⟨w.heap.size + 1, 1, none⟩ (.slice none 0 0)).cell? ⟨w.heap.size + 1, 0, none⟩ = some (.slice none 0 0) := rb.cell 0
      have u1 : ((w1.setCell ⟨w.heap.size + 1, 0, none⟩ (.slice none 0 0)).setCell ⟨w.heap.size + 1, 1, none⟩ (.slice none 0 0)).cell? ⟨w.heap.size + 1, 1, none⟩ = some (.slice none 0 0) := rb.cell 1
      have FZ : AnsWalk w (byW d.1 d.2 t s f) (byD d.1 d.2 t s f) (.returned (.tuple #[.agg #[.slice none 0 0, .slice none 0 0], .bool false])) ((w1.setCell ⟨w.heap.size + 1, 0, none⟩ (.slice none 0 0)).setCell ⟨w.heap.size + 1, 1, none⟩ (.slice none 0 0)) := ansWalk_no HB.out (((bel).setCell (show w.heap.size ≤ w.heap.size + 1 by omega) _).setCell (show w.heap.size ≤ w.heap.size + 1 by omega) _)
      have HFZ := Lib.hid FZ
      clear FZ ra rb bel r0 r1 LI
      go_wp2
      exact bodyPost_ret (v := .tuple #[.agg #[.slice none 0 0, .slice none 0 0], .bool false]) (by simp [results, Tryz.results9, go_sem, u0, u1]) rfl HFZ.out
end Go.Proofs.YtfkgiimcnlagmaaGreat.bySpec
end

section
/-
  CONTRACTS: spec.WalkInside. Conditions: the arguments read as data ('Rd'), at most 1048576 numbers; the place is an int64. Written by a program of mine (mkwalkspecd.py). By an AI agent.
-/
namespace Go.Proofs.YtfkgiimcnlagmaaGreat.walkSpec
open Go.RowKit Go.Proofs.YtfkgiimcnlagmaaGreat.base Go.Proofs.YtfkgiimcnlagmaaGreat.ints Go.Proofs.YtfkgiimcnlagmaaGreat.sig Go.Proofs.YtfkgiimcnlagmaaGreat.term Go.Proofs.YtfkgiimcnlagmaaGreat.termOk Go.Proofs.YtfkgiimcnlagmaaGreat.endAt Go.Proofs.YtfkgiimcnlagmaaGreat.endOf Go.Proofs.YtfkgiimcnlagmaaGreat.marks Go.Proofs.YtfkgiimcnlagmaaGreat.app Go.Proofs.YtfkgiimcnlagmaaGreat.sym Go.Proofs.YtfkgiimcnlagmaaGreat.sub Go.Proofs.YtfkgiimcnlagmaaGreat.segs Go.Proofs.YtfkgiimcnlagmaaGreat.segsHelp Go.Proofs.YtfkgiimcnlagmaaGreat.kinds Go.Proofs.YtfkgiimcnlagmaaGreat.termFacts Go.Proofs.YtfkgiimcnlagmaaGreat.same Go.Proofs.YtfkgiimcnlagmaaGreat.shifted Go.Proofs.YtfkgiimcnlagmaaGreat.shape Go.Proofs.YtfkgiimcnlagmaaGreat.kindsR Go.Proofs.YtfkgiimcnlagmaaGreat.kindsW Go.Proofs.YtfkgiimcnlagmaaGreat.varsOf Go.Proofs.YtfkgiimcnlagmaaGreat.ruleMath Go.Proofs.YtfkgiimcnlagmaaGreat.ruleSpec Go.Proofs.YtfkgiimcnlagmaaGreat.stepMath Go.Proofs.YtfkgiimcnlagmaaGreat.walkMath Go.Proofs.YtfkgiimcnlagmaaGreat.stepSpec Go.Proofs.YtfkgiimcnlagmaaGreat.ownL Go.Proofs.YtfkgiimcnlagmaaGreat.heldT
set_option maxRecDepth 100000

/-! ### plain facts -/
section
variable {sg : List Int} {rs : List Rl} {k : Wk} {t : List Int} {x : Int}
end
structure Wi (w : World) (a v f s : Value) (B : Nat) (X O : Option Addr) (xn xc on oc : Nat) (fr : List Int) (L : List St) (wr : World) : Prop where
  r0 : Row wr w.heap.size 29 #[a, v]
  r1 : Row wr (w.heap.size + 1) 34 #[f, s]
  r2 : Row wr (w.heap.size + 1 + 1) 34 #[.slice none 0 0, .slice none 0 0]
  r3 : Row wr B 34 #[.slice X xn xc, .slice O on oc]
  x : Ownd wr (w.heap.size + 1 + 1 + 1) B X xn xc fr
  o : OwnL wr (B + 1) wr.heap.size 83 sStep O on oc L
  b : Below w.heap.size w wr
  z : w.heap.size + 1 + 1 + 1 ≤ B
theorem Wi.next {w wr w' : World} {a v f s : Value} {B : Nat} {X O : Option Addr} {xn xc on oc : Nat} {fr : List Int} {L : List St} (h : Wi w a v f s B X O xn xc on oc fr L wr) (hb : Below wr.heap.size wr w') : Wi w a v f s B X O xn xc on oc fr L w' :=
  ⟨h.r0.next hb, h.r1.next hb, h.r2.next hb, h.r3.next hb, h.x.next hb, (h.o.next hb).wider (Nat.le_refl _) hb.size, next_trans h.b hb, h.z⟩

end Go.Proofs.YtfkgiimcnlagmaaGreat.walkSpec
end

section
/-
  How many numbers a walk holds that WalkInside answers. Conditions: none. By an AI agent.
-/
namespace Go.Proofs.YtfkgiimcnlagmaaGreat.walkX
open Go.RowKit Go.Proofs.YtfkgiimcnlagmaaGreat.base Go.Proofs.YtfkgiimcnlagmaaGreat.sig Go.Proofs.YtfkgiimcnlagmaaGreat.term Go.Proofs.YtfkgiimcnlagmaaGreat.termOk Go.Proofs.YtfkgiimcnlagmaaGreat.termFacts Go.Proofs.YtfkgiimcnlagmaaGreat.segs Go.Proofs.YtfkgiimcnlagmaaGreat.shape Go.Proofs.YtfkgiimcnlagmaaGreat.kindsR Go.Proofs.YtfkgiimcnlagmaaGreat.kindsW Go.Proofs.YtfkgiimcnlagmaaGreat.ruleMath Go.Proofs.YtfkgiimcnlagmaaGreat.stepMath Go.Proofs.YtfkgiimcnlagmaaGreat.walkMath Go.Proofs.YtfkgiimcnlagmaaGreat.walkSpec
theorem steps_sz {L : List St} {C : Nat} (h : ∀ s ∈ L, s.2.2.length ≤ C) : sz sStepS L ≤ L.length * (C + 1) := by
  induction L with
  | nil => exact Nat.zero_le _
  | cons x r ih =>
    have h1 := ih (fun s hs => h s (List.mem_cons_of_mem _ hs))
    have h2 := h x (List.mem_cons_self ..)
    have e : sz sStepS (x :: r) = (r.length + 1) + ((0 + (0 + sz sI x.2.2)) + (r.map (sz sStep)).sum) := rfl
    have e2 : sz sStepS r = r.length + (r.map (sz sStep)).sum := rfl
    rw [e, sz_ints, List.length_cons, Nat.add_mul]
    rw [e2] at h1
    omega
theorem walk_sz {k : Wk} (h1 : k.1.length ≤ 60) (h2 : k.2.length ≤ 60) (h3 : ∀ s ∈ k.2, s.2.2.length ≤ 60) : sz sWalk k ≤ 1048576 := by
  show sz sI k.1 + sz sStepS k.2 ≤ 1048576
  have a := steps_sz h3
  have b : k.2.length * (60 + 1) ≤ 60 * 61 := Nat.mul_le_mul h2 (Nat.le_refl _)
  rw [sz_ints]
  omega
theorem zero_sz : sz sWalk (([], []) : List Int × List St) ≤ 1048576 := walk_sz (k := ([], [])) (by simp) (by simp) (fun s hs => by cases hs)
theorem walkB_sz {sg : List Int} {rs : List Rl} {k : Wk} (h : walkB sg rs k = true) : sz sWalk k ≤ 1048576 := by
  obtain ⟨-, q2, q3, q4⟩ := walk_parts h
  exact walk_sz (term_len q2).2 q3 (fun s hs => (term_len ((go_ok q2 q4).2 s hs)).2)
end Go.Proofs.YtfkgiimcnlagmaaGreat.walkX
end

section
/-
  CONTRACTS: spec.NormalBy, CountBy. Conditions: the arguments read as data ('Rd'), at most 1048576 numbers; strategy and fuel are int64. By an AI agent.
-/
namespace Go.Proofs.YtfkgiimcnlagmaaGreat.bySpec
open Go.RowKit Go.Proofs.YtfkgiimcnlagmaaGreat.base Go.Proofs.YtfkgiimcnlagmaaGreat.ints Go.Proofs.YtfkgiimcnlagmaaGreat.sig Go.Proofs.YtfkgiimcnlagmaaGreat.term Go.Proofs.YtfkgiimcnlagmaaGreat.termOk Go.Proofs.YtfkgiimcnlagmaaGreat.endAt Go.Proofs.YtfkgiimcnlagmaaGreat.endOf Go.Proofs.YtfkgiimcnlagmaaGreat.marks Go.Proofs.YtfkgiimcnlagmaaGreat.app Go.Proofs.YtfkgiimcnlagmaaGreat.sym Go.Proofs.YtfkgiimcnlagmaaGreat.sub Go.Proofs.YtfkgiimcnlagmaaGreat.segs Go.Proofs.YtfkgiimcnlagmaaGreat.segsHelp Go.Proofs.YtfkgiimcnlagmaaGreat.kinds Go.Proofs.YtfkgiimcnlagmaaGreat.termFacts Go.Proofs.YtfkgiimcnlagmaaGreat.same Go.Proofs.YtfkgiimcnlagmaaGreat.shifted Go.Proofs.YtfkgiimcnlagmaaGreat.shape Go.Proofs.YtfkgiimcnlagmaaGreat.drawX Go.Proofs.YtfkgiimcnlagmaaGreat.kindsR Go.Proofs.YtfkgiimcnlagmaaGreat.kindsW Go.Proofs.YtfkgiimcnlagmaaGreat.varsOf Go.Proofs.YtfkgiimcnlagmaaGreat.ruleMath Go.Proofs.YtfkgiimcnlagmaaGreat.ruleSpec Go.Proofs.YtfkgiimcnlagmaaGreat.stepMath Go.Proofs.YtfkgiimcnlagmaaGreat.walkMath Go.Proofs.YtfkgiimcnlagmaaGreat.stepSpec Go.Proofs.YtfkgiimcnlagmaaGreat.walkSpec Go.Proofs.YtfkgiimcnlagmaaGreat.walkX Go.Proofs.YtfkgiimcnlagmaaGreat.ownL Go.Proofs.YtfkgiimcnlagmaaGreat.heldT Go.Proofs.YtfkgiimcnlagmaaGreat.orderMath Go.Proofs.YtfkgiimcnlagmaaGreat.orderSpec
set_option maxRecDepth 100000

theorem byW_sz {sg : List Int} {rs : List Rl} {t : List Int} {s f : Int} : sz sWalk (byW sg rs t s f) ≤ 1048576 := by
  cases h : byB sg rs t s f with
  | true => exact walkB_sz (by_walk h)
  | false => rw [(by_off h).1]; exact zero_sz
end Go.Proofs.YtfkgiimcnlagmaaGreat.bySpec
end

section
/-
  spec.PickBy, WalkBy, NormalBy, CountBy in the form that gen_x.py wants. Conditions: as theirs. By an AI agent.
-/
namespace Go.Proofs.YtfkgiimcnlagmaaGreat.byX
open Go.RowKit Go.Proofs.YtfkgiimcnlagmaaGreat.base Go.Proofs.YtfkgiimcnlagmaaGreat.sig Go.Proofs.YtfkgiimcnlagmaaGreat.term Go.Proofs.YtfkgiimcnlagmaaGreat.marks Go.Proofs.YtfkgiimcnlagmaaGreat.app Go.Proofs.YtfkgiimcnlagmaaGreat.sym Go.Proofs.YtfkgiimcnlagmaaGreat.segs Go.Proofs.YtfkgiimcnlagmaaGreat.shape Go.Proofs.YtfkgiimcnlagmaaGreat.kindsR Go.Proofs.YtfkgiimcnlagmaaGreat.kindsW Go.Proofs.YtfkgiimcnlagmaaGreat.varsOf Go.Proofs.YtfkgiimcnlagmaaGreat.ruleMath Go.Proofs.YtfkgiimcnlagmaaGreat.ruleSpec Go.Proofs.YtfkgiimcnlagmaaGreat.stepMath Go.Proofs.YtfkgiimcnlagmaaGreat.walkMath Go.Proofs.YtfkgiimcnlagmaaGreat.stepSpec Go.Proofs.YtfkgiimcnlagmaaGreat.walkSpec Go.Proofs.YtfkgiimcnlagmaaGreat.orderMath Go.Proofs.YtfkgiimcnlagmaaGreat.orderSpec Go.Proofs.YtfkgiimcnlagmaaGreat.bySpec
theorem specWalkByX (a v u : Value) (d : Dat sSystem) (t : List Int) (s f : Int) (w : World) (h : Rd w w.heap.size sSystem [a, v] d) (ht : Rd w w.heap.size sI [u] t) (hz : sz sSystem d ≤ 1048576) (hz' : sz sI t ≤ 1048576) (_ : -9223372036854775808 ≤ s) (_ : s ≤ 9223372036854775807) (_ : -9223372036854775808 ≤ f) (_ : f ≤ 9223372036854775807) :
    Calls Tryz.prog 9 #[.agg #[a, v], u, .int .i64 s, .int .i64 f] w (AnsWalk w (byW d.1 d.2 t s f) (byD d.1 d.2 t s f)) := specWalkBy a v u d t s f w h ht hz hz'
end Go.Proofs.YtfkgiimcnlagmaaGreat.byX
end

section
/-
  WORDS FOR MEMORY: a table of 24 lists that may be read ('TabR'). Conditions: none; plain lemmas. By an AI agent.
-/
namespace Go.Proofs.YtfkgiimcnlagmaaGreat.whole
open Go.RowKit Go.Proofs.YtfkgiimcnlagmaaGreat.base Go.Proofs.YtfkgiimcnlagmaaGreat.segs Go.Proofs.YtfkgiimcnlagmaaGreat.matchMath
set_option maxRecDepth 100000

/-- 24 empty lists -/
def z24 : Array Value := Array.replicate 24 (.slice none 0 0)
theorem z24_size : z24.size = 24 := by simp [z24]

section
variable {w w' : World} {B B' g : Nat} {cs : Array Value} {s : List (List Int)} {t : TypeId}
/-- 24 lists that may be read, all of them below B -/
def TabR (w : World) (B : Nat) (cs : Array Value) (s : List (List Int)) : Prop :=
  cs.size = 24 ∧ s.length = 24 ∧ ∀ j, j < 24 → ∃ A n c, cs[j]? = some (.slice A n c) ∧ Seg w B A n (s.getD j []) ∧ Cap A n c
theorem TabR.new (w : World) (B : Nat) : TabR w B z24 s0 :=
  ⟨z24_size, rfl, fun j hj => ⟨none, 0, 0, by simp [z24, hj], by rw [s0_get]; exact Seg.empty, ⟨Nat.le_refl _, by omega, fun _ => rfl⟩⟩⟩
theorem TabR.keep (h : TabR w B cs s) (hk : ∀ p : Addr, p.block < B → w'.cell? p = w.cell? p) : TabR w' B cs s :=
  ⟨h.1, h.2.1, fun j hj => by obtain ⟨A, n, c, e, hs, hc⟩ := h.2.2 j hj; exact ⟨A, n, c, e, hs.keep hk, hc⟩⟩
theorem TabR.more (h : TabR w B cs s) (hB : B ≤ B') : TabR w B' cs s :=
  ⟨h.1, h.2.1, fun j hj => by obtain ⟨A, n, c, e, hs, hc⟩ := h.2.2 j hj; exact ⟨A, n, c, e, hs.more hB, hc⟩⟩
theorem TabR.below (h : TabR w B cs s) (hb : Below B w w') : TabR w' B cs s := h.keep fun _ hp => hb.cell hp
theorem TabR.put (h : TabR w B cs s) {j : Nat} (hj : j < 24) {A : Option Addr} {n c : Nat} {ys : List Int} (hs : Seg w B A n ys) (hc : Cap A n c) : TabR w B (cs.setIfInBounds j (.slice A n c)) (s.set j ys) := by
  refine ⟨by rw [Array.size_setIfInBounds]; exact h.1, by rw [List.length_set]; exact h.2.1, fun i hi => ?_⟩
  by_cases e : j = i
  · subst e
    exact ⟨A, n, c, by rw [Array.getElem?_setIfInBounds_self_of_lt (by rw [h.1]; exact hj)], by rw [set_get, if_pos ⟨rfl, by rw [h.2.1]; exact hj⟩]; exact hs, hc⟩
  · obtain ⟨A', n', c', e', hs', hc'⟩ := h.2.2 i hi
    exact ⟨A', n', c', by rw [Array.getElem?_setIfInBounds_ne e]; exact e', by rw [set_get, if_neg (fun hh => e hh.1)]; exact hs', hc'⟩
theorem TabR.one (h : TabR w B cs s) : cs.all (·.oneCell') = true := by
  rw [Array.all_eq_true]
  intro i hi
  obtain ⟨A, n, c, e, _⟩ := h.2.2 i (by rw [← h.1]; exact hi)
  rw [Array.getElem?_eq_getElem hi] at e
  injection e with e
  rw [e]; rfl
theorem TabR.segs (h : TabR w B cs s) (hr : Row w g t cs) (hB : B ≤ w.heap.size) : Segs w w.heap.size (some ⟨g, 0, none⟩) 24 s := by
  refine ⟨h.2.1, fun _ => ⟨g, 0, rfl, hr.lt, fun j hj => ?_⟩⟩
  obtain ⟨A, n, c, e, hs, hc⟩ := h.2.2 j hj
  exact ⟨A, n, c, by rw [Nat.zero_add, hr.cell j, e], hs.more hB, hc⟩
end
end Go.Proofs.YtfkgiimcnlagmaaGreat.whole
end
