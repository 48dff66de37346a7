/-
  MERGED: my texts RuleMath, EndOf, Sym, CurO, Sub, Args, Depth, TermMath, PosMath, MatchMath, PutMath, SegsHelp, SegsMark, Kinds, Look, SubstOk, one behind the other, as they are. By an AI agent.
-/
import Derived.Test.YtfkgiimcnlagmaaMFnExactPickBy1
import Derived.WalkSpells
import Derived.Deep.QuietTactic
import Derived.BigQuiet
import Derived.Shelf.Abstract
import Derived.Deep.RegionHeld3
section
/-
  PURE: rules and systems of rules, and what chapter 6 tells about them. A rule is a pair of lists, a system a list of arities and a list of rules. Conditions: none. By an AI agent.
-/
namespace Go.Proofs.Ytfkgiimcnlagmaa.ruleMath
open Go.Proofs.Ytfkgiimcnlagmaa.sig Go.Proofs.Ytfkgiimcnlagmaa.term Go.Proofs.Ytfkgiimcnlagmaa.termOk Go.Proofs.Ytfkgiimcnlagmaa.termFacts Go.Proofs.Ytfkgiimcnlagmaa.varsMath Go.Proofs.Ytfkgiimcnlagmaa.count Go.Proofs.Ytfkgiimcnlagmaa.linear Go.Proofs.Ytfkgiimcnlagmaa.renMath

abbrev Rl := List Int × List Int
/-- the head of a list of numbers -/
def hd (t : List Int) : Int := t.getD 0 0
/-- a variable that L lacks -/
def newB (l : List Int) (x : Int) : Bool := decide (x < 0 ∧ x ∉ l)
def ruleOkB (sg : List Int) (r : Rl) : Bool := termOkB sg r.1 && (termOkB sg r.2 && (!decide (hd r.1 < 0) && !r.2.any (newB r.1)))
def sysOkB (sg : List Int) (rs : List Rl) : Bool := sigOkB sg && (decide (rs.length ≤ 12) && rs.all (ruleOkB sg))

theorem rule_parts {sg : List Int} {r : Rl} (h : ruleOkB sg r = true) : termOkB sg r.1 = true ∧ termOkB sg r.2 = true ∧ 0 ≤ hd r.1 ∧ ∀ x, x ∈ r.2 → x < 0 → x ∈ r.1 := by
  unfold ruleOkB at h
  simp only [Bool.and_eq_true, Bool.not_eq_true', decide_eq_false_iff_not] at h
  refine ⟨h.1, h.2.1, by omega, fun x hx h0 => ?_⟩
  have h1 := h.2.2.2
  rw [List.any_eq_false] at h1
  have h2 := h1 x hx
  unfold newB at h2
  simp only [decide_eq_true_eq] at h2
  exact Classical.byContradiction fun hn => h2 ⟨h0, hn⟩
theorem sys_parts {sg : List Int} {rs : List Rl} (h : sysOkB sg rs = true) : sigOkB sg = true ∧ rs.length ≤ 12 ∧ ∀ r ∈ rs, ruleOkB sg r = true := by
  unfold sysOkB at h
  simp only [Bool.and_eq_true, decide_eq_true_eq, List.all_eq_true] at h
  exact ⟨h.1, h.2.1, h.2.2⟩
theorem sys_mk {sg : List Int} {rs : List Rl} (h1 : sigOkB sg = true) (h2 : rs.length ≤ 12) (h3 : ∀ r ∈ rs, ruleOkB sg r = true) : sysOkB sg rs = true := by
  unfold sysOkB
  simp only [Bool.and_eq_true, decide_eq_true_eq, List.all_eq_true]
  exact ⟨h1, h2, h3⟩
theorem sys_sig {sg : List Int} {rs : List Rl} (h : sigOkB sg = false) : sysOkB sg rs = false := by unfold sysOkB; rw [h]; rfl
theorem sys_long {sg : List Int} {rs : List Rl} {n : Nat} (hl : rs.length = n) (h : ¬ n ≤ 12) : sysOkB sg rs = false := by
  unfold sysOkB; rw [hl, decide_eq_false h]; simp
theorem rl_mem {rs : List Rl} {k : Nat} (hk : k < rs.length) : rs.getD k ([], []) ∈ rs := by
  have : rs.getD k ([], []) = rs[k] := by simp [List.getD, hk]
  rw [this]; exact List.getElem_mem hk
theorem sys_bad {sg : List Int} {rs : List Rl} {k : Nat} (hk : k < rs.length) (h : ruleOkB sg (rs.getD k ([], [])) = false) : sysOkB sg rs = false := by
  cases hs : sysOkB sg rs with
  | false => rfl
  | true => have := (sys_parts hs).2.2 _ (rl_mem hk); rw [h] at this; cases this
theorem all_rounds {rs : List Rl} {P : Rl → Prop} (h : ∀ j, j < rs.length → P (rs.getD j ([], []))) : ∀ r ∈ rs, P r := by
  intro r hr
  obtain ⟨i, hi, rfl⟩ := List.getElem_of_mem hr
  have := h i hi
  simpa [List.getD, hi] using this
theorem any_rounds {rs : List Rl} {f : Rl → Bool} (h : ∀ j, j < rs.length → f (rs.getD j ([], [])) = false) : rs.any f = false := by
  rw [List.any_eq_false]
  intro r hr
  rw [all_rounds (P := fun r => f r = false) h r hr]
  simp
theorem any_round {rs : List Rl} {f : Rl → Bool} {k : Nat} (hk : k < rs.length) (h : f (rs.getD k ([], [])) = true) : rs.any f = true := by
  rw [List.any_eq_true]; exact ⟨_, rl_mem hk, h⟩
theorem sys_good {sg : List Int} {rs : List Rl} (h1 : sigOkB sg = true) (h2 : rs.length ≤ 12) (h3 : ∀ j, j < rs.length → ruleOkB sg (rs.getD j ([], [])) = true) : sysOkB sg rs = true :=
  sys_mk h1 h2 (all_rounds h3)

/-! ### the same -/
def sameRB (a b : Rl) : Bool := decide (a = b)
def sameSB (sg sg' : List Int) (rs rs' : List Rl) : Bool := sysOkB sg rs && (decide (sg = sg') && decide (rs = rs'))
theorem same_sys {sg sg' : List Int} {rs rs' : List Rl} (h : sysOkB sg' rs' = false) : sameSB sg sg' rs rs' = false := by
  unfold sameSB
  cases h1 : sysOkB sg rs with
  | false => rfl
  | true =>
    rw [Bool.true_and]
    by_cases e1 : sg = sg'
    · by_cases e2 : rs = rs'
      · subst e1 e2; rw [h1] at h; cases h
      · rw [decide_eq_false e2]; simp
    · rw [decide_eq_false e1]; rfl
theorem lists_eq {rs rs' : List Rl} (hl : rs.length = rs'.length) (h : ∀ j, j < rs.length → rs.getD j ([], []) = rs'.getD j ([], [])) : rs = rs' :=
  List.ext_getElem hl fun j h1 h2 => by
    have := h j h1
    simpa [List.getD, h1, h2] using this

/-! ### the forms -/
def leftB (rs : List Rl) : Bool := !rs.any fun r => !linB r.1
def leftLinB (sg : List Int) (rs : List Rl) : Bool := sysOkB sg rs && leftB rs
def fallsB (r : Rl) : Bool := decide (hd r.2 < 0)
def collB (sg : List Int) (rs : List Rl) : Bool := sysOkB sg rs && rs.any fallsB
def moreB (r : Rl) (x : Int) : Bool := decide (x < 0 ∧ many r.1 x < many r.2 x)
def dblB (r : Rl) : Bool := r.2.any (moreB r)
def dupB (sg : List Int) (rs : List Rl) : Bool := sysOkB sg rs && rs.any dblB

/-! ### what is defined -/
def heads (rs : List Rl) : List Int := rs.map fun r => hd r.1
def defL (rs : List Rl) : List Int := (heads rs).foldl into []
def isDef (rs : List Rl) (x : Int) : Bool := rs.any fun r => decide (hd r.1 = x)
theorem isDef_mem {rs : List Rl} {x : Int} : isDef rs x = decide (x ∈ defL rs) := by
  unfold isDef defL
  rw [Bool.eq_iff_iff, List.any_eq_true, decide_eq_true_eq, fold_mem]
  unfold heads
  simp only [List.mem_map, decide_eq_true_eq, List.not_mem_nil, false_or]
theorem def_mem {rs : List Rl} {x : Int} : x ∈ defL rs ↔ ∃ r ∈ rs, hd r.1 = x := by
  unfold defL
  rw [fold_mem]
  unfold heads
  simp only [List.mem_map, List.not_mem_nil, false_or]
theorem def_len (rs : List Rl) : (defL rs).length ≤ rs.length := by
  have := fold_len (heads rs) []
  unfold heads at this
  simp only [List.length_map, List.length_nil, Nat.zero_add] at this
  exact this
theorem def_rises (rs : List Rl) : Rises (defL rs) := fold_rises List.Pairwise.nil
theorem def_take {rs : List Rl} {k : Nat} (hk : k < rs.length) : defL (rs.take (k + 1)) = into (defL (rs.take k)) (hd (rs.getD k ([], [])).1) := by
  unfold defL heads
  rw [List.take_succ_eq_append_getElem hk, List.map_append, List.foldl_append]
  simp [List.getD, hk]
/-- the numbers below n that keep to p -/
def symL (p : Int → Bool) : Nat → List Int
  | 0 => []
  | n + 1 => symL p n ++ (if p (n : Int) = true then [(n : Int)] else [])
theorem sym_mem {p : Int → Bool} {x : Int} : ∀ {n : Nat}, x ∈ symL p n ↔ (0 ≤ x ∧ x < (n : Int)) ∧ p x = true
  | 0 => by simp [symL]; omega
  | n + 1 => by
    rw [symL, List.mem_append, sym_mem]
    constructor
    · rintro (⟨⟨h1, h2⟩, h3⟩ | h)
      · exact ⟨⟨h1, by omega⟩, h3⟩
      · split at h
        · rename_i hp
          simp only [List.mem_singleton] at h
          subst h
          exact ⟨⟨by omega, by omega⟩, hp⟩
        · cases h
    · rintro ⟨⟨h1, h2⟩, h3⟩
      by_cases e : x = (n : Int)
      · subst e
        right
        rw [if_pos h3]
        simp
      · left
        exact ⟨⟨h1, by omega⟩, h3⟩
theorem sym_rises {p : Int → Bool} : ∀ n : Nat, Rises (symL p n)
  | 0 => List.Pairwise.nil
  | n + 1 => by
    rw [symL]
    refine List.pairwise_append.2 ⟨sym_rises n, ?_, fun a ha b hb => ?_⟩
    · split
      · exact List.pairwise_singleton _ _
      · exact List.Pairwise.nil
    · have h1 := (sym_mem.1 ha).1.2
      split at hb
      · simp only [List.mem_singleton] at hb
        omega
      · cases hb
theorem sym_len {p : Int → Bool} : ∀ n : Nat, (symL p n).length ≤ n
  | 0 => Nat.le_refl _
  | n + 1 => by
    rw [symL, List.length_append]
    have := sym_len (p := p) n
    split <;> simp <;> omega
/-- a symbol of a right term -/
theorem head_bd {sg t : List Int} (h : termOkB sg t = true) (h0 : 0 ≤ hd t) : hd t < (sg.length : Int) := by
  have h1 := term_ar h (j := 0) (by have := (term_len h).1; omega)
  unfold hd at h0 ⊢
  by_cases h2 : t.getD 0 0 < (sg.length : Int)
  · exact h2
  · rw [ar_no (by omega) (by omega)] at h1
    omega
theorem def_sym {sg : List Int} {rs : List Rl} (h : sysOkB sg rs = true) : defL rs = symL (isDef rs) sg.length := by
  refine rises_unique (def_rises rs) (sym_rises _) fun x => ?_
  rw [sym_mem, isDef_mem, decide_eq_true_eq]
  constructor
  · intro hx
    obtain ⟨r, hr, rfl⟩ := def_mem.1 hx
    have h1 := rule_parts ((sys_parts h).2.2 r hr)
    exact ⟨⟨h1.2.2.1, head_bd h1.1 h1.2.2.1⟩, hx⟩
  · exact fun h => h.2
def definedI (sg : List Int) (rs : List Rl) : List Int := if sysOkB sg rs = true then defL rs else []
def consI (sg : List Int) (rs : List Rl) : List Int := if sysOkB sg rs = true then symL (fun x => !isDef rs x) sg.length else []
/-- a defined symbol below the head -/
def nestB (rs : List Rl) (r : Rl) : Bool := (r.1.drop 1).any (isDef rs)
def consB (sg : List Int) (rs : List Rl) : Bool := sysOkB sg rs && !rs.any (nestB rs)
theorem parts_len {p : Int → Bool} : ∀ n : Nat, (symL p n).length + (symL (fun x => !p x) n).length = n
  | 0 => rfl
  | n + 1 => by
    have := parts_len (p := p) n
    rw [symL, symL, List.length_append, List.length_append]
    cases p (n : Int) <;> simp <;> omega

/-! ### a rule whose variables are renumbered in the order of L -/
def byL (o t : List Int) : List Int := t.map (ren o)
theorem byL_own (t : List Int) : byL (orderL t) t = renL t := rfl
theorem byL_len (o t : List Int) : (byL o t).length = t.length := by unfold byL; rw [List.length_map]
def renR (r : Rl) : Rl := (renL r.1, byL (orderL r.1) r.2)
def renRI (sg : List Int) (r : Rl) : Rl := if ruleOkB sg r = true then renR r else ([], [])
end Go.Proofs.Ytfkgiimcnlagmaa.ruleMath
end

section
/-
  CONTRACTS: spec.l1There, impl.cursorAt, spec.EndOf, impl.EndOf. Conditions: the slices read as lists ('Seg'), at most 1048576 numbers; the place is an int64. By an AI agent.
-/
namespace Go.Proofs.Ytfkgiimcnlagmaa.endAt
open Go.RowKit Go.Proofs.Ytfkgiimcnlagmaa.base Go.Proofs.Ytfkgiimcnlagmaa.ints Go.Proofs.Ytfkgiimcnlagmaa.sig Go.Proofs.Ytfkgiimcnlagmaa.term Go.Proofs.Ytfkgiimcnlagmaa.arity Go.Proofs.Ytfkgiimcnlagmaa.endOf Go.Proofs.Ytfkgiimcnlagmaa.cursor Go.Proofs.Ytfkgiimcnlagmaa.termOk

def inB (t : List Int) (x : Int) : Bool := decide (0 ≤ x ∧ x < t.length)
def thereB (sg t : List Int) (x : Int) : Bool := termOkB sg t && inB t x
def endOfI (sg t : List Int) (x : Int) : Int := if thereB sg t x = true then endI sg t x.toNat else -1

theorem termOk_parts {sg t : List Int} (h : termOkB sg t = true) : sigOkB sg = true ∧ t.length ≤ 60 ∧ scan sg 1 t = some t.length := by
  unfold termOkB termB at h
  simp only [Bool.and_eq_true, decide_eq_true_eq] at h
  exact h
theorem there_parts {sg t : List Int} {x : Int} (h : thereB sg t x = true) : termOkB sg t = true ∧ 0 ≤ x ∧ x < t.length := by
  unfold thereB inB at h
  simp only [Bool.and_eq_true, decide_eq_true_eq] at h
  exact h
theorem there_no {sg t : List Int} {x : Int} (h : termOkB sg t = false ∨ x < 0 ∨ (t.length : Int) ≤ x) : thereB sg t x = false := by
  unfold thereB inB
  rcases h with h | h | h
  · rw [h, Bool.false_and]
  · rw [decide_eq_false (by omega), Bool.and_false]
  · rw [decide_eq_false (by omega), Bool.and_false]
theorem there_yes {sg t : List Int} {x : Int} (h : termOkB sg t = true) (h0 : 0 ≤ x) (h1 : x < t.length) : thereB sg t x = true := by
  unfold thereB inB
  rw [h, decide_eq_true ⟨h0, h1⟩]
  rfl

def AnsEndOf (w : World) (sg t : List Int) (x : Int) (e : Ending) (w' : World) : Prop := e = .returned (.int .i64 (endOfI sg t x)) ∧ Below w.heap.size w w'
theorem endOf_no {w w' : World} {sg t : List Int} {x : Int} (h : thereB sg t x = false) (hb : Below w.heap.size w w') : AnsEndOf w sg t x (.returned (.int .i64 (-1))) w' :=
  ⟨by unfold endOfI; rw [if_neg (by rw [h]; simp)], hb⟩
theorem endOf_yes {w w' : World} {sg t : List Int} {x : Int} (h : thereB sg t x = true) (hb : Below w.heap.size w w') : AnsEndOf w sg t x (.returned (.int .i64 (endI sg t x.toNat))) w' :=
  ⟨by unfold endOfI; rw [if_pos h], hb⟩

/-- what cursorAt gives: a new cursor at the place, or nil -/
def AnsAt (w : World) (A : Option Addr) (n c : Nat) (A' : Option Addr) (m c' : Nat) (sg t : List Int) (x : Int) (e : Ending) (w' : World) : Prop :=
  Below w.heap.size w w' ∧ ((thereB sg t x = true ∧ ∃ p, e = .returned (.pointer (some ⟨p, 0, none⟩)) ∧ w.heap.size ≤ p ∧ Cur w' p A n c A' m c' sg t x.toNat) ∨ (thereB sg t x = false ∧ e = .returned (.pointer none)))
theorem at_no {w w' : World} {A A' : Option Addr} {n c m c' : Nat} {sg t : List Int} {x : Int} (h : thereB sg t x = false) (hb : Below w.heap.size w w') : AnsAt w A n c A' m c' sg t x (.returned (.pointer none)) w' := ⟨hb, .inr ⟨h, rfl⟩⟩

set_option maxHeartbeats 1000000 in
theorem cursorAt (A A' : Option Addr) (n c m c' : Nat) (sg t : List Int) (x : Int) (w : World) (h : Seg w w.heap.size A n sg) (h' : Seg w w.heap.size A' m t) (hn : n ≤ 1048576) (hm : m ≤ 1048576) :
    Calls Try.prog 89 #[.agg #[.slice A n c], .slice A' m c', .int .i64 x] w (AnsAt w A n c A' m c' sg t x) := by
  obtain ⟨W, hW⟩ : ∃ W, W = w.alloc (.cells #[.slice A n c] 26) := ⟨_, rfl⟩
  have rA : Row W w.heap.size 26 #[.slice A n c] := by rw [hW]; exact Row.new _ _ _
  have bel : Below w.heap.size w W := by rw [hW]; exact (Below.refl _ _).alloc (Nat.le_refl _) _
  replace h := (h.below bel).more bel.size
  replace h' := (h'.below bel).more bel.size
  have HW := Lib.hid hW
  have HL := Lib.hid h'.1
  clear hW
  have L := Lib.hid (implTermOk A A' n c m c' sg t W h h' hn hm)
  cases hok : termOkB sg t with
  | false =>
    have HS := Lib.hid hok
    clear hok h h'
    go_enter Try.func89, Try.ntmps89
    go_wp2_with fail
    rw [← HW.out]
    refine L.out.mono ?_
    rintro e w1 ⟨he, bb⟩
    rw [HS.out] at he
    subst he
    have F := Lib.hid (fun A n c A' m c' => at_no (A := A) (n := n) (c := c) (A' := A') (m := m) (c' := c') (x := x) (there_no (.inl HS.out)) (next_trans bel bb))
    clear bb bel rA
    go_wp2
    go_ret
    exact F.out _ _ _ _ _ _
  | true =>
    have HS := Lib.hid hok
    clear hok
    by_cases hin : 0 ≤ x ∧ x < (m : Int)
    · have hars := (sig_arities (termOk_parts HS.out).1).1
      have HT := Lib.hid (there_yes HS.out hin.1 (by rw [HL.out]; exact hin.2))
      obtain ⟨k, rfl⟩ := Int.eq_ofNat_of_zero_le hin.1
      obtain ⟨i0, i1⟩ := hin
      go_enter Try.func89, Try.ntmps89
      go_wp2_with fail
      rw [← HW.out]
      refine L.out.mono ?_
      rintro e w1 ⟨he, bb⟩
      rw [HS.out] at he
      subst he
      replace h := h.next bb
      replace h' := h'.next bb
      replace rA := rA.next bb
      replace bel := next_trans bel bb
      have cA : w1.cell? ⟨w.heap.size, 0, none⟩ = some (.slice A n c) := rA.cell 0
      have CN := cur_new (c := c) (c' := c') h h' hn hm hars k (by omega)
      have F : AnsAt w A n c A' m c' sg t (k : Int) (.returned (.pointer (some ⟨w1.heap.size, 0, none⟩))) (w1.alloc (.cells #[.slice A n c, .slice A' m c', .int .i64 k] 121)) :=
        ⟨bel.alloc (Nat.le_of_lt rA.lt) _, .inl ⟨HT.out, _, rfl, Nat.le_of_lt rA.lt, by rw [Int.toNat_natCast]; exact CN⟩⟩
      have HF := Lib.hid F
      clear F CN bb bel rA h h' hars HT
      go_wp2
      go_ret
      exact HF.out
    · have HT := Lib.hid (there_no (sg := sg) (t := t) (x := x) (by rw [HL.out]; omega))
      by_cases hx0 : x < 0
      · clear hin
        go_enter Try.func89, Try.ntmps89
        go_wp2_with fail
        rw [← HW.out]
        refine L.out.mono ?_
        rintro e w1 ⟨he, bb⟩
        rw [HS.out] at he
        subst he
        have F := Lib.hid (fun A n c A' m c' => at_no (A := A) (n := n) (c := c) (A' := A') (m := m) (c' := c') HT.out (next_trans bel bb))
        clear bb bel rA h h'
        go_wp2
        go_ret
        exact F.out _ _ _ _ _ _
      · have hx1 : (m : Int) ≤ x := by omega
        clear hin
        go_enter Try.func89, Try.ntmps89
        go_wp2_with fail
        rw [← HW.out]
        refine L.out.mono ?_
        rintro e w1 ⟨he, bb⟩
        rw [HS.out] at he
        subst he
        have F := Lib.hid (fun A n c A' m c' => at_no (A := A) (n := n) (c := c) (A' := A') (m := m) (c' := c') HT.out (next_trans bel bb))
        clear bb bel rA h h'
        go_wp2
        go_ret
        exact F.out _ _ _ _ _ _

set_option maxHeartbeats 1000000 in
theorem implEndOf (A A' : Option Addr) (n c m c' : Nat) (sg t : List Int) (x : Int) (w : World) (h : Seg w w.heap.size A n sg) (h' : Seg w w.heap.size A' m t) (hn : n ≤ 1048576) (hm : m ≤ 1048576) (_ : -9223372036854775808 ≤ x) (_ : x ≤ 9223372036854775807) :
    Calls Try.prog 54 #[.agg #[.slice A n c], .slice A' m c', .int .i64 x] w (AnsEndOf w sg t x) := by
  obtain ⟨W, hW⟩ : ∃ W, W = w.alloc (.cells #[.slice A n c] 26) := ⟨_, rfl⟩
  have bel : Below w.heap.size w W := by rw [hW]; exact (Below.refl _ _).alloc (Nat.le_refl _) _
  replace h := (h.below bel).more bel.size
  replace h' := (h'.below bel).more bel.size
  have HW := Lib.hid hW
  have HL := Lib.hid h'.1
  clear hW
  have L := Lib.hid (cursorAt A A' n c m c' sg t x W h h' hn hm)
  clear h h'
  go_enter Try.func54, Try.ntmps54
  go_wp2_with fail
  rw [← HW.out]
  refine L.out.mono ?_
  rintro e w1 ⟨bb, ⟨ht, p, rfl, hp, hc⟩ | ⟨ht, rfl⟩⟩
  · replace bel := next_trans bel bb
    have HT := Lib.hid ht
    have hsz : W.heap.size < w1.heap.size := Nat.lt_of_le_of_lt hp hc.row.lt
    have hwp : w.heap.size ≤ p := by rw [HW.out] at hp; simp at hp; omega
    clear ht bb
    go_wp2_with fail
    refine (pass p A n c A' m c' sg t x.toNat _ hc).mono ?_
    obtain ⟨hok, h0, h1⟩ := there_parts HT.out
    obtain ⟨j, hj, hj1, hj2⟩ := scan_at (termOk_parts hok).2.2 (a := x.toNat) (by omega)
    rintro e w2 ⟨hg, ⟨j', hj', rfl, hc2⟩ | ⟨hj', rfl, -⟩⟩
    · have c2 : w2.cell? ⟨p, 2, none⟩ = some (.int .i64 ((x.toNat + j' : Nat) : Int)) := hc2.row.cell 2
      have b2 : Below w.heap.size w w2 := bel.grown hg (by have := bel.size; omega) (fun k hk => by injection hk; omega)
      have F := endOf_yes HT.out b2
      rw [endI_some hj'] at F
      rw [show ((x.toNat : Int) + (j' : Int)) = ((x.toNat + j' : Nat) : Int) by simp] at F
      have HF := Lib.hid F
      clear F b2 hg hc2 hj hj1 hj2 hj' h0 h1 hok hc bel HT
      generalize x.toNat + j' = z at *
      go_wp2
      go_ret
      exact HF.out
    · rw [hj] at hj'
      cases hj'
  · have F := Lib.hid (endOf_no ht (next_trans bel bb))
    clear bb bel ht
    go_wp2
    go_ret
    exact F.out
end Go.Proofs.Ytfkgiimcnlagmaa.endAt
end

section
/-
  CONTRACTS: spec.SymPlaces, impl.SymPlaces. Conditions: the slices read as lists ('Seg'), at most 1048576 numbers. By an AI agent.
-/
namespace Go.Proofs.Ytfkgiimcnlagmaa.sym
open Go.RowKit Go.Proofs.Ytfkgiimcnlagmaa.base Go.Proofs.Ytfkgiimcnlagmaa.ints Go.Proofs.Ytfkgiimcnlagmaa.sig Go.Proofs.Ytfkgiimcnlagmaa.term Go.Proofs.Ytfkgiimcnlagmaa.termOk Go.Proofs.Ytfkgiimcnlagmaa.marks Go.Proofs.Ytfkgiimcnlagmaa.app

def symP (t : List Int) (k : Nat) : List Int := ((List.range k).filter fun j => decide (0 ≤ t.getD j 0)).map fun (j : Nat) => (j : Int)
def symI (sg t : List Int) : List Int := if termOkB sg t = true then symP t t.length else []

theorem symP_yes {t : List Int} {k : Nat} {x : Int} (ex : Hid (t.getD k 0 = x)) (h : 0 ≤ x) : symP t (k + 1) = symP t k ++ [(k : Int)] := by
  unfold symP
  rw [List.range_succ, List.filter_append, List.map_append]
  simp only [List.filter_cons, List.filter_nil, ex.out, h, decide_true, if_true, List.map_cons, List.map_nil]
theorem symP_no {t : List Int} {k : Nat} {x : Int} (ex : Hid (t.getD k 0 = x)) (h : ¬ 0 ≤ x) : symP t (k + 1) = symP t k := by
  unfold symP
  rw [List.range_succ, List.filter_append, List.map_append]
  simp only [List.filter_cons, List.filter_nil, ex.out, h, decide_false, List.map_nil, List.append_nil]
  simp
theorem symP_len (t : List Int) (k : Nat) : (symP t k).length ≤ k := by
  unfold symP
  rw [List.length_map]
  exact Nat.le_trans (List.length_filter_le _ _) (by simp)

/-- the head of the loop over the places -/
def HeadSym (w : World) (A : Option Addr) (n c m : Nat) (t : List Int) (out i : Value) (wr : World) : Prop :=
  ∃ (k : Nat) (O : Option Addr) (on oc : Nat), k ≤ m ∧ i = .int .i64 k ∧ out = .slice O on oc ∧ Own wr (w.heap.size + 1) (.slice O on oc) (symP t k) ∧ Row wr w.heap.size 26 #[.slice A n c] ∧ Below w.heap.size w wr

theorem headSym_yes {w w2 : World} {A : Option Addr} {n c m k : Nat} {t : List Int} {x : Int} {O : Option Addr} {on oc : Nat} (hk : k < m) (ex : Hid (t.getD k 0 = x)) (h0 : 0 ≤ x) (ho : Own w2 (w.heap.size + 1) (.slice O on oc) (symP t k ++ [(k : Int)]))
    (hr : Row w2 w.heap.size 26 #[.slice A n c]) (hb : Below w.heap.size w w2) : HeadSym w A n c m t (.slice O on oc) (.int .i64 ((k : Int) + 1)) w2 :=
  ⟨k + 1, O, on, oc, hk, by simp, rfl, by rw [symP_yes ex h0]; exact ho, hr, hb⟩
theorem headSym_no {w w2 : World} {A : Option Addr} {n c m k : Nat} {t : List Int} {x : Int} {O : Option Addr} {on oc : Nat} (hk : k < m) (ex : Hid (t.getD k 0 = x)) (h0 : ¬ 0 ≤ x) (ho : Own w2 (w.heap.size + 1) (.slice O on oc) (symP t k))
    (hr : Row w2 w.heap.size 26 #[.slice A n c]) (hb : Below w.heap.size w w2) : HeadSym w A n c m t (.slice O on oc) (.int .i64 ((k : Int) + 1)) w2 :=
  ⟨k + 1, O, on, oc, hk, by simp, rfl, by rw [symP_no ex h0]; exact ho, hr, hb⟩
theorem symI_len {sg t : List Int} {m : Nat} (h : t.length = m) (hm : m ≤ 1048576) : (symI sg t).length ≤ 1048576 := by
  unfold symI
  split
  · have := symP_len t t.length; omega
  · simp

end Go.Proofs.Ytfkgiimcnlagmaa.sym
end

section
/-
  CONTRACTS of impl's cursor wherever it lies (a field of a struct): next, pass, part. Conditions: the slices read as lists ('Seg') below the cursor's block, the arities lie between 0 and 3, at most 1048576 numbers. By an AI agent.
-/
namespace Go.Proofs.Ytfkgiimcnlagmaa.curO
open Go.RowKit Go.Proofs.Ytfkgiimcnlagmaa.base Go.Proofs.Ytfkgiimcnlagmaa.ints Go.Proofs.Ytfkgiimcnlagmaa.sig Go.Proofs.Ytfkgiimcnlagmaa.term Go.Proofs.Ytfkgiimcnlagmaa.arity Go.Proofs.Ytfkgiimcnlagmaa.cursor Go.Proofs.Ytfkgiimcnlagmaa.sub
set_option maxRecDepth 100000

/-- the cursor at cells o, o + 1, o + 2 of block p stands at place k; the block's other cells are those of cs -/
structure CurO (w : World) (p o : Nat) (ty : TypeId) (cs : Array Value) (A : Option Addr) (n c : Nat) (A' : Option Addr) (m c' : Nat) (sg t : List Int) (k : Nat) : Prop where
  row : Row w p ty (cs.setIfInBounds (o + 2) (.int .i64 k))
  h0 : cs[o]? = some (.slice A n c)
  h1 : cs[o + 1]? = some (.slice A' m c')
  sz : o + 2 < cs.size
  s : Seg w p A n sg
  s' : Seg w p A' m t
  le : k ≤ m
  hn : n ≤ 1048576
  hm : m ≤ 1048576
  ars : Arities sg
section
variable {w w' : World} {p o : Nat} {ty : TypeId} {cs : Array Value} {A : Option Addr} {n c : Nat} {A' : Option Addr} {m c' : Nat} {sg t : List Int} {k : Nat}
theorem CurO.c0 (h : CurO w p o ty cs A n c A' m c' sg t k) : w.cell? ⟨p, o, none⟩ = some (.slice A n c) := by
  rw [h.row.cell o, Array.getElem?_setIfInBounds_ne (by omega)]; exact h.h0
theorem CurO.c1 (h : CurO w p o ty cs A n c A' m c' sg t k) : w.cell? ⟨p, o + 1, none⟩ = some (.slice A' m c') := by
  rw [h.row.cell (o + 1), Array.getElem?_setIfInBounds_ne (by omega)]; exact h.h1
theorem CurO.c2 (h : CurO w p o ty cs A n c A' m c' sg t k) : w.cell? ⟨p, o + 2, none⟩ = some (.int .i64 k) := by
  rw [h.row.cell (o + 2), Array.getElem?_setIfInBounds_self_of_lt h.sz]
theorem CurO.below (h : CurO w p o ty cs A n c A' m c' sg t k) (hb : Below w.heap.size w w') : CurO w' p o ty cs A n c A' m c' sg t k :=
  have hp := h.row.lt
  ⟨h.row.next hb, h.h0, h.h1, h.sz, h.s.below (hb.mono (Nat.le_of_lt hp)), h.s'.below (hb.mono (Nat.le_of_lt hp)), h.le, h.hn, h.hm, h.ars⟩
theorem CurO.drewN (h : CurO w p o ty cs A n c A' m c' sg t k) (d : Nat) : CurO (w.drewN d) p o ty cs A n c A' m c' sg t k :=
  ⟨h.row, h.h0, h.h1, h.sz, h.s, h.s', h.le, h.hn, h.hm, h.ars⟩
theorem CurO.step (h : CurO w p o ty cs A n c A' m c' sg t k) (hk : k < m) (d : Nat) :
    CurO ((w.drewN d).setCell ⟨p, o + 2, none⟩ (.int .i64 ((k : Int) + 1))) p o ty cs A n c A' m c' sg t (k + 1) := by
  have r := (h.row.drewN d).put (o + 2) (.int .i64 ((k : Int) + 1))
  rw [Array.setIfInBounds_setIfInBounds] at r
  refine ⟨?_, h.h0, h.h1, h.sz, (h.s.drewN d).put (p := ⟨p, o + 2, none⟩) (Nat.le_refl _) _, (h.s'.drewN d).put (p := ⟨p, o + 2, none⟩) (Nat.le_refl _) _, hk, h.hn, h.hm, h.ars⟩
  have e : (.int .i64 ((k : Int) + 1) : Value) = .int .i64 ((k + 1 : Nat) : Int) := by simp
  rw [← e]
  exact r
end

/-- what next gives at place k: the arity and a step on; -1 at the end -/
def NextO (w : World) (p o : Nat) (ty : TypeId) (cs : Array Value) (A : Option Addr) (n c : Nat) (A' : Option Addr) (m c' : Nat) (sg t : List Int) (k : Nat) (e : Ending) (w' : World) : Prop :=
  w.grownBy w' (some p) ∧ ((k < m ∧ e = .returned (.int .i64 (ar sg (t.getD k 0))) ∧ CurO w' p o ty cs A n c A' m c' sg t (k + 1)) ∨ (k = m ∧ e = .returned (.int .i64 (-1)) ∧ CurO w' p o ty cs A n c A' m c' sg t k))

set_option maxHeartbeats 1000000 in
theorem nextO (p o : Nat) (ty : TypeId) (cs : Array Value) (A : Option Addr) (n c : Nat) (A' : Option Addr) (m c' : Nat) (sg t : List Int) (k : Nat) (w : World) (h : CurO w p o ty cs A n c A' m c' sg t k) :
    Calls Try.prog 120 #[.pointer (some ⟨p, o, none⟩)] w (NextO w p o ty cs A n c A' m c' sg t k) := by
  have hk := h.le
  have hm := h.hm
  have c0 := h.c0
  have c1 := h.c1
  have c2 := h.c2
  have f2 : w.frozen? ⟨p, o + 2, none⟩ = false := h.row.free (o + 2)
  by_cases hlt : k < m
  · obtain ⟨b, off, x, rfl, hbb, hx, ex⟩ := h.s'.spot hlt
    have i0 : (0 : Int) ≤ (k : Int) := by omega
    have i1 : (k : Int) < (m : Int) := by omega
    have HS := Lib.hid (fun d => h.step hlt d)
    have HG := Lib.hid (fun d => grown_put (grown_drewN (World.grownBy.refl w (some p)) d) (o + 2) (.int .i64 ((k : Int) + 1)))
    clear h
    go_enter Try.func120, Try.ntmps120
    go_wp2
    go_quiet (fail)
    go_wp2
    go_quiet (fail)
    go_wp2_with fail
    refine (implArity A n c sg x _ ((HS.out _).s.more (Nat.le_of_lt (HS.out _).row.lt)) (HS.out 0).hn).mono ?_
    rintro e w' ⟨rfl, bb⟩
    have F : NextO w p o ty cs A n c (some ⟨b, off, none⟩) m c' sg t k (.returned (.int .i64 (ar sg x))) w' :=
      ⟨grown_trans (HG.out _) (grown_below bb _), .inl ⟨hlt, by rw [ex.out], (HS.out _).below bb⟩⟩
    have HF := Lib.hid F
    clear F HG HS bb ex
    go_wp2
    go_ret
    exact HF.out
  · have e : k = m := by omega
    have HS := Lib.hid (fun d => h.drewN d)
    have HE := Lib.hid e
    have i2 : decide (m ≤ k) = true := by simp; omega
    clear e h
    go_enter Try.func120, Try.ntmps120
    go_wp2
    go_quiet (fail)
    go_wp2
    go_ret
    exact ⟨grown_drewN (World.grownBy.refl w (some p)) _, .inr ⟨HE.out, rfl, HS.out _⟩⟩

/-- what pass gives at place k -/
def PassO (w : World) (p o : Nat) (ty : TypeId) (cs : Array Value) (A : Option Addr) (n c : Nat) (A' : Option Addr) (m c' : Nat) (sg t : List Int) (k : Nat) (e : Ending) (w' : World) : Prop :=
  w.grownBy w' (some p) ∧ ((∃ j, scan sg 1 (t.drop k) = some j ∧ e = .returned (.bool true) ∧ CurO w' p o ty cs A n c A' m c' sg t (k + j)) ∨ (scan sg 1 (t.drop k) = none ∧ e = .returned (.bool false) ∧ ∃ k', CurO w' p o ty cs A n c A' m c' sg t k'))

/-- the head of the loop: q terms are still missing -/
def HeadO (w : World) (p o : Nat) (ty : TypeId) (cs : Array Value) (A : Option Addr) (n c : Nat) (A' : Option Addr) (m c' : Nat) (sg t : List Int) (a : Nat) (q : Value) (wr : World) : Prop :=
  ∃ k q' : Nat, q = .int .i64 q' ∧ q' ≤ 3 * k + 1 ∧ Scn sg t a k q' ∧ CurO wr p o ty cs A n c A' m c' sg t k ∧ w.grownBy wr (some p)

def atO (p o : Nat) (wr : World) : Nat := (intOf ((wr.cell? ⟨p, o + 2, none⟩).getD undef)).toNat
theorem atO_cur {w : World} {p o : Nat} {ty : TypeId} {cs : Array Value} {A : Option Addr} {n c : Nat} {A' : Option Addr} {m c' : Nat} {sg t : List Int} {k : Nat} (h : CurO w p o ty cs A n c A' m c' sg t k) : atO p o w = k := by
  unfold atO
  rw [h.c2]
  simp [intOf]

set_option maxHeartbeats 1000000 in
theorem passO (p o : Nat) (ty : TypeId) (cs : Array Value) (A : Option Addr) (n c : Nat) (A' : Option Addr) (m c' : Nat) (sg t : List Int) (a : Nat) (w : World) (h : CurO w p o ty cs A n c A' m c' sg t a) :
    Calls Try.prog 90 #[.pointer (some ⟨p, o, none⟩)] w (PassO w p o ty cs A n c A' m c' sg t a) := by
  have hm := h.hm
  have HL := Lib.hid h.s'.1
  have hs := h.ars
  have H0 : HeadO w p o ty cs A n c A' m c' sg t a (.int .i64 1) w := ⟨a, 1, rfl, by omega, Scn.start (by rw [HL.out]; exact h.le), h, World.grownBy.refl _ _⟩
  have HH := Lib.hid H0
  clear H0 h
  go_enter Try.func90, Try.ntmps90
  go_wp2_with fail
  go_loopw [3, 4] (fun q _ wr => HeadO w p o ty cs A n c A' m c' sg t a q wr) (fun _ _ wr => m - atO p o wr)
  case atStart => exact HH.out
  case round =>
    obtain ⟨k, q, rfl, hq, hl, hc, hg⟩ := hrel
    clear HH
    have hk := hc.le
    by_cases h0 : q = 0
    · subst h0
      have S : PassO w p o ty cs A n c A' m c' sg t a (.returned (.bool true)) wr := ⟨hg, .inl ⟨k - a, hl.done, rfl, by rw [show a + (k - a) = k by have := hl.1; omega]; exact hc⟩⟩
      have HS := Lib.hid S
      clear S hl hc hg
      go_wp2
      go_ret
      exact HS.out
    · obtain ⟨q1, rfl⟩ : ∃ q1, q = q1 + 1 := ⟨q - 1, by omega⟩
      have hq0 : (0 : Int) < ((q1 + 1 : Nat) : Int) := by omega
      go_wp2_with fail
      refine (nextO p o ty cs A n c A' m c' sg t k wr hc).mono ?_
      rintro e w2 ⟨g2, ⟨hlt, rfl, hc2⟩ | ⟨hk', rfl, hc2⟩⟩
      · obtain ⟨z, hz⟩ : ∃ z, ar sg (t.getD k 0) = z := ⟨_, rfl⟩
        have hzb := ar_bd hs (t.getD k 0)
        rw [hz] at hzb ⊢
        by_cases hneg : z < 0
        · have S : PassO w p o ty cs A n c A' m c' sg t a (.returned (.bool false)) w2 := ⟨grown_trans hg g2, .inr ⟨hl.bad (by rw [HL.out]; exact hlt) rfl (by rw [hz]; exact hneg), rfl, _, hc2⟩⟩
          have HS := Lib.hid S
          clear S hl hc hg hc2 g2 hz
          go_wp2
          go_ret
          exact HS.out
        · have hl' := hl.step (by rw [HL.out]; exact hlt) rfl (by rw [hz]; exact hneg)
          rw [hz] at hl'
          have S : HeadO w p o ty cs A n c A' m c' sg t a (.int .i64 ((q1 : Int) + z)) w2 := ⟨k + 1, q1 + z.toNat, by congr 1; omega, by omega, hl', hc2, grown_trans hg g2⟩
          have HS := Lib.hid S
          have M := Lib.hid (show m - atO p o w2 < m - atO p o wr by rw [atO_cur hc, atO_cur hc2]; omega)
          have hz1 := hzb.1
          have hz2 := hzb.2
          have hq2 : (q1 : Int) ≤ 3145728 := by omega
          clear S hl hc hg hc2 g2 hz hl' hzb
          go_wp2
          go_roundw
          case rel => rw [show (q1 : Int) + 1 + z - 1 = (q1 : Int) + z by omega]; exact HS.out
          case measure => exact M.out
      · have S : PassO w p o ty cs A n c A' m c' sg t a (.returned (.bool false)) w2 := ⟨grown_trans hg g2, .inr ⟨hl.out (by rw [HL.out]; omega), rfl, _, hc2⟩⟩
        have HS := Lib.hid S
        clear S hl hc hg hc2 g2
        go_wp2
        go_ret
        exact HS.out

/-- what part gives at place k, where a term begins: the piece of the slice -/
def PartO (w : World) (p o : Nat) (ty : TypeId) (cs : Array Value) (A : Option Addr) (n c : Nat) (b off m c' : Nat) (sg t : List Int) (k j : Nat) (e : Ending) (w' : World) : Prop :=
  e = .returned (.slice (some ⟨b, off + k, none⟩) j (c' - k)) ∧ w.grownBy w' (some p) ∧ CurO w' p o ty cs A n c (some ⟨b, off, none⟩) m c' sg t (k + j)
set_option maxHeartbeats 1000000 in
theorem partO (p o : Nat) (ty : TypeId) (cs : Array Value) (A : Option Addr) (n c b off m c' : Nat) (sg t : List Int) (k j : Nat) (w : World) (h : CurO w p o ty cs A n c (some ⟨b, off, none⟩) m c' sg t k) (hj : scan sg 1 (t.drop k) = some j) (hkj : k + j ≤ m) (h1 : 1 ≤ j) (hmc : m ≤ c') (hc : c' ≤ 9223372036854775807) :
    Calls Try.prog 147 #[.pointer (some ⟨p, o, none⟩)] w (PartO w p o ty cs A n c b off m c' sg t k j) := by
  have hm := h.hm
  have c2 := h.c2
  have L := Lib.hid (passO p o ty cs A n c (some ⟨b, off, none⟩) m c' sg t k w h)
  have HJ := Lib.hid hj
  have a1 : (k : Int) ≤ (k : Int) + (j : Int) := by omega
  have a2 : (k : Int) + (j : Int) ≤ (c' : Int) := by omega
  have a3 : ¬ c' = k := by omega
  have a4 : k + j ≤ c' := by omega
  have a5 : k + j - k = j := by omega
  clear hj h
  go_enter Try.func147, Try.ntmps147
  go_wp2_with fail
  refine L.out.mono ?_
  rintro e w1 ⟨hg, ⟨j', hj', rfl, hc1⟩ | ⟨hj', rfl, -⟩⟩
  · obtain rfl : j = j' := by rw [HJ.out] at hj'; injection hj'
    have d1 := hc1.c1
    have d2 := hc1.c2
    have HF := Lib.hid (fun d => (show PartO w p o ty cs A n c b off m c' sg t k j (.returned (.slice (some ⟨b, off + k, none⟩) (k + j - k) (c' - k))) (w1.drewN d) from ⟨by rw [a5], grown_drewN hg d, hc1.drewN d⟩))
    clear hc1 hg hj' L
    go_wp2
    go_quiet (fail)
    go_wp2
    go_ret
    exact HF.out _
  · rw [HJ.out] at hj'
    cases hj'

/-- the cursor in a block of its own -/
theorem ofCur {w : World} {p : Nat} {A : Option Addr} {n c : Nat} {A' : Option Addr} {m c' : Nat} {sg t : List Int} {k : Nat} (h : Cur w p A n c A' m c' sg t k) (u : Value) :
    CurO w p 0 121 #[.slice A n c, .slice A' m c', u] A n c A' m c' sg t k :=
  ⟨by have r := h.row; simpa using r, by simp, by simp, by simp, h.s, h.s', h.le, h.hn, h.hm, h.ars⟩
theorem toCur {w : World} {p : Nat} {A : Option Addr} {n c : Nat} {A' : Option Addr} {m c' : Nat} {sg t : List Int} {k : Nat} {u : Value} (h : CurO w p 0 121 #[.slice A n c, .slice A' m c', u] A n c A' m c' sg t k) :
    Cur w p A n c A' m c' sg t k :=
  ⟨by have r := h.row; simpa using r, h.s, h.s', h.le, h.hn, h.hm, h.ars⟩
/-- part of a cursor in a block of its own -/
theorem partC (p : Nat) (A : Option Addr) (n c b off m c' : Nat) (sg t : List Int) (k j : Nat) (w : World) (h : Cur w p A n c (some ⟨b, off, none⟩) m c' sg t k) (hj : scan sg 1 (t.drop k) = some j) (hkj : k + j ≤ m) (h1 : 1 ≤ j) (hmc : m ≤ c') (hc : c' ≤ 9223372036854775807) :
    Calls Try.prog 147 #[.pointer (some ⟨p, 0, none⟩)] w fun e w' => e = .returned (.slice (some ⟨b, off + k, none⟩) j (c' - k)) ∧ w.grownBy w' (some p) ∧ Cur w' p A n c (some ⟨b, off, none⟩) m c' sg t (k + j) :=
  (partO p 0 _ _ A n c b off m c' sg t k j w (ofCur h undef) hj hkj h1 hmc hc).mono fun _ _ ⟨e1, e2, e3⟩ => ⟨e1, e2, toCur e3⟩
end Go.Proofs.Ytfkgiimcnlagmaa.curO
end

section
/-
  CONTRACTS: spec.l1Copy, slices.Clone at []int64, spec.l1Sub, spec.SubAt, impl.SubAt. Conditions: the slices read as lists ('Seg'), at most 1048576 numbers, a length is at most the capacity. By an AI agent.
-/
namespace Go.Proofs.Ytfkgiimcnlagmaa.sub
open Go.RowKit Go.Proofs.Ytfkgiimcnlagmaa.base Go.Proofs.Ytfkgiimcnlagmaa.ints Go.Proofs.Ytfkgiimcnlagmaa.sig Go.Proofs.Ytfkgiimcnlagmaa.term Go.Proofs.Ytfkgiimcnlagmaa.arity Go.Proofs.Ytfkgiimcnlagmaa.endOf Go.Proofs.Ytfkgiimcnlagmaa.cursor Go.Proofs.Ytfkgiimcnlagmaa.termOk Go.Proofs.Ytfkgiimcnlagmaa.endAt Go.Proofs.Ytfkgiimcnlagmaa.marks Go.Proofs.Ytfkgiimcnlagmaa.app Go.Proofs.Ytfkgiimcnlagmaa.sym Go.Proofs.Ytfkgiimcnlagmaa.curO

def subL (sg t : List Int) (a : Nat) : List Int := (t.drop a).take (len1 sg t a)
def subI (sg t : List Int) (x : Int) : List Int := if thereB sg t x = true then subL sg t x.toNat else []

set_option maxHeartbeats 1000000 in
theorem l1Sub (A A' : Option Addr) (n c m c' : Nat) (sg t : List Int) (a j : Nat) (w : World) (h : Seg w w.heap.size A n sg) (h' : Seg w w.heap.size A' m t) (hn : n ≤ 1048576) (hm : m ≤ 1048576) (hc' : m ≤ c') (hc2 : c' ≤ 9223372036854775807)
    (hs : Arities sg) (ha : a < m) (hj : scan sg 1 (t.drop a) = some j) (hj1 : 1 ≤ j) (hj2 : a + j ≤ m) :
    Calls Try.prog 86 #[.agg #[.slice A n c], .slice A' m c', .int .i64 (a : Int)] w (AnsList w (subL sg t a)) := by
  obtain ⟨b, off, x, rfl, -, -, -⟩ := h'.spot ha
  obtain ⟨W, hW⟩ : ∃ W, W = w.alloc (.cells #[.slice A n c] 26) := ⟨_, rfl⟩
  have bel : Below w.heap.size w W := by rw [hW]; exact (Below.refl _ _).alloc (Nat.le_refl _) _
  have zW : w.heap.size < W.heap.size := by rw [hW]; simp
  replace h := (h.below bel).more bel.size
  replace h' := (h'.below bel).more bel.size
  have HW := Lib.hid hW
  clear hW
  have L := Lib.hid (specEnd A _ n c m c' sg t (a : Int) W h h' hn hm hs (by omega) (by omega))
  have HE := Lib.hid (endI_some hj)
  have HL := Lib.hid (len1_eq hj)
  have hcut := Seg.cut (a := a) (j := j) h' hj2
  clear h h' hj hs
  have i0 : (0 : Int) ≤ (a : Int) := by omega
  have i1 : (a : Int) ≤ (a : Int) + (j : Int) := by omega
  have i2 : (a : Int) + (j : Int) ≤ (c' : Int) := by omega
  have i3 : ¬ c' = a := by omega
  go_enter Try.func86, Try.ntmps86
  go_wp2_with fail
  rw [← HW.out]
  refine L.out.mono ?_
  rintro e w1 ⟨he, bb⟩
  rw [Int.toNat_natCast, HE.out] at he
  subst he
  replace hcut := hcut.next bb
  replace bel := next_trans bel bb
  clear bb L
  go_wp2_with fail
  refine (copyInts _ j _ _ w1 hcut (fun e => by cases e) (by omega)).mono ?_
  rintro e w2 ⟨A2, n2, c2, rfl, o2, bb⟩
  have F : AnsList w (subL sg t a) (.returned (.slice A2 n2 c2)) w2 := ⟨A2, n2, c2, rfl, by unfold subL; rw [HL.out]; exact Own.lower o2 bel.size, next_trans bel bb⟩
  have HF := Lib.hid F
  clear F o2 bb bel hcut
  go_wp2
  go_ret
  exact HF.out

theorem sub_no {w w' : World} {sg t : List Int} {x : Int} {A : Option Addr} {c : Nat} (h : thereB sg t x = false) (ho : Own w' w.heap.size (.slice A 0 c) []) (hb : Below w.heap.size w w') : AnsList w (subI sg t x) (.returned (.slice A 0 c)) w' :=
  ⟨A, 0, c, rfl, by unfold subI; rw [if_neg (by rw [h]; simp)]; exact ho, hb⟩

theorem subI_len {sg t : List Int} {x : Int} {m : Nat} (h : t.length = m) (hm : m ≤ 1048576) : (subI sg t x).length ≤ 1048576 := by
  unfold subI subL
  split
  · simp only [List.length_take, List.length_drop]; omega
  · simp

end Go.Proofs.Ytfkgiimcnlagmaa.sub
end

section
/-
  CONTRACTS: spec.l1Args, spec.ArgsAt, impl.ArgsAt. Conditions: the slices read as lists ('Seg'), at most 1048576 numbers. By an AI agent.
-/
namespace Go.Proofs.Ytfkgiimcnlagmaa.args
open Go.RowKit Go.Proofs.Ytfkgiimcnlagmaa.base Go.Proofs.Ytfkgiimcnlagmaa.ints Go.Proofs.Ytfkgiimcnlagmaa.sig Go.Proofs.Ytfkgiimcnlagmaa.term Go.Proofs.Ytfkgiimcnlagmaa.arity Go.Proofs.Ytfkgiimcnlagmaa.endOf Go.Proofs.Ytfkgiimcnlagmaa.cursor Go.Proofs.Ytfkgiimcnlagmaa.termOk Go.Proofs.Ytfkgiimcnlagmaa.endAt Go.Proofs.Ytfkgiimcnlagmaa.marks Go.Proofs.Ytfkgiimcnlagmaa.app Go.Proofs.Ytfkgiimcnlagmaa.sym

/-- the places of the arguments of what begins at a place -/
def argsL (sg t : List Int) (a : Nat) : List Int := places sg t (ar sg (t.getD a 0)).toNat (a + 1)
def argsI (sg t : List Int) (x : Int) : List Int := if thereB sg t x = true then argsL sg t x.toNat else []

/-- so many terms from place p on are still to come; ys is what has been collected of L -/
def Coll (sg t : List Int) (m : Nat) (L ys : List Int) (q p : Nat) : Prop := ys ++ places sg t q p = L ∧ ∃ i, scan sg q (t.drop p) = some i ∧ p + i ≤ m
theorem Coll.first {sg t : List Int} {m : Nat} {L ys : List Int} {q p : Nat} (h : Coll sg t m L ys (q + 1) p) : ∃ j, scan sg 1 (t.drop p) = some j ∧ p + j ≤ m ∧ p < t.length ∧ Coll sg t m L (ys ++ [(p : Int)]) q (p + j) := by
  obtain ⟨h1, i, h2, h3⟩ := h
  obtain ⟨j, e1, e2, e3, e4⟩ := scan_first h2
  have e5 := scan_le h2
  refine ⟨j, e1, by omega, ?_, ?_, i - j, e4, by omega⟩
  · simp only [List.length_drop] at e5; omega
  · rw [← h1, List.append_assoc]
    congr 1
    simp only [places, len1_eq e1, List.singleton_append]
theorem Coll.done {sg t : List Int} {m : Nat} {L ys : List Int} {p : Nat} (h : Coll sg t m L ys 0 p) : ys = L := by
  have := h.1
  simpa [places] using this
theorem Coll.len {sg t : List Int} {m : Nat} {L ys : List Int} {q p : Nat} (h : Coll sg t m L ys q p) : ys.length ≤ L.length := by
  rw [← h.1]; simp
theorem Coll.start {sg t : List Int} {m a j : Nat} (hm : t.length = m) (h : scan sg 1 (t.drop a) = some j) (hj : a + j ≤ m) : ¬ ar sg (t.getD a 0) < 0 ∧ Coll sg t m (argsL sg t a) [] (ar sg (t.getD a 0)).toNat (a + 1) := by
  obtain ⟨i, rfl, _, h2, h3⟩ := scan_args h
  exact ⟨h2, rfl, i, h3, by omega⟩
theorem argsL_len {sg t : List Int} (hs : Arities sg) (a : Nat) : (argsL sg t a).length ≤ 3 := by
  unfold argsL
  rw [places_len]
  have := ar_bd hs (t.getD a 0)
  omega

def HeadArgs (w : World) (A : Option Addr) (n c m : Nat) (sg t : List Int) (L : List Int) (out p k : Value) (wr : World) : Prop :=
  ∃ (q pp : Nat) (O : Option Addr) (on oc : Nat) (ys : List Int), k = .int .i64 q ∧ p = .int .i64 pp ∧ out = .slice O on oc ∧ Own wr (w.heap.size + 1) (.slice O on oc) ys ∧ Coll sg t m L ys q pp ∧ q ≤ 3 ∧ Row wr w.heap.size 26 #[.slice A n c] ∧ Below w.heap.size w wr

theorem args_no {w w' : World} {sg t : List Int} {x : Int} {A : Option Addr} {c : Nat} (h : thereB sg t x = false) (ho : Own w' w.heap.size (.slice A 0 c) []) (hb : Below w.heap.size w w') : AnsList w (argsI sg t x) (.returned (.slice A 0 c)) w' :=
  ⟨A, 0, c, rfl, by unfold argsI; rw [if_neg (by rw [h]; simp)]; exact ho, hb⟩

theorem Cur.keep {w w' : World} {p : Nat} {A : Option Addr} {n c : Nat} {A' : Option Addr} {m c' : Nat} {sg t : List Int} {k : Nat} (h : Cur w p A n c A' m c' sg t k) (hb : Below (p + 1) w w') : Cur w' p A n c A' m c' sg t k :=
  ⟨h.row.below hb (Nat.lt_succ_self _), h.s.below (hb.mono (Nat.le_succ _)), h.s'.below (hb.mono (Nat.le_succ _)), h.le, h.hn, h.hm, h.ars⟩
theorem Cur.alloc {w : World} {p : Nat} {A : Option Addr} {n c : Nat} {A' : Option Addr} {m c' : Nat} {sg t : List Int} {k : Nat} (h : Cur w p A n c A' m c' sg t k) (o : Obj) : Cur (w.alloc o) p A n c A' m c' sg t k :=
  h.below ((Below.refl _ _).alloc (Nat.le_refl _) _)

def HeadImpl (w : World) (p : Nat) (A : Option Addr) (n c : Nat) (A' : Option Addr) (m c' : Nat) (sg t : List Int) (T : Nat) (L : List Int) (out i : Value) (wr : World) : Prop :=
  ∃ (k q pp : Nat) (O : Option Addr) (on oc : Nat) (ys : List Int), i = .int .i64 k ∧ k + q = T ∧ out = .slice O on oc ∧ Own wr (p + 1) (.slice O on oc) ys ∧ Coll sg t m L ys q pp ∧ Cur wr p A n c A' m c' sg t pp ∧ Below w.heap.size w wr

theorem argsI_len {sg t : List Int} {x : Int} : (argsI sg t x).length ≤ 1048576 := by
  unfold argsI
  split
  · rename_i h
    have := argsL_len (t := t) (sig_arities (termOk_parts (there_parts h).1).1).1 x.toNat
    omega
  · simp
end Go.Proofs.Ytfkgiimcnlagmaa.args
end

section
/-
  CONTRACTS: spec.l1Max, spec.l1Depth, spec.DepthOf, impl's cursor depth, impl.DepthOf. Conditions: the slices read as lists ('Seg'), at most 1048576 numbers. By an AI agent.
-/
namespace Go.Proofs.Ytfkgiimcnlagmaa.depth
open Go.RowKit Go.Proofs.Ytfkgiimcnlagmaa.base Go.Proofs.Ytfkgiimcnlagmaa.ints Go.Proofs.Ytfkgiimcnlagmaa.sig Go.Proofs.Ytfkgiimcnlagmaa.term Go.Proofs.Ytfkgiimcnlagmaa.arity Go.Proofs.Ytfkgiimcnlagmaa.endOf Go.Proofs.Ytfkgiimcnlagmaa.cursor Go.Proofs.Ytfkgiimcnlagmaa.termOk Go.Proofs.Ytfkgiimcnlagmaa.endAt Go.Proofs.Ytfkgiimcnlagmaa.marks Go.Proofs.Ytfkgiimcnlagmaa.app Go.Proofs.Ytfkgiimcnlagmaa.sym Go.Proofs.Ytfkgiimcnlagmaa.args

/-- the greatest of what comes: d so far, q terms from place p on still to come, M in the end -/
def Deep (sg t : List Int) (f : Nat) (M d : Int) (q p : Nat) : Prop := max d (maxOver sg t (dep sg t f) q p) = M ∧ 0 ≤ d ∧ d ≤ f ∧ ∃ i, scan sg q (t.drop p) = some i ∧ i ≤ f ∧ p + i ≤ t.length
theorem Deep.first {sg t : List Int} {f : Nat} {M d : Int} {q p : Nat} (h : Deep sg t f M d (q + 1) p) : ∃ j, scan sg 1 (t.drop p) = some j ∧ j ≤ f ∧ p < t.length ∧ p + j ≤ t.length ∧ Deep sg t f M (max d (dep sg t f p)) q (p + j) := by
  obtain ⟨h1, h2, h3, i, h4, h5, h6⟩ := h
  obtain ⟨j, e1, e2, e3, e4⟩ := scan_first h4
  have hb := dep_bd (sg := sg) (t := t) f p
  refine ⟨j, e1, by omega, by omega, by omega, ?_, by omega, by omega, i - j, e4, by omega, by omega⟩
  simp only [maxOver, len1_eq e1] at h1
  omega
theorem Deep.done {sg t : List Int} {f : Nat} {M d : Int} {p : Nat} (h : Deep sg t f M d 0 p) : d = M := by
  have h1 := h.1
  have h2 := h.2.1
  simp only [maxOver] at h1
  omega
theorem Deep.start {sg t : List Int} {f a j : Nat} (h : scan sg 1 (t.drop a) = some j) (hj : j ≤ f + 1) (hl : a + j ≤ t.length) :
    ¬ ar sg (t.getD a 0) < 0 ∧ Deep sg t f (maxOver sg t (dep sg t f) (ar sg (t.getD a 0)).toNat (a + 1)) 0 (ar sg (t.getD a 0)).toNat (a + 1) := by
  obtain ⟨i, rfl, _, h2, h3⟩ := scan_args h
  have hb := maxOver_bd (sg := sg) (t := t) (g := dep sg t f) (B := f) (by omega) (fun p => dep_bd f p) (ar sg (t.getD a 0)).toNat (a + 1)
  exact ⟨h2, by omega, by omega, by omega, i, h3, by omega, by omega⟩

def AnsDep (w : World) (z : Int) (e : Ending) (w' : World) : Prop := e = .returned (.int .i64 z) ∧ Below w.heap.size w w'

def HeadDep (w : World) (A : Option Addr) (n c : Nat) (O : Option Addr) (T oc : Nat) (ys : List Int) (sg t : List Int) (f : Nat) (M : Int) (deep i : Value) (wr : World) : Prop :=
  ∃ (k q pp : Nat) (d : Int), i = .int .i64 k ∧ deep = .int .i64 d ∧ k + q = T ∧ ys.drop k = places sg t q pp ∧ Deep sg t f M d q pp ∧ Own wr (w.heap.size + 1) (.slice O T oc) ys ∧ Row wr w.heap.size 26 #[.slice A n c] ∧ Below w.heap.size w wr

/-- impl's depth at place k: the depth, and the cursor behind it -/
def AnsCDep (w : World) (p : Nat) (A : Option Addr) (n c : Nat) (A' : Option Addr) (m c' : Nat) (sg t : List Int) (k : Nat) (z : Int) (e : Ending) (w' : World) : Prop :=
  e = .returned (.int .i64 z) ∧ w.grownBy w' (some p) ∧ Cur w' p A n c A' m c' sg t k

def HeadCDep (w : World) (p : Nat) (A : Option Addr) (n c : Nat) (A' : Option Addr) (m c' : Nat) (sg t : List Int) (T f last : Nat) (M : Int) (deep i : Value) (wr : World) : Prop :=
  ∃ (k q pp r : Nat) (d : Int), i = .int .i64 k ∧ deep = .int .i64 d ∧ k + q = T ∧ Deep sg t f M d q pp ∧ scan sg q (t.drop pp) = some r ∧ pp + r = last ∧ Cur wr p A n c A' m c' sg t pp ∧ w.grownBy wr (some p)

/-! ### DepthOf -/
def depthI (sg t : List Int) : Int := if termOkB sg t = true then dep sg t t.length 0 else 0
def AnsDepthOf (w : World) (sg t : List Int) (e : Ending) (w' : World) : Prop := e = .returned (.int .i64 (depthI sg t)) ∧ Below w.heap.size w w'
theorem depth_no {w w' : World} {sg t : List Int} (h : termOkB sg t = false) (hb : Below w.heap.size w w') : AnsDepthOf w sg t (.returned (.int .i64 0)) w' := ⟨by unfold depthI; rw [if_neg (by rw [h]; simp)], hb⟩
theorem depth_yes {w w' : World} {sg t : List Int} {m : Nat} (hm : t.length = m) (h : termOkB sg t = true) (hb : Below w.heap.size w w') : AnsDepthOf w sg t (.returned (.int .i64 (dep sg t m 0))) w' := ⟨by unfold depthI; rw [if_pos h, hm], hb⟩
theorem termOk_pos {sg t : List Int} (h : termOkB sg t = true) : 0 < t.length := by
  have := scan_pos (q := 0) (termOk_parts h).2.2
  exact this

end Go.Proofs.Ytfkgiimcnlagmaa.depth
end

section
/-
  PLAIN MATHEMATICS for laws.FnTerms: a subterm is a term, consists of its head and its arguments, and its depth is one more than the deepest of theirs. Conditions: none. By an AI agent.
-/
namespace Go.Proofs.Ytfkgiimcnlagmaa.termMath
open Go.Proofs.Ytfkgiimcnlagmaa.term Go.Proofs.Ytfkgiimcnlagmaa.termOk Go.Proofs.Ytfkgiimcnlagmaa.endAt Go.Proofs.Ytfkgiimcnlagmaa.sub Go.Proofs.Ytfkgiimcnlagmaa.args Go.Proofs.Ytfkgiimcnlagmaa.depth Go.Proofs.Ytfkgiimcnlagmaa.sig

theorem scan_append {sg : List Int} : ∀ {l r : List Int} {q j : Nat}, scan sg q l = some j → scan sg q (l ++ r) = some j := by
  intro l
  induction l with
  | nil =>
    intro r q j h
    cases q with
    | zero => rw [scan_zero] at h ⊢; exact h
    | succ q => rw [scan_nil] at h; cases h
  | cons x l ih =>
    intro r q j h
    cases q with
    | zero => rw [scan_zero] at h ⊢; exact h
    | succ q =>
      by_cases ha : ar sg x < 0
      · rw [scan_bad ha] at h; cases h
      · rw [scan_step ha] at h
        rw [List.cons_append, scan_step ha]
        obtain ⟨j', hj', rfl⟩ := Option.map_eq_some_iff.1 h
        rw [ih hj']
        rfl
theorem scan_take {sg : List Int} : ∀ {l : List Int} {q j : Nat}, scan sg q l = some j → scan sg q (l.take j) = some j := by
  intro l
  induction l with
  | nil => intro q j h; simpa using h
  | cons x l ih =>
    intro q j h
    cases q with
    | zero => rw [scan_zero] at h ⊢; exact h
    | succ q =>
      by_cases ha : ar sg x < 0
      · rw [scan_bad ha] at h; cases h
      · rw [scan_step ha] at h
        obtain ⟨j', hj', rfl⟩ := Option.map_eq_some_iff.1 h
        rw [List.take_succ_cons, scan_step ha, ih hj']
        rfl
/-- a scan goes by the numbers that it takes alone -/
theorem scan_same {sg l l' : List Int} {q j : Nat} (h : scan sg q l = some j) (e : l.take j = l'.take j) : scan sg q l' = some j := by
  have h1 := scan_take h
  rw [e] at h1
  have h2 := scan_append (r := l'.drop j) h1
  rwa [List.take_append_drop] at h2
theorem take_less {l l' : List Int} {i j : Nat} (e : l.take i = l'.take i) (h : j ≤ i) : l.take j = l'.take j := by
  have : (l.take i).take j = (l'.take i).take j := by rw [e]
  rwa [List.take_take, List.take_take, Nat.min_eq_left h] at this
theorem drop_same {l l' : List Int} {i j : Nat} (e : l.take i = l'.take i) : (l.drop j).take (i - j) = (l'.drop j).take (i - j) := by
  rw [← List.drop_take, ← List.drop_take, e]
theorem get_same {t t' : List Int} {a a' i : Nat} (e : (t.drop a).take i = (t'.drop a').take i) (h : 1 ≤ i) : t.getD a 0 = t'.getD a' 0 := by
  have : ((t.drop a).take i)[0]? = ((t'.drop a').take i)[0]? := by rw [e]
  rw [List.getElem?_take, List.getElem?_take, if_pos (by omega), if_pos (by omega), List.getElem?_drop, List.getElem?_drop] at this
  simpa [List.getD] using congrArg (fun o => o.getD 0) this

theorem max_same {sg t t' : List Int} {f f' : Nat} (hd : ∀ a a' j, (t.drop a).take j = (t'.drop a').take j → scan sg 1 (t.drop a) = some j → j ≤ f → j ≤ f' → dep sg t f a = dep sg t' f' a') :
    ∀ q p p' i, (t.drop p).take i = (t'.drop p').take i → scan sg q (t.drop p) = some i → i ≤ f → i ≤ f' → maxOver sg t (dep sg t f) q p = maxOver sg t' (dep sg t' f') q p'
  | 0, _, _, _, _, _, _, _ => rfl
  | q + 1, p, p', i, e, h, h1, h2 => by
    obtain ⟨j, e1, e2, e3, e4⟩ := scan_first h
    have e5 := scan_same e1 (take_less e e3)
    have hdr : (t.drop (p + j)).take (i - j) = (t'.drop (p' + j)).take (i - j) := by
      have := drop_same (j := j) e
      rwa [List.drop_drop, List.drop_drop] at this
    simp only [maxOver, len1_eq e1, len1_eq e5]
    rw [hd p p' j (take_less e e3) e1 (by omega) (by omega), max_same hd q (p + j) (p' + j) (i - j) hdr e4 (by omega) (by omega)]
/-- the depth goes by the numbers of the term alone -/
theorem dep_same {sg : List Int} : ∀ (f f' : Nat) (t t' : List Int) (a a' j : Nat), (t.drop a).take j = (t'.drop a').take j → scan sg 1 (t.drop a) = some j → j ≤ f → j ≤ f' → dep sg t f a = dep sg t' f' a'
  | 0, _, _, _, _, _, _, _, h, h1, _ => by have := scan_pos (q := 0) h; omega
  | _ + 1, 0, _, _, _, _, _, _, h, _, h2 => by have := scan_pos (q := 0) h; omega
  | f + 1, f' + 1, t, t', a, a', j, e, h, h1, h2 => by
    have hj := scan_pos (q := 0) h
    have hg := get_same e hj
    obtain ⟨i, e1, _, _, e2⟩ := scan_args h
    have hdr : (t.drop (a + 1)).take i = (t'.drop (a' + 1)).take i := by
      have := drop_same (j := 1) e
      rw [List.drop_drop, List.drop_drop] at this
      have e3 : j - 1 = i := by omega
      rwa [e3] at this
    simp only [dep]
    rw [← hg, max_same (fun a a' j e h h1 h2 => dep_same f f' t t' a a' j e h h1 h2) _ (a + 1) (a' + 1) i hdr e2 (by omega) (by omega)]

/-- the subterm at a place of a term -/
theorem sub_term {sg t : List Int} {a : Nat} (hok : termOkB sg t = true) (ha : a < t.length) : termOkB sg (subL sg t a) = true ∧ depthI sg (subL sg t a) = dep sg t (t.length + 1) a ∧ endI sg t a = (a : Int) + ((subL sg t a).length : Int) ∧ 1 ≤ (subL sg t a).length := by
  have hp := termOk_parts hok
  obtain ⟨j, hj, hj1, hj2⟩ := scan_at hp.2.2 ha
  have hl : len1 sg t a = j := len1_eq hj
  have hs : subL sg t a = (t.drop a).take j := by unfold subL; rw [hl]
  have hlen : (subL sg t a).length = j := by rw [hs]; simp; omega
  have hsc : scan sg 1 (subL sg t a) = some (subL sg t a).length := by rw [hlen, hs]; exact scan_take hj
  have hok2 : termOkB sg (subL sg t a) = true := by
    unfold termOkB termB
    rw [hp.1, hsc]
    simp
    omega
  refine ⟨hok2, ?_, by rw [endI_some hj, hlen], by omega⟩
  unfold depthI
  rw [if_pos hok2, hlen]
  refine (dep_same _ _ _ _ _ _ j ?_ ?_ (Nat.le_refl _) (by omega))
  · rw [List.drop_zero, hs, List.take_take, Nat.min_self]
  · rw [List.drop_zero, hsc, hlen]

/-- in the course of the law's loop: q arguments from place pp on are still to come -/
def Loop (sg t : List Int) (a : Nat) (M : Int) (zs args : List Int) (d : Int) (k q pp : Nat) : Prop :=
  args.drop k = places sg t q pp ∧ max d (maxOver sg t (dep sg t t.length) q pp) = M ∧ 0 ≤ d ∧ d ≤ t.length ∧ ∃ i, scan sg q (t.drop pp) = some i ∧ pp + i ≤ t.length ∧ zs ++ (t.drop pp).take i = subL sg t a
theorem Loop.start {sg t : List Int} {a : Nat} (hok : termOkB sg t = true) (ha : a < t.length) :
    Loop sg t a (maxOver sg t (dep sg t t.length) (ar sg (t.getD a 0)).toNat (a + 1)) [t.getD a 0] (argsL sg t a) 0 0 (ar sg (t.getD a 0)).toNat (a + 1) := by
  have hp := termOk_parts hok
  obtain ⟨j, hj, hj1, hj2⟩ := scan_at hp.2.2 ha
  obtain ⟨i, rfl, _, _, hi⟩ := scan_args hj
  have hb := maxOver_bd (sg := sg) (t := t) (g := dep sg t t.length) (B := t.length) (by omega) (fun p => dep_bd t.length p) (ar sg (t.getD a 0)).toNat (a + 1)
  refine ⟨rfl, by omega, by omega, by omega, i, hi, by omega, ?_⟩
  unfold subL
  rw [len1_eq hj, drop_cons ha, List.take_succ_cons]
  rfl
theorem Loop.done {sg t : List Int} {a : Nat} {M : Int} {zs args : List Int} {d : Int} {k pp : Nat} (h : Loop sg t a M zs args d k 0 pp) : zs = subL sg t a ∧ d = M := by
  obtain ⟨_, h2, h3, _, i, h5, _, h7⟩ := h
  rw [scan_zero] at h5
  injection h5 with h5
  subst h5
  simp only [maxOver] at h2
  exact ⟨by simpa using h7, by omega⟩
theorem Loop.step {sg t : List Int} {a : Nat} {M : Int} {zs args : List Int} {d : Int} {k q pp : Nat} (hok : termOkB sg t = true) (h : Loop sg t a M zs args d k (q + 1) pp) :
    pp < t.length ∧ args.getD k 0 = (pp : Int) ∧ ∃ jj, Loop sg t a M (zs ++ subL sg t pp) args (max d (depthI sg (subL sg t pp))) (k + 1) q (pp + jj) := by
  obtain ⟨h1, h2, h3, h4, i, h5, h6, h7⟩ := h
  obtain ⟨j, e1, e2, e3, e4⟩ := scan_first h5
  have hlt : pp < t.length := by omega
  refine ⟨hlt, ?_, j, ?_⟩
  · have : (args.drop k)[0]? = (places sg t (q + 1) pp)[0]? := by rw [h1]
    simp [places] at this
    simp [List.getD, this]
  · have hdep : depthI sg (subL sg t pp) = dep sg t t.length pp := by
      rw [(sub_term hok hlt).2.1]
      exact dep_same _ _ _ _ _ _ j rfl e1 (by omega) (by omega)
    have hb := dep_bd (sg := sg) (t := t) t.length pp
    refine ⟨?_, ?_, by omega, by rw [hdep]; omega, i - j, e4, by omega, ?_⟩
    · have : (args.drop k).drop 1 = (places sg t (q + 1) pp).drop 1 := by rw [h1]
      rw [List.drop_drop] at this
      simpa [places, len1_eq e1] using this
    · rw [hdep]
      simp only [maxOver, len1_eq e1] at h2
      omega
    · rw [← h7, List.append_assoc]
      congr 1
      unfold subL
      rw [len1_eq e1, ← List.drop_drop, ← List.drop_take]
      have := List.take_append_drop j ((t.drop pp).take i)
      rwa [List.take_take, Nat.min_eq_left e3] at this
theorem depth_head {sg t : List Int} {a : Nat} (hok : termOkB sg t = true) (ha : a < t.length) : depthI sg (subL sg t a) = maxOver sg t (dep sg t t.length) (ar sg (t.getD a 0)).toNat (a + 1) + 1 := by
  rw [(sub_term hok ha).2.1]
  rfl
end Go.Proofs.Ytfkgiimcnlagmaa.termMath
end

section
/-
  PLAIN MATHEMATICS for chapter 3: ways from the root down to a position, what lies above it, paths, the deepest position, and what a replaced subterm does to them. Conditions: none. By an AI agent.
-/
namespace Go.Proofs.Ytfkgiimcnlagmaa.posMath
open Go.Proofs.Ytfkgiimcnlagmaa.sig Go.Proofs.Ytfkgiimcnlagmaa.term Go.Proofs.Ytfkgiimcnlagmaa.termOk Go.Proofs.Ytfkgiimcnlagmaa.termFacts Go.Proofs.Ytfkgiimcnlagmaa.endAt Go.Proofs.Ytfkgiimcnlagmaa.sub Go.Proofs.Ytfkgiimcnlagmaa.args Go.Proofs.Ytfkgiimcnlagmaa.depth Go.Proofs.Ytfkgiimcnlagmaa.termMath

theorem scan_cat {sg : List Int} : ∀ {l l' : List Int} {q q' j : Nat}, scan sg q l = some l.length → scan sg q' l' = some j → scan sg (q + q') (l ++ l') = some (l.length + j)
  | [], l', q, q', j, h, h' => by
    cases q with
    | zero => simpa using h'
    | succ q => rw [scan_nil] at h; cases h
  | x :: r, l', q, q', j, h, h' => by
    cases q with
    | zero => rw [scan_zero] at h; simp at h
    | succ q =>
      by_cases ha : ar sg x < 0
      · rw [scan_bad ha] at h; cases h
      · rw [scan_step ha] at h
        obtain ⟨i, hi, e⟩ := Option.map_eq_some_iff.1 h
        have e2 : i = r.length := by simp at e; omega
        subst e2
        have h2 := scan_cat hi h'
        rw [show q + 1 + q' = (q + q') + 1 by omega, List.cons_append, scan_step ha, show q + q' + (ar sg x).toNat = q + (ar sg x).toNat + q' by omega, h2]
        simp
        omega
theorem term_at {sg t : List Int} (h : termOkB sg t = true) {a : Nat} (ha : a < t.length) : scan sg 1 (t.drop a) = some (len1 sg t a) ∧ 1 ≤ len1 sg t a ∧ a + len1 sg t a ≤ t.length := by
  obtain ⟨j, e, h1, h2⟩ := scan_at (term_parts h).2.2 ha
  rw [len1_eq e]
  exact ⟨e, h1, h2⟩
theorem end_at {sg t : List Int} (h : termOkB sg t = true) {a : Nat} (ha : a < t.length) : endI sg t a = ((a + len1 sg t a : Nat) : Int) := by
  rw [endI_some (term_at h ha).1]; omega
/-- what begins within a row of terms ends within it -/
theorem nest {sg t : List Int} {q a i : Nat} (h : scan sg q (t.drop a) = some i) {p : Nat} (h1 : a ≤ p) (h2 : p < a + i) : p + len1 sg t p ≤ a + i ∧ scan sg 1 (t.drop p) = some (len1 sg t p) ∧ 1 ≤ len1 sg t p := by
  obtain ⟨q', hq⟩ := scan_tail h (show p - a < i by omega)
  rw [List.drop_drop, show a + (p - a) = p by omega] at hq
  obtain ⟨j, e, j1, j2, _⟩ := scan_first hq
  rw [len1_eq e]
  exact ⟨by omega, e, j1⟩

/-- where the k-th of the terms from place p on begins -/
def argP (sg t : List Int) : Nat → Nat → Nat
  | 0, p => p
  | k + 1, p => argP sg t k (p + len1 sg t p)
theorem argP_succ {sg t : List Int} : ∀ k p, argP sg t (k + 1) p = argP sg t k p + len1 sg t (argP sg t k p)
  | 0, _ => rfl
  | k + 1, p => by
    show argP sg t (k + 1) (p + len1 sg t p) = _
    rw [argP_succ k]
    rfl
theorem argP_mono {sg t : List Int} {p k : Nat} : ∀ {k' : Nat}, k ≤ k' → argP sg t k p ≤ argP sg t k' p := by
  intro k' h
  induction k' with
  | zero => rw [Nat.le_zero.1 h]; exact Nat.le_refl _
  | succ k' ih =>
    by_cases e : k = k' + 1
    · rw [e]; exact Nat.le_refl _
    · have := ih (by omega)
      rw [argP_succ]
      omega
theorem argP_scan {sg t : List Int} : ∀ {k q p i : Nat}, scan sg q (t.drop p) = some i → k ≤ q → scan sg k (t.drop p) = some (argP sg t k p - p) ∧ p ≤ argP sg t k p ∧ argP sg t k p ≤ p + i := by
  intro k
  induction k with
  | zero => intro q p i _ _; exact ⟨by rw [scan_zero]; simp [argP], Nat.le_refl _, by simp [argP]⟩
  | succ k ih =>
    intro q p i h hk
    obtain ⟨q, rfl⟩ : ∃ q', q = q' + 1 := ⟨q - 1, by omega⟩
    obtain ⟨j, e1, e2, e3, e4⟩ := scan_first h
    have hj := len1_eq e1
    obtain ⟨a1, a2, a3⟩ := ih e4 (show k ≤ q by omega)
    have ea : argP sg t (k + 1) p = argP sg t k (p + j) := by show argP sg t k (p + len1 sg t p) = _; rw [hj]
    have hsc : scan sg (k + 1) (t.drop p) = some (argP sg t (k + 1) p - p) := by
      have hx := scan_cat (l := (t.drop p).take j) (l' := t.drop (p + j)) (q := 1) (q' := k) (j := argP sg t k (p + j) - (p + j))
        (by have := scan_take e1; rw [this]; have hl := scan_le this; have hl2 := scan_le e1; rw [List.length_take, Nat.min_eq_left hl2]) a1
      have hl2 := scan_le e1
      rw [← List.drop_drop, List.take_append_drop, List.length_take, Nat.min_eq_left hl2, Nat.add_comm 1 k] at hx
      rw [hx, ea]
      congr 1
      omega
    rw [ea] at hsc ⊢
    exact ⟨hsc, by omega, by omega⟩
theorem places_get {sg t : List Int} : ∀ {q p k : Nat}, k < q → (places sg t q p).getD k 0 = (argP sg t k p : Int) := by
  intro q
  induction q with
  | zero => intro p k h; omega
  | succ q ih =>
    intro p k h
    cases k with
    | zero => rfl
    | succ k =>
      show ((p : Int) :: places sg t q (p + len1 sg t p)).getD (k + 1) 0 = _
      rw [List.getD_cons_succ, ih (by omega)]
      rfl
theorem find_arg {sg t : List Int} {at_ : Nat} : ∀ {q p i : Nat}, scan sg q (t.drop p) = some i → p ≤ at_ → at_ < p + i → ∃ k, k < q ∧ argP sg t k p ≤ at_ ∧ at_ < argP sg t k p + len1 sg t (argP sg t k p) := by
  intro q
  induction q with
  | zero => intro p i h h1 h2; rw [scan_zero] at h; injection h; omega
  | succ q ih =>
    intro p i h h1 h2
    obtain ⟨j, e1, e2, e3, e4⟩ := scan_first h
    have hj := len1_eq e1
    by_cases hlt : at_ < p + j
    · exact ⟨0, by omega, h1, by show at_ < p + len1 sg t p; omega⟩
    · obtain ⟨k, k1, k2, k3⟩ := ih e4 (by omega) (by omega)
      have e : argP sg t (k + 1) p = argP sg t k (p + j) := by show argP sg t k (p + len1 sg t p) = _; rw [hj]
      exact ⟨k + 1, by omega, by rw [e]; exact k2, by rw [e]; exact k3⟩

/-- the number of arguments of what begins at a place -/
def arN (sg t : List Int) (p : Nat) : Nat := (ar sg (t.getD p 0)).toNat
/-- the way from a place down to another one: what is above it, and the indexes of the arguments -/
inductive Trail (sg t : List Int) (at_ : Nat) : Nat → List Int → List Int → Prop
  | here : Trail sg t at_ at_ [] []
  | down {p k : Nat} {ab pa : List Int} (h1 : p < at_) (h2 : k < arN sg t p) (h3 : argP sg t k (p + 1) ≤ at_) (h4 : at_ < argP sg t k (p + 1) + len1 sg t (argP sg t k (p + 1))) (h5 : p < argP sg t k (p + 1)) (h6 : at_ < p + len1 sg t p) (hw : Trail sg t at_ (argP sg t k (p + 1)) ab pa) : Trail sg t at_ p ((p : Int) :: ab) ((k : Int) :: pa)
theorem head_scan {sg t : List Int} (h : termOkB sg t = true) {p : Nat} (hp : p < t.length) : ¬ ar sg (t.getD p 0) < 0 ∧ ∃ i, len1 sg t p = i + 1 ∧ scan sg (arN sg t p) (t.drop (p + 1)) = some i := by
  obtain ⟨i, e, _, h1, h2⟩ := scan_args (term_at h hp).1
  exact ⟨h1, i, e, h2⟩
theorem arg_at {sg t : List Int} (h : termOkB sg t = true) {p : Nat} (hp : p < t.length) {k : Nat} (hk : k < arN sg t p) : p < argP sg t k (p + 1) ∧ argP sg t k (p + 1) + len1 sg t (argP sg t k (p + 1)) ≤ p + len1 sg t p ∧ argP sg t k (p + 1) < t.length := by
  obtain ⟨_, i, e, hs⟩ := head_scan h hp
  obtain ⟨_, a2, _⟩ := argP_scan hs (Nat.le_of_lt hk)
  obtain ⟨_, _, b3⟩ := argP_scan hs hk
  rw [argP_succ] at b3
  have hm := argP_scan hs (Nat.le_of_lt hk)
  have hl := (term_at h hp).2.2
  refine ⟨by omega, by omega, ?_⟩
  by_cases hx : argP sg t k (p + 1) < p + 1 + i
  · omega
  · exfalso
    have hsc := argP_scan hs hk
    have h0 := argP_succ (sg := sg) (t := t) k (p + 1)
    have hpos : scan sg (arN sg t p) (t.drop (p + 1)) = some (argP sg t k (p + 1) - (p + 1)) := by rw [hs]; congr 1; omega
    obtain ⟨i', _, s1, s2⟩ := scan_split (p := k) (q := arN sg t p - k - 1 + 1) (l := t.drop (p + 1)) (j := i) (by rw [← hs]; congr 1; omega)
    rw [hm.1] at s1
    injection s1 with s1
    have := scan_pos s2
    omega
theorem way_ex {sg t : List Int} (h : termOkB sg t = true) {at_ : Nat} (hat : at_ < t.length) : ∀ (n p : Nat), at_ - p ≤ n → p ≤ at_ → at_ < p + len1 sg t p → ∃ ab pa, Trail sg t at_ p ab pa := by
  intro n
  induction n with
  | zero =>
    intro p hn hp _
    obtain rfl : p = at_ := by omega
    exact ⟨[], [], .here⟩
  | succ n ih =>
    intro p hn hp hl
    by_cases he : p = at_
    · subst he; exact ⟨[], [], .here⟩
    · obtain ⟨_, i, e, hs⟩ := head_scan h (show p < t.length by omega)
      obtain ⟨k, k1, k2, k3⟩ := find_arg hs (show p + 1 ≤ at_ by omega) (by omega)
      have hlt := (arg_at h (show p < t.length by omega) k1).1
      obtain ⟨ab, pa, hw⟩ := ih _ (by omega) k2 k3
      exact ⟨_, _, .down (by omega) k1 k2 k3 hlt hl hw⟩
theorem root_len {sg t : List Int} (h : termOkB sg t = true) : len1 sg t 0 = t.length := by
  have := (term_parts h).2.2
  exact len1_eq (by simpa using this)
theorem way_root {sg t : List Int} (h : termOkB sg t = true) {at_ : Nat} (hat : at_ < t.length) : ∃ ab pa, Trail sg t at_ 0 ab pa :=
  way_ex h hat at_ 0 (by omega) (by omega) (by rw [root_len h]; omega)
theorem Trail.here_eq {sg t : List Int} {at_ : Nat} {ab pa : List Int} (h : Trail sg t at_ at_ ab pa) : ab = [] ∧ pa = [] := by
  cases h with
  | here => exact ⟨rfl, rfl⟩
  | down h1 => omega
theorem arg_one {sg t : List Int} {p at_ k k' : Nat} (h3 : argP sg t k p ≤ at_) (h4 : at_ < argP sg t k p + len1 sg t (argP sg t k p)) (h3' : argP sg t k' p ≤ at_) (h4' : at_ < argP sg t k' p + len1 sg t (argP sg t k' p)) : k = k' := by
  rcases Nat.lt_trichotomy k k' with h | h | h
  · have := argP_mono (sg := sg) (t := t) (p := p) (show k + 1 ≤ k' by omega)
    rw [argP_succ] at this
    omega
  · exact h
  · have := argP_mono (sg := sg) (t := t) (p := p) (show k' + 1 ≤ k by omega)
    rw [argP_succ] at this
    omega
theorem Trail.one {sg t : List Int} {at_ p : Nat} {ab pa : List Int} (h : Trail sg t at_ p ab pa) : ∀ {ab' pa' : List Int}, Trail sg t at_ p ab' pa' → ab = ab' ∧ pa = pa' := by
  induction h with
  | here => intro ab' pa' h'; obtain ⟨rfl, rfl⟩ := h'.here_eq; exact ⟨rfl, rfl⟩
  | @down p k ab pa h1 h2 h3 h4 h5 h6 hw ih =>
    intro ab' pa' h'
    cases h' with
    | here => omega
    | @down _ k' ab' pa' g1 g2 g3 g4 g5 g6 gw =>
      obtain rfl := arg_one h3 h4 g3 g4
      obtain ⟨rfl, rfl⟩ := ih gw
      exact ⟨rfl, rfl⟩
theorem Trail.len {sg t : List Int} {at_ p : Nat} {ab pa : List Int} (h : Trail sg t at_ p ab pa) : ab.length = pa.length := by
  induction h with
  | here => rfl
  | down _ _ _ _ _ _ _ ih => simp [ih]
theorem Trail.le {sg t : List Int} {at_ p : Nat} {ab pa : List Int} (h : Trail sg t at_ p ab pa) : p ≤ at_ ∧ pa.length ≤ at_ - p := by
  induction h with
  | here => simp
  | down h1 _ _ _ h5 _ _ ih => simp only [List.length_cons]; omega

/-- of the n places from p on those that a place is below -/
def upTo (sg t : List Int) (at_ : Nat) : Nat → Nat → List Int
  | _, 0 => []
  | p, n + 1 => (if at_ < p + len1 sg t p then [(p : Int)] else []) ++ upTo sg t at_ (p + 1) n
theorem upTo_add {sg t : List Int} {at_ : Nat} : ∀ n p m, upTo sg t at_ p (n + m) = upTo sg t at_ p n ++ upTo sg t at_ (p + n) m
  | 0, p, m => by simp [upTo]
  | n + 1, p, m => by
    rw [show n + 1 + m = (n + m) + 1 by omega]
    simp only [upTo]
    rw [upTo_add n (p + 1) m, List.append_assoc, show p + 1 + n = p + (n + 1) by omega]
theorem upTo_snoc {sg t : List Int} {at_ : Nat} (n p : Nat) : upTo sg t at_ p (n + 1) = upTo sg t at_ p n ++ (if at_ < (p + n) + len1 sg t (p + n) then [((p + n : Nat) : Int)] else []) := by
  rw [upTo_add]
  simp [upTo]
theorem upTo_skip {sg t : List Int} {at_ : Nat} : ∀ n p, (∀ r, p ≤ r → r < p + n → ¬ at_ < r + len1 sg t r) → upTo sg t at_ p n = []
  | 0, _, _ => rfl
  | n + 1, p, h => by
    simp only [upTo]
    rw [if_neg (h p (by omega) (by omega)), upTo_skip n (p + 1) (fun r h1 h2 => h r (by omega) (by omega))]
    rfl
def aboveL (sg t : List Int) (at_ : Nat) : List Int := upTo sg t at_ 0 at_
theorem Trail.above {sg t : List Int} (hok : termOkB sg t = true) {at_ p : Nat} (hat : at_ < t.length) {ab pa : List Int} (h : Trail sg t at_ p ab pa) : upTo sg t at_ p (at_ - p) = ab := by
  induction h with
  | here => simp [upTo]
  | @down p k ab pa h1 h2 h3 h4 h5 h6 hw ih =>
    obtain ⟨_, i, e, hs⟩ := head_scan hok (show p < t.length by omega)
    obtain ⟨s1, s2, s3⟩ := argP_scan hs (Nat.le_of_lt h2)
    rw [show at_ - p = (argP sg t k (p + 1) - (p + 1)) + (at_ - argP sg t k (p + 1)) + 1 by omega]
    simp only [upTo]
    rw [if_pos h6, upTo_add, upTo_skip (argP sg t k (p + 1) - (p + 1)), show p + 1 + (argP sg t k (p + 1) - (p + 1)) = argP sg t k (p + 1) by omega, ih]
    · rfl
    · intro r r1 r2 r3
      have := (nest s1 r1 (by omega)).1
      omega
theorem Trail.aboveL {sg t : List Int} (hok : termOkB sg t = true) {at_ : Nat} (hat : at_ < t.length) {ab pa : List Int} (h : Trail sg t at_ 0 ab pa) : aboveL sg t at_ = ab := h.above hok hat

/-- where a path leads to, or -1 -/
def walkI (sg t : List Int) : Nat → List Int → Int
  | p, [] => (p : Int)
  | p, s :: r => if 0 ≤ s ∧ s < ar sg (t.getD p 0) then walkI sg t (argP sg t s.toNat (p + 1)) r else -1
theorem walk_step {sg t : List Int} {p k : Nat} {r : List Int} (h : k < arN sg t p) : walkI sg t p ((k : Int) :: r) = walkI sg t (argP sg t k (p + 1)) r := by
  unfold arN at h
  simp only [walkI]
  rw [if_pos (by omega), Int.toNat_natCast]
theorem walk_no {sg t : List Int} {p : Nat} {s : Int} {r : List Int} (h : ¬ (0 ≤ s ∧ s < ar sg (t.getD p 0))) : walkI sg t p (s :: r) = -1 := by
  simp only [walkI]
  rw [if_neg h]
theorem Trail.walk {sg t : List Int} {at_ p : Nat} {ab pa : List Int} (h : Trail sg t at_ p ab pa) : walkI sg t p pa = (at_ : Int) := by
  induction h with
  | here => rfl
  | down _ h2 _ _ _ _ _ ih => rw [walk_step h2, ih]
theorem Trail.prefix_ {sg t : List Int} {at_ p : Nat} {ab pa : List Int} (h : Trail sg t at_ p ab pa) : ∀ i, i < ab.length → ∃ r : Nat, ab.getD i 0 = (r : Int) ∧ walkI sg t p (pa.take i) = (r : Int) ∧ r < at_ ∧ at_ < r + len1 sg t r := by
  induction h with
  | here => intro i hi; simp at hi
  | @down p k ab pa h1 h2 h3 h4 h5 h6 hw ih =>
    intro i hi
    cases i with
    | zero => exact ⟨p, rfl, rfl, h1, h6⟩
    | succ i =>
      obtain ⟨r, e1, e2, e3, e4⟩ := ih i (by simpa using hi)
      exact ⟨r, by rw [List.getD_cons_succ, e1], by rw [List.take_succ_cons, walk_step h2, e2], e3, e4⟩

/-- the number of steps from the root to a place -/
def pl (sg t : List Int) (at_ : Nat) : Nat := (aboveL sg t at_).length
def deepN (sg t : List Int) : Nat → Nat
  | 0 => 0
  | k + 1 => if pl sg t (deepN sg t k) < pl sg t k then k else deepN sg t k
theorem deep_le {sg t : List Int} : ∀ k, deepN sg t k ≤ k - 1
  | 0 => by simp [deepN]
  | k + 1 => by
    have := deep_le (sg := sg) (t := t) k
    simp only [deepN]
    split <;> omega
theorem deep_most {sg t : List Int} : ∀ k r, r < k → pl sg t r ≤ pl sg t (deepN sg t k)
  | 0, r, h => by omega
  | k + 1, r, h => by
    have ih := deep_most (sg := sg) (t := t) k r
    simp only [deepN]
    by_cases e : r = k
    · subst e; split <;> omega
    · have := ih (by omega)
      split <;> omega
theorem over_ge {sg t : List Int} {g : Nat → Int} : ∀ {q k p : Nat}, k < q → g (argP sg t k p) ≤ maxOver sg t g q p := by
  intro q
  induction q with
  | zero => intro k p h; omega
  | succ q ih =>
    intro k p h
    cases k with
    | zero => simp only [maxOver, argP]; omega
    | succ k =>
      have := ih (k := k) (p := p + len1 sg t p) (by omega)
      simp only [maxOver, argP]
      omega
theorem over_nonneg {sg t : List Int} {g : Nat → Int} : ∀ (q p : Nat), 0 ≤ maxOver sg t g q p
  | 0, _ => by simp [maxOver]
  | q + 1, p => by
    have := over_nonneg (sg := sg) (t := t) (g := g) q (p + len1 sg t p)
    simp only [maxOver]
    omega
theorem over_max {sg t : List Int} {g : Nat → Int} : ∀ (q p : Nat), maxOver sg t g q p = 0 ∨ ∃ k, k < q ∧ g (argP sg t k p) = maxOver sg t g q p
  | 0, _ => .inl rfl
  | q + 1, p => by
    simp only [maxOver]
    rcases Int.le_total (g p) (maxOver sg t g q (p + len1 sg t p)) with h | h
    · rw [Int.max_eq_right h]
      rcases over_max (sg := sg) (t := t) (g := g) q (p + len1 sg t p) with e | ⟨k, k1, k2⟩
      · exact .inl e
      · exact .inr ⟨k + 1, by omega, k2⟩
    · rw [Int.max_eq_left h]
      exact .inr ⟨0, by omega, rfl⟩
theorem Trail.depth {sg t : List Int} {at_ p : Nat} {ab pa : List Int} (h : Trail sg t at_ p ab pa) : ∀ f, pa.length < f → (pa.length : Int) + 1 ≤ dep sg t f p := by
  induction h with
  | here =>
    intro f hf
    obtain ⟨f, rfl⟩ : ∃ f', f = f' + 1 := ⟨f - 1, by simp at hf; omega⟩
    have := over_nonneg (sg := sg) (t := t) (g := dep sg t f) (ar sg (t.getD at_ 0)).toNat (at_ + 1)
    simp only [dep, List.length_nil]
    omega
  | @down p k ab pa h1 h2 h3 h4 h5 h6 hw ih =>
    intro f hf
    simp only [List.length_cons] at hf ⊢
    obtain ⟨f, rfl⟩ : ∃ f', f = f' + 1 := ⟨f - 1, by omega⟩
    have e := ih f (by omega)
    have e2 := over_ge (sg := sg) (t := t) (g := dep sg t f) (p := p + 1) h2
    unfold arN at e2
    simp only [dep]
    omega
theorem depth_way {sg t : List Int} (hok : termOkB sg t = true) : ∀ f p, p < t.length → ∃ at_ ab pa, p ≤ at_ ∧ at_ < p + len1 sg t p ∧ Trail sg t at_ p ab pa ∧ (pa.length : Int) + 1 = dep sg t (f + 1) p := by
  intro f
  induction f with
  | zero =>
    intro p hp
    refine ⟨p, [], [], Nat.le_refl _, by have := (term_at hok hp).2.1; omega, .here, ?_⟩
    have : dep sg t (0 + 1) p = 1 := by
      have e : dep sg t (0 + 1) p = maxOver sg t (dep sg t 0) (ar sg (t.getD p 0)).toNat (p + 1) + 1 := rfl
      have h1 := (dep_bd (sg := sg) (t := t) (0 + 1) p).2
      have h0 := over_nonneg (sg := sg) (t := t) (g := dep sg t 0) (ar sg (t.getD p 0)).toNat (p + 1)
      rw [e] at h1 ⊢
      omega
    rw [this]; rfl
  | succ f ih =>
    intro p hp
    have hl := (term_at hok hp).2
    rcases over_max (sg := sg) (t := t) (g := dep sg t (f + 1)) (arN sg t p) (p + 1) with e | ⟨k, k1, k2⟩
    · refine ⟨p, [], [], Nat.le_refl _, by omega, .here, ?_⟩
      rw [show dep sg t (f + 1 + 1) p = maxOver sg t (dep sg t (f + 1)) (arN sg t p) (p + 1) + 1 from rfl, e]
      rfl
    · obtain ⟨a1, a2, a3⟩ := arg_at hok hp k1
      obtain ⟨at_, ab, pa, b1, b2, b3, b4⟩ := ih _ a3
      refine ⟨at_, _, _, by omega, by omega, .down (by omega) k1 b1 b2 a1 (by omega) b3, ?_⟩
      rw [show dep sg t (f + 1 + 1) p = maxOver sg t (dep sg t (f + 1)) (arN sg t p) (p + 1) + 1 from rfl, ← k2, ← b4]
      simp
/-- the deepest position's path is one shorter than the term is deep -/
theorem deep_depth {sg t : List Int} (hok : termOkB sg t = true) : (pl sg t (deepN sg t t.length) : Int) = depthI sg t - 1 := by
  have h1 := (term_len hok).1
  have hd := deep_le (sg := sg) (t := t) t.length
  have hD : depthI sg t = dep sg t t.length 0 := by unfold depthI; rw [if_pos hok]
  rw [hD]
  obtain ⟨ab, pa, hw⟩ := way_root hok (show deepN sg t t.length < t.length by omega)
  have e1 := hw.depth t.length (by have := hw.le; omega)
  have e2 : pl sg t (deepN sg t t.length) = pa.length := by unfold pl; rw [hw.aboveL hok (by omega), hw.len]
  obtain ⟨f, hf⟩ : ∃ f, t.length = f + 1 := ⟨t.length - 1, by omega⟩
  obtain ⟨at_, ab', pa', b1, b2, b3, b4⟩ := depth_way hok f 0 (by omega)
  have hat : at_ < t.length := by rw [root_len hok] at b2; omega
  have e3 : pl sg t at_ = pa'.length := by unfold pl; rw [b3.aboveL hok hat, b3.len]
  have e4 := deep_most (sg := sg) (t := t) t.length at_ hat
  rw [← hf] at b4
  omega
end Go.Proofs.Ytfkgiimcnlagmaa.posMath
end

section
/-
  PLAIN MATHEMATICS of matching (chapter 4): the walk along a pattern and a term finds the substitution that turns the one into the other, if there is one; being an instance is transitive, variants are instances of each other, every pattern is an instance of one of the most general ones. Conditions: none. By an AI agent.
-/
namespace Go.Proofs.Ytfkgiimcnlagmaa.matchMath
open Go.Proofs.Ytfkgiimcnlagmaa.sig Go.Proofs.Ytfkgiimcnlagmaa.term Go.Proofs.Ytfkgiimcnlagmaa.termOk Go.Proofs.Ytfkgiimcnlagmaa.termFacts Go.Proofs.Ytfkgiimcnlagmaa.endAt Go.Proofs.Ytfkgiimcnlagmaa.sub Go.Proofs.Ytfkgiimcnlagmaa.termMath Go.Proofs.Ytfkgiimcnlagmaa.fillMath Go.Proofs.Ytfkgiimcnlagmaa.posMath Go.Proofs.Ytfkgiimcnlagmaa.renMath

/-- what a list of 24 places holds for a variable -/
def vr (x : Int) : Nat := (-1 - x).toNat
/-- the walk: the pattern's numbers, the place in the term, what each variable must give so far -/
def mst (sg t : List Int) : List Int → Nat → List (List Int) → Option (List (List Int))
  | [], _, s => some s
  | x :: r, k, s =>
    if t.length ≤ k then none
    else if 0 ≤ x then (if x = t.getD k 0 then mst sg t r (k + 1) s else none)
    else if (s.getD (vr x) []).length ≠ 0 ∧ s.getD (vr x) [] ≠ subL sg t k then none
    else mst sg t r (k + (subL sg t k).length) (s.set (vr x) (subL sg t k))
section
variable {sg t : List Int} {r : List Int} {x : Int} {k : Nat} {s : List (List Int)}
theorem mst_out (h : t.length ≤ k) : mst sg t (x :: r) k s = none := by simp only [mst]; rw [if_pos h]
theorem mst_sym (h : ¬ t.length ≤ k) (hx : 0 ≤ x) (he : x = t.getD k 0) : mst sg t (x :: r) k s = mst sg t r (k + 1) s := by simp only [mst]; rw [if_neg h, if_pos hx, if_pos he]
theorem mst_symNo (h : ¬ t.length ≤ k) (hx : 0 ≤ x) (he : ¬ x = t.getD k 0) : mst sg t (x :: r) k s = none := by simp only [mst]; rw [if_neg h, if_pos hx, if_neg he]
theorem mst_var (h : ¬ t.length ≤ k) (hx : ¬ 0 ≤ x) (he : ¬ ((s.getD (vr x) []).length ≠ 0 ∧ s.getD (vr x) [] ≠ subL sg t k)) : mst sg t (x :: r) k s = mst sg t r (k + (subL sg t k).length) (s.set (vr x) (subL sg t k)) := by simp only [mst]; rw [if_neg h, if_neg hx, if_neg he]
theorem mst_varNo (h : ¬ t.length ≤ k) (hx : ¬ 0 ≤ x) (he : (s.getD (vr x) []).length ≠ 0 ∧ s.getD (vr x) [] ≠ subL sg t k) : mst sg t (x :: r) k s = none := by simp only [mst]; rw [if_neg h, if_neg hx, if_pos he]
end
theorem set_get {s : List (List Int)} {i j : Nat} {v : List Int} : (s.set i v).getD j [] = if i = j ∧ i < s.length then v else s.getD j [] := by
  simp only [List.getD_eq_getElem?_getD, List.getElem?_set]
  by_cases h : i = j
  · subst h
    by_cases h2 : i < s.length
    · simp [h2]
    · simp [h2]
  · simp [h]
theorem vr_lt {x : Int} (h0 : ¬ 0 ≤ x) (h : -24 ≤ x) : vr x < 24 := by unfold vr; omega
/-- what is known of a variable stays -/
theorem mst_ext {sg t : List Int} : ∀ {p : List Int} {k : Nat} {s s' : List (List Int)}, mst sg t p k s = some s' → s.length = 24 → (∀ x ∈ p, -24 ≤ x) → s'.length = 24 ∧ ∀ i, (s.getD i []).length ≠ 0 → s'.getD i [] = s.getD i [] := by
  intro p
  induction p with
  | nil => intro k s s' h hl _; injection h with h; subst h; exact ⟨hl, fun _ _ => rfl⟩
  | cons x r ih =>
    intro k s s' h hl hx
    have hr : ∀ y ∈ r, -24 ≤ y := fun y hy => hx y (List.mem_cons_of_mem _ hy)
    by_cases h1 : t.length ≤ k
    · rw [mst_out h1] at h; cases h
    · by_cases h2 : 0 ≤ x
      · by_cases h3 : x = t.getD k 0
        · rw [mst_sym h1 h2 h3] at h; exact ih h hl hr
        · rw [mst_symNo h1 h2 h3] at h; cases h
      · by_cases h3 : (s.getD (vr x) []).length ≠ 0 ∧ s.getD (vr x) [] ≠ subL sg t k
        · rw [mst_varNo h1 h2 h3] at h; cases h
        · rw [mst_var h1 h2 h3] at h
          obtain ⟨e1, e2⟩ := ih h (by rw [List.length_set]; exact hl) hr
          refine ⟨e1, fun i hi => ?_⟩
          have hs : (s.set (vr x) (subL sg t k)).getD i [] = s.getD i [] := by
            rw [set_get]
            split
            · rename_i hc
              obtain ⟨rfl, _⟩ := hc
              by_cases e : s.getD (vr x) [] = subL sg t k
              · exact e.symm
              · exact absurd ⟨hi, e⟩ h3
            · rfl
          rw [← hs] at hi ⊢
          exact e2 i hi
theorem sub_len1 {sg t : List Int} (hok : termOkB sg t = true) {k : Nat} (hk : k < t.length) : (subL sg t k).length = len1 sg t k ∧ t.drop k = subL sg t k ++ t.drop (k + (subL sg t k).length) ∧ scan sg 1 (subL sg t k) = some (subL sg t k).length := by
  have h := term_at hok hk
  have hl : (subL sg t k).length = len1 sg t k := by unfold subL; rw [List.length_take, List.length_drop]; omega
  refine ⟨hl, ?_, (term_parts (sub_term hok hk).1).2.2⟩
  rw [hl, ← List.drop_drop]
  exact (List.take_append_drop _ _).symm
/-- what is found turns the pattern into what the term goes on with -/
theorem mst_sound {sg t : List Int} (hok : termOkB sg t = true) : ∀ {p : List Int} {k : Nat} {s s' : List (List Int)}, mst sg t p k s = some s' → s.length = 24 → (∀ x ∈ p, -24 ≤ x) →
    (∃ rest, t.drop k = fillL (fun i => s'.getD i []) p ++ rest) ∧ ∀ x ∈ p, x < 0 → scan sg 1 (s'.getD (vr x) []) = some (s'.getD (vr x) []).length := by
  intro p
  induction p with
  | nil => intro k s s' _ _ _; exact ⟨⟨t.drop k, by rw [fill_nil, List.nil_append]⟩, fun x hx => absurd hx (List.not_mem_nil)⟩
  | cons x r ih =>
    intro k s s' h hl hx
    have hr : ∀ y ∈ r, -24 ≤ y := fun y hy => hx y (List.mem_cons_of_mem _ hy)
    have hx0 : -24 ≤ x := hx x (List.mem_cons_self ..)
    by_cases h1 : t.length ≤ k
    · rw [mst_out h1] at h; cases h
    · by_cases h2 : 0 ≤ x
      · by_cases h3 : x = t.getD k 0
        · rw [mst_sym h1 h2 h3] at h
          obtain ⟨⟨rest, e⟩, hv⟩ := ih h hl hr
          refine ⟨⟨rest, ?_⟩, fun y hy h0 => ?_⟩
          · rw [drop_cons (by omega), e, ← h3, fill_cons, rep_sym h2]; rfl
          · rcases List.mem_cons.1 hy with rfl | hy
            · omega
            · exact hv y hy h0
        · rw [mst_symNo h1 h2 h3] at h; cases h
      · by_cases h3 : (s.getD (vr x) []).length ≠ 0 ∧ s.getD (vr x) [] ≠ subL sg t k
        · rw [mst_varNo h1 h2 h3] at h; cases h
        · rw [mst_var h1 h2 h3] at h
          have hl' : (s.set (vr x) (subL sg t k)).length = 24 := by rw [List.length_set]; exact hl
          obtain ⟨⟨rest, e⟩, hv⟩ := ih h hl' hr
          obtain ⟨_, e2⟩ := mst_ext h hl' hr
          obtain ⟨l1, l2, l3⟩ := sub_len1 hok (show k < t.length by omega)
          have hpos := (sub_term hok (show k < t.length by omega)).2.2.2
          have hg : (s.set (vr x) (subL sg t k)).getD (vr x) [] = subL sg t k := by rw [set_get, if_pos ⟨rfl, by rw [hl]; exact vr_lt h2 hx0⟩]
          have hgx : s'.getD (vr x) [] = subL sg t k := by rw [e2 (vr x) (by rw [hg]; omega), hg]
          refine ⟨⟨rest, ?_⟩, fun y hy h0 => ?_⟩
          · rw [l2, e, fill_cons, rep_var (by omega), List.append_assoc]
            congr 1
            exact hgx.symm
          · rcases List.mem_cons.1 hy with rfl | hy
            · rw [hgx]; exact l3
            · exact hv y hy h0
/-- where a substitution turns the pattern into what the term goes on with, the walk finds it -/
theorem mst_full {sg t : List Int} {L : Nat → List Int} : ∀ {p : List Int} {k : Nat} {s : List (List Int)} {rest : List Int}, t.drop k = fillL L p ++ rest → s.length = 24 → (∀ x ∈ p, -24 ≤ x) → (∀ x ∈ p, x < 0 → scan sg 1 (L (vr x)) = some (L (vr x)).length) → (∀ i, (s.getD i []).length ≠ 0 → s.getD i [] = L i) →
    ∃ s', mst sg t p k s = some s' ∧ (∀ i, (s'.getD i []).length ≠ 0 → s'.getD i [] = L i) ∧ ∀ x ∈ p, x < 0 → s'.getD (vr x) [] = L (vr x) := by
  intro p
  induction p with
  | nil => intro k s rest _ _ _ _ hc; exact ⟨s, rfl, hc, fun x hx => absurd hx (List.not_mem_nil)⟩
  | cons x r ih =>
    intro k s rest h hl hx hL hc
    have hr : ∀ y ∈ r, -24 ≤ y := fun y hy => hx y (List.mem_cons_of_mem _ hy)
    have hLr : ∀ y ∈ r, y < 0 → scan sg 1 (L (vr y)) = some (L (vr y)).length := fun y hy => hL y (List.mem_cons_of_mem _ hy)
    have hx0 : -24 ≤ x := hx x (List.mem_cons_self ..)
    rw [fill_cons, List.append_assoc] at h
    by_cases h2 : 0 ≤ x
    · rw [rep_sym h2] at h
      have hk : k < t.length := by
        by_cases hk : k < t.length
        · exact hk
        · rw [List.drop_eq_nil_of_le (by omega)] at h; cases h
      rw [drop_cons hk] at h
      injection h with e1 e2
      obtain ⟨s', m1, m2, m3⟩ := ih e2 hl hr hLr hc
      exact ⟨s', by rw [mst_sym (by omega) h2 e1.symm]; exact m1, m2, fun y hy h0 => by
        rcases List.mem_cons.1 hy with rfl | hy
        · omega
        · exact m3 y hy h0⟩
    · rw [rep_var (by omega)] at h
      change t.drop k = L (vr x) ++ (fillL L r ++ rest) at h
      have hsc := hL x (List.mem_cons_self ..) (by omega)
      have hpos := scan_pos (q := 0) hsc
      have hk : k < t.length := by
        by_cases hk : k < t.length
        · exact hk
        · rw [List.drop_eq_nil_of_le (by omega)] at h
          have := congrArg List.length h
          simp only [List.length_nil, List.length_append] at this
          omega
      have hsub : subL sg t k = L (vr x) := by
        unfold subL
        have e : len1 sg t k = (L (vr x)).length := len1_eq (by rw [h]; exact scan_append hsc)
        rw [e, h, List.take_left' rfl]
      have hnext : t.drop (k + (subL sg t k).length) = fillL L r ++ rest := by rw [← List.drop_drop, h, hsub, List.drop_left' rfl]
      have hno : ¬ ((s.getD (vr x) []).length ≠ 0 ∧ s.getD (vr x) [] ≠ subL sg t k) := fun ⟨g1, g2⟩ => g2 (by rw [hsub]; exact hc _ g1)
      have hl' : (s.set (vr x) (subL sg t k)).length = 24 := by rw [List.length_set]; exact hl
      obtain ⟨s', m1, m2, m3⟩ := ih hnext hl' hr hLr (fun i hi => by
        rw [set_get] at hi ⊢
        split
        · rename_i hcc; rw [hsub, ← hcc.1]
        · rename_i hcc; rw [if_neg hcc] at hi; exact hc i hi)
      refine ⟨s', by rw [mst_var (by omega) h2 hno]; exact m1, m2, fun y hy h0 => ?_⟩
      rcases List.mem_cons.1 hy with rfl | hy
      · have hg : (s.set (vr y) (subL sg t k)).getD (vr y) [] = L (vr y) := by rw [set_get, if_pos ⟨rfl, by rw [hl]; exact vr_lt h2 hx0⟩, hsub]
        rw [(mst_ext m1 hl' hr).2 (vr y) (by rw [hg]; omega), hg]
      · exact m3 y hy h0

def s0 : List (List Int) := List.replicate 24 []
theorem s0_get (i : Nat) : s0.getD i [] = [] := by
  unfold s0
  rw [List.getD_eq_getElem?_getD, List.getElem?_replicate]
  split <;> rfl
def matchO (sg p t : List Int) : Option (List (List Int)) := if (termOkB sg p && termOkB sg t) = true then mst sg t p 0 s0 else none
def instB (sg p t : List Int) : Bool := (matchO sg p t).isSome
theorem match_yes {sg p t : List Int} (h1 : termOkB sg p = true) (h2 : termOkB sg t = true) : matchO sg p t = mst sg t p 0 s0 := by unfold matchO; rw [if_pos (by rw [h1, h2]; rfl)]
theorem match_no {sg p t : List Int} (h : termOkB sg p = false ∨ termOkB sg t = false) : matchO sg p t = none := by
  unfold matchO
  rw [if_neg]
  rcases h with h | h <;> rw [h] <;> simp
theorem inst_no {sg p t : List Int} (h : termOkB sg p = false ∨ termOkB sg t = false) : instB sg p t = false := by unfold instB; rw [match_no h]; rfl
theorem inst_ok {sg p t : List Int} (h : instB sg p t = true) : termOkB sg p = true ∧ termOkB sg t = true := by
  cases h1 : termOkB sg p with
  | false => rw [inst_no (.inl h1)] at h; cases h
  | true =>
    cases h2 : termOkB sg t with
    | false => rw [inst_no (.inr h2)] at h; cases h
    | true => exact ⟨rfl, rfl⟩
/-- a substitution that turns p into t -/
def Turns (sg p t : List Int) (L : Nat → List Int) : Prop := fillL L p = t ∧ ∀ x ∈ p, x < 0 → scan sg 1 (L (vr x)) = some (L (vr x)).length
theorem match_turns {sg p t : List Int} {s' : List (List Int)} (h : matchO sg p t = some s') : s'.length = 24 ∧ Turns sg p t (fun i => s'.getD i []) := by
  have h12 : termOkB sg p = true ∧ termOkB sg t = true := inst_ok (by unfold instB; rw [h]; rfl)
  obtain ⟨h1, h2⟩ := h12
  rw [match_yes h1 h2] at h
  have hx : ∀ x ∈ p, -24 ≤ x := fun x hx => (term_mem h1 hx).1
  obtain ⟨⟨rest, e⟩, hv⟩ := mst_sound h2 h (by rfl) hx
  refine ⟨(mst_ext h (by rfl) hx).1, ?_, hv⟩
  rw [List.drop_zero] at e
  have hs := scan_fill (L := fun i => s'.getD i []) (term_parts h1).2.2 hv
  have hs2 := scan_append (r := rest) hs
  rw [← e, (term_parts h2).2.2] at hs2
  injection hs2 with hs2
  have hl := congrArg List.length e
  rw [List.length_append] at hl
  have hr : rest = [] := List.eq_nil_of_length_eq_zero (by omega)
  rw [e, hr, List.append_nil]
theorem turns_match {sg p t : List Int} {L : Nat → List Int} (h1 : termOkB sg p = true) (h2 : termOkB sg t = true) (h : Turns sg p t L) : ∃ s', matchO sg p t = some s' ∧ ∀ x ∈ p, x < 0 → s'.getD (vr x) [] = L (vr x) := by
  rw [match_yes h1 h2]
  obtain ⟨s', m1, _, m3⟩ := mst_full (sg := sg) (t := t) (L := L) (p := p) (k := 0) (s := s0) (rest := []) (by rw [List.drop_zero, List.append_nil, h.1]) (by rfl) (fun x hx => (term_mem h1 hx).1) h.2 (fun i hi => by rw [s0_get] at hi; exact absurd rfl hi)
  exact ⟨s', m1, m3⟩
theorem inst_iff {sg p t : List Int} (h1 : termOkB sg p = true) (h2 : termOkB sg t = true) : instB sg p t = true ↔ ∃ L, Turns sg p t L := by
  constructor
  · intro h
    unfold instB at h
    obtain ⟨s', hs⟩ := Option.isSome_iff_exists.1 h
    exact ⟨_, (match_turns hs).2⟩
  · rintro ⟨L, h⟩
    obtain ⟨s', hs, _⟩ := turns_match h1 h2 h
    unfold instB
    rw [hs]; rfl
theorem rep_mem {L : Nat → List Int} : ∀ {p : List Int} {x y : Int}, x ∈ p → x < 0 → y ∈ L (vr x) → y ∈ fillL L p
  | z :: r, x, y, hx, h0, hy => by
    rw [fill_cons]
    rcases List.mem_cons.1 hx with rfl | hx
    · exact List.mem_append_left _ (by rw [rep_var h0]; exact hy)
    · exact List.mem_append_right _ (rep_mem hx h0 hy)
theorem turns_trans {sg p q t : List Int} {L M : Nat → List Int} (h : Turns sg p q L) (h' : Turns sg q t M) : Turns sg p t (fun i => fillL M (L i)) := by
  refine ⟨by rw [← fill_fill, h.1, h'.1], fun x hx h0 => ?_⟩
  refine scan_fill (h.2 x hx h0) (fun y hy hy0 => ?_)
  exact h'.2 y (by rw [← h.1]; exact rep_mem hx h0 hy) hy0
theorem inst_trans {sg p q t : List Int} (h : instB sg p q = true) (h' : instB sg q t = true) : instB sg p t = true := by
  obtain ⟨h1, h2⟩ := inst_ok h
  obtain ⟨_, h3⟩ := inst_ok h'
  obtain ⟨L, hL⟩ := (inst_iff h1 h2).1 h
  obtain ⟨M, hM⟩ := (inst_iff h2 h3).1 h'
  exact (inst_iff h1 h3).2 ⟨_, turns_trans hL hM⟩
theorem fill_vt : ∀ p : List Int, fillL vt p = p
  | [] => rfl
  | x :: r => by
    rw [fill_cons, fill_vt r]
    by_cases h : 0 ≤ x
    · rw [rep_sym h]; rfl
    · rw [rep_var (by omega)]
      show [-1 - (((-1 - x).toNat : Nat) : Int)] ++ r = x :: r
      rw [show (-1 - (((-1 - x).toNat : Nat) : Int) : Int) = x by omega]
      rfl
theorem scan_one {sg : List Int} {y : Int} (h : -24 ≤ y ∧ y ≤ -1) : scan sg 1 [y] = some [y].length := by
  rw [scan_step (by rw [ar_var h]; omega), ar_var h]
  rfl
theorem inst_refl {sg p : List Int} (h : termOkB sg p = true) : instB sg p p = true :=
  (inst_iff h h).2 ⟨vt, fill_vt p, fun x hx h0 => by
    have := (term_mem h hx).1
    exact scan_one (by unfold vr; omega)⟩
/-- variants: the one's variables in the place of the other one's -/
theorem ren_pair {oa ob : List Int} : ∀ {l l' : List Int}, l.map (ren oa) = l'.map (ren ob) → (∀ y ∈ l', y < 0 → y ∈ ob) → fillL (fun i => [ob.getD (idx oa (-1 - (i : Int))) 0]) l = l' ∧ ∀ x ∈ l, x < 0 → ∃ y ∈ l', y < 0 ∧ ob.getD (idx oa x) 0 = y
  | [], [], _, _ => ⟨rfl, fun _ h => absurd h (List.not_mem_nil)⟩
  | [], _ :: _, h, _ => by cases h
  | _ :: _, [], h, _ => by cases h
  | x :: l, y :: l', h, hm => by
    rw [List.map_cons, List.map_cons] at h
    injection h with e1 e2
    obtain ⟨f1, f2⟩ := ren_pair e2 (fun z hz => hm z (List.mem_cons_of_mem _ hz))
    by_cases hx : x < 0
    · have hy : y < 0 := by
        by_cases hy : y < 0
        · exact hy
        · unfold ren at e1; rw [if_pos hx, if_neg hy] at e1; omega
      have hi : idx oa x = idx ob y := by unfold ren at e1; rw [if_pos hx, if_pos hy] at e1; omega
      have hg : ob.getD (idx oa x) 0 = y := by rw [hi]; exact idx_get (hm y (List.mem_cons_self ..) hy)
      refine ⟨?_, fun z hz h0 => ?_⟩
      · rw [fill_cons, f1, rep_var hx]
        show [ob.getD (idx oa (-1 - ((-1 - x).toNat : Int))) 0] ++ l' = y :: l'
        rw [show (-1 - ((-1 - x).toNat : Int) : Int) = x by omega, hg]
        rfl
      · rcases List.mem_cons.1 hz with rfl | hz
        · exact ⟨y, List.mem_cons_self .., hy, hg⟩
        · obtain ⟨y', g1, g2⟩ := f2 z hz h0
          exact ⟨y', List.mem_cons_of_mem _ g1, g2⟩
    · have hy : ¬ y < 0 := by
        intro hy
        unfold ren at e1; rw [if_neg hx, if_pos hy] at e1; omega
      have e : x = y := by unfold ren at e1; rwa [if_neg hx, if_neg hy] at e1
      refine ⟨?_, fun z hz h0 => ?_⟩
      · rw [fill_cons, f1, rep_sym (by omega), e]; rfl
      · rcases List.mem_cons.1 hz with rfl | hz
        · exact absurd h0 hx
        · obtain ⟨y', g1, g2⟩ := f2 z hz h0
          exact ⟨y', List.mem_cons_of_mem _ g1, g2⟩
theorem inst_variant {sg a b : List Int} (h1 : termOkB sg a = true) (h2 : termOkB sg b = true) (h : renL a = renL b) : instB sg a b = true := by
  unfold renL at h
  obtain ⟨f1, f2⟩ := ren_pair h (fun y hy h0 => order_mem.2 ⟨hy, h0⟩)
  refine (inst_iff h1 h2).2 ⟨_, f1, fun x hx h0 => ?_⟩
  obtain ⟨y, g1, g2, g3⟩ := f2 x hx h0
  show scan sg 1 [(orderL b).getD (idx (orderL a) (-1 - ((vr x : Nat) : Int))) 0] = some _
  rw [show (-1 - ((vr x : Nat) : Int) : Int) = x by unfold vr; omega, g3]
  exact scan_one ⟨(term_mem h2 g1).1, by omega⟩

/-- more general -/
def moreB (sg a b : List Int) : Bool := instB sg a b && !instB sg b a
theorem more_parts {sg a b : List Int} (h : moreB sg a b = true) : instB sg a b = true ∧ instB sg b a = false := by
  unfold moreB at h
  simpa using h
theorem more_trans {sg a b c : List Int} (h : instB sg a b = true) (h' : moreB sg b c = true) : moreB sg a c = true := by
  obtain ⟨g1, g2⟩ := more_parts h'
  have e1 := inst_trans h g1
  have e2 : instB sg c a = false := by
    cases e : instB sg c a with
    | false => rfl
    | true => rw [inst_trans e h] at g2; cases g2
  unfold moreB
  rw [e1, e2]; rfl
theorem more_irrefl {sg a : List Int} : moreB sg a a = false := by
  unfold moreB
  cases instB sg a a <;> rfl
/-- nothing in the list is more general than i, and no earlier one is a variant -/
def bestB (sg : List Int) (ps : List (List Int)) (i : Nat) : Bool := (List.range ps.length).all fun k => !(moreB sg (ps.getD k []) (ps.getD i []) || (decide (k < i) && (termOkB sg (ps.getD k []) && (termOkB sg (ps.getD i []) && decide (renL (ps.getD k []) = renL (ps.getD i []))))))
theorem best_yes {sg : List Int} {ps : List (List Int)} {i : Nat} (h : ∀ k, k < ps.length → moreB sg (ps.getD k []) (ps.getD i []) = false ∧ (k < i → renL (ps.getD k []) ≠ renL (ps.getD i []))) : bestB sg ps i = true := by
  unfold bestB
  rw [List.all_eq_true]
  intro k hk
  rw [List.mem_range] at hk
  obtain ⟨h1, h2⟩ := h k hk
  rw [h1]
  by_cases hki : k < i
  · rw [decide_eq_false (h2 hki)]; simp
  · rw [decide_eq_false hki]; simp
/-- how many are more general -/
def manyMore (sg : List Int) (ps : List (List Int)) (i : Nat) : Nat := (List.range ps.length).countP fun k => moreB sg (ps.getD k []) (ps.getD i [])
theorem count_less {l : List Nat} {f g : Nat → Bool} (h : ∀ x ∈ l, f x = true → g x = true) {y : Nat} (hy : y ∈ l) (h1 : f y = false) (h2 : g y = true) : l.countP f < l.countP g := by
  induction l with
  | nil => exact absurd hy (List.not_mem_nil)
  | cons a r ih =>
    have hr : ∀ x ∈ r, f x = true → g x = true := fun x hx => h x (List.mem_cons_of_mem _ hx)
    have hle : r.countP f ≤ r.countP g := List.countP_mono_left hr
    rw [List.countP_cons, List.countP_cons]
    rcases List.mem_cons.1 hy with rfl | hy
    · rw [h1, h2]; simp; omega
    · have := ih hr hy
      have ha := h a (List.mem_cons_self ..)
      cases hf : f a with
      | false => cases hg : g a <;> simp <;> omega
      | true => rw [ha hf]; simp; omega
/-- every pattern is an instance of one of the most general ones -/
theorem best_ex {sg : List Int} {ps : List (List Int)} (hok : ∀ k, k < ps.length → termOkB sg (ps.getD k []) = true) : ∀ (n i : Nat), manyMore sg ps i ≤ n → i < ps.length → ∃ k, k < ps.length ∧ bestB sg ps k = true ∧ instB sg (ps.getD k []) (ps.getD i []) = true := by
  intro n
  induction n with
  | zero =>
    intro i hn hi
    have hno : ∀ k, k < ps.length → moreB sg (ps.getD k []) (ps.getD i []) = false := fun k hk => by
      cases e : moreB sg (ps.getD k []) (ps.getD i []) with
      | false => rfl
      | true =>
        have : 0 < manyMore sg ps i := List.countP_pos_iff.2 ⟨k, List.mem_range.2 hk, e⟩
        omega
    -- the first variant of i
    have hfirst : ∀ m, m ≤ i → renL (ps.getD m []) = renL (ps.getD i []) → ∃ k, k ≤ i ∧ renL (ps.getD k []) = renL (ps.getD i []) ∧ ∀ j, j < k → renL (ps.getD j []) ≠ renL (ps.getD i []) := by
      intro m
      induction m using Nat.strongRecOn with
      | ind m ihm =>
        intro hm he
        by_cases hx : ∃ j, j < m ∧ renL (ps.getD j []) = renL (ps.getD i [])
        · obtain ⟨j, j1, j2⟩ := hx
          exact ihm j j1 (by omega) j2
        · exact ⟨m, hm, he, fun j hj e => hx ⟨j, hj, e⟩⟩
    obtain ⟨k, k1, k2, k3⟩ := hfirst i (Nat.le_refl _) rfl
    have hkn : k < ps.length := by omega
    have hki := inst_variant (hok k hkn) (hok i hi) k2
    refine ⟨k, hkn, best_yes (fun j hj => ⟨?_, fun hjk e => k3 j hjk (e.trans k2)⟩), hki⟩
    cases e : moreB sg (ps.getD j []) (ps.getD k []) with
    | false => rfl
    | true =>
      obtain ⟨g1, g2⟩ := more_parts e
      have hik := inst_variant (hok i hi) (hok k hkn) k2.symm
      have := hno j hj
      have e2 : moreB sg (ps.getD j []) (ps.getD i []) = true := by
        have a1 := inst_trans g1 hki
        have a2 : instB sg (ps.getD i []) (ps.getD j []) = false := by
          cases e3 : instB sg (ps.getD i []) (ps.getD j []) with
          | false => rfl
          | true => rw [inst_trans hki e3] at g2; cases g2
        unfold moreB
        rw [a1, a2]; rfl
      rw [this] at e2; cases e2
  | succ n ih =>
    intro i hn hi
    by_cases hx : ∃ k, k < ps.length ∧ moreB sg (ps.getD k []) (ps.getD i []) = true
    · obtain ⟨k, k1, k2⟩ := hx
      have hlt : manyMore sg ps k < manyMore sg ps i := count_less (fun j _ hj => more_trans (more_parts hj).1 k2) (List.mem_range.2 k1) more_irrefl k2
      obtain ⟨m, m1, m2, m3⟩ := ih k (by omega) k1
      exact ⟨m, m1, m2, inst_trans m3 (more_parts k2).1⟩
    · refine ih i ?_ hi
      have : manyMore sg ps i = 0 := by
        unfold manyMore
        rw [List.countP_eq_zero]
        intro k hk e
        exact hx ⟨k, List.mem_range.1 hk, e⟩
      omega
end Go.Proofs.Ytfkgiimcnlagmaa.matchMath
end

section
/-
  PLAIN MATHEMATICS for laws.FnPut: a term with a replaced subterm is a term, the subterm is found at its place, and what lies apart from it is found by the same path. Conditions: none. By an AI agent.
-/
namespace Go.Proofs.Ytfkgiimcnlagmaa.putMath
open Go.Proofs.Ytfkgiimcnlagmaa.sig Go.Proofs.Ytfkgiimcnlagmaa.term Go.Proofs.Ytfkgiimcnlagmaa.termOk Go.Proofs.Ytfkgiimcnlagmaa.termFacts Go.Proofs.Ytfkgiimcnlagmaa.endAt Go.Proofs.Ytfkgiimcnlagmaa.sub Go.Proofs.Ytfkgiimcnlagmaa.args Go.Proofs.Ytfkgiimcnlagmaa.depth Go.Proofs.Ytfkgiimcnlagmaa.termMath Go.Proofs.Ytfkgiimcnlagmaa.posMath

/-- the numbers from place a on, i of them, replaced by u -/
def putL (t : List Int) (a i : Nat) (u : List Int) : List Int := t.take a ++ (u ++ t.drop (a + i))
theorem scan_u {sg u r : List Int} (hu : scan sg 1 u = some u.length) : scan sg 1 (u ++ r) = some u.length := scan_append hu
theorem scan_put {sg u : List Int} (hu : scan sg 1 u = some u.length) : ∀ {a q j i : Nat} {l : List Int}, scan sg q l = some j → a < j → scan sg 1 (l.drop a) = some i → i ≤ j - a ∧ scan sg q (putL l a i u) = some (j - i + u.length) := by
  intro a
  induction a with
  | zero =>
    intro q j i l h ha hi
    cases q with
    | zero => rw [scan_zero] at h; injection h; omega
    | succ q =>
      obtain ⟨i', _, s1, s2⟩ := scan_split (p := 1) (q := q) (by rw [Nat.add_comm]; exact h)
      rw [List.drop_zero] at hi
      rw [hi] at s1
      injection s1 with s1
      subst s1
      have hx := scan_cat hu s2
      refine ⟨by omega, ?_⟩
      unfold putL
      rw [List.take_zero, List.nil_append, Nat.zero_add, Nat.add_comm q 1, hx]
      congr 1
      omega
  | succ a ih =>
    intro q j i l h ha hi
    cases q with
    | zero => rw [scan_zero] at h; injection h; omega
    | succ q =>
      cases l with
      | nil => rw [scan_nil] at h; cases h
      | cons x l =>
        by_cases hx : ar sg x < 0
        · rw [scan_bad hx] at h; cases h
        · rw [scan_step hx] at h
          obtain ⟨j', hj', rfl⟩ := Option.map_eq_some_iff.1 h
          rw [List.drop_succ_cons] at hi
          obtain ⟨e1, e2⟩ := ih hj' (by omega) hi
          refine ⟨by omega, ?_⟩
          have e3 : putL (x :: l) (a + 1) i u = x :: putL l a i u := by
            unfold putL
            rw [List.take_succ_cons, show a + 1 + i = (a + i) + 1 by omega, List.drop_succ_cons]
            rfl
          rw [e3, scan_step hx, e2]
          simp only [Option.map_some]
          congr 1
          omega
/-- where a place goes to -/
def mv (a i n r : Nat) : Nat := if r ≤ a then r else r - i + n

section
variable {sg t u : List Int} {a : Nat}
theorem put_len (hok : termOkB sg t = true) (ha : a < t.length) : (putL t a (len1 sg t a) u).length = t.length - len1 sg t a + u.length := by
  have := term_at hok ha
  unfold putL
  simp only [List.length_append, List.length_take, List.length_drop]
  omega
theorem put_term (hok : termOkB sg t = true) (hu : termOkB sg u = true) (ha : a < t.length) (h60 : (putL t a (len1 sg t a) u).length ≤ 60) : termOkB sg (putL t a (len1 sg t a) u) = true := by
  obtain ⟨h1, h2, h3⟩ := term_parts hok
  refine term_mk h1 h60 ?_
  have := (scan_put (term_parts hu).2.2 h3 ha (term_at hok ha).1).2
  rw [this, put_len hok ha]
theorem drop_at (ha : a ≤ t.length) (i : Nat) : (putL t a i u).drop a = u ++ t.drop (a + i) := by
  unfold putL
  rw [List.drop_append_of_le_length (by simp; omega), List.drop_of_length_le (by simp; omega), List.nil_append]
theorem put_sub (hu : termOkB sg u = true) (ha : a ≤ t.length) (i : Nat) : len1 sg (putL t a i u) a = u.length ∧ subL sg (putL t a i u) a = u := by
  have h : scan sg 1 ((putL t a i u).drop a) = some u.length := by rw [drop_at ha]; exact scan_append (term_parts hu).2.2
  have e := len1_eq h
  refine ⟨e, ?_⟩
  unfold subL
  rw [e, drop_at ha, List.take_left']
  rfl
theorem put_back (hok : termOkB sg t = true) (ha : a < t.length) : putL (putL t a (len1 sg t a) u) a u.length (subL sg t a) = t := by
  have h := term_at hok ha
  have e1 : (putL t a (len1 sg t a) u).take a = t.take a := by
    unfold putL
    rw [List.take_append_of_le_length (by simp; omega), List.take_take, Nat.min_self]
  have e2 : (putL t a (len1 sg t a) u).drop (a + u.length) = t.drop (a + len1 sg t a) := by
    rw [← List.drop_drop, drop_at (by omega), List.drop_left']
    rfl
  unfold putL at e1 e2 ⊢
  rw [e1, e2]
  unfold subL
  rw [← List.drop_drop, List.take_append_drop, List.take_append_drop]

theorem drop_low {p : Nat} (hp : p ≤ a) (ha : a ≤ t.length) (i : Nat) : (putL t a i u).drop p = putL (t.drop p) (a - p) i u := by
  unfold putL
  rw [List.drop_append_of_le_length (by simp; omega), List.drop_take, List.drop_drop, show p + (a - p + i) = a + i by omega]
theorem drop_high {p : Nat} (hp : a + len1 sg t a ≤ p) (hok : termOkB sg t = true) (ha : a < t.length) : (putL t a (len1 sg t a) u).drop (p - len1 sg t a + u.length) = t.drop p := by
  rw [show p - len1 sg t a + u.length = a + (u.length + (p - (a + len1 sg t a))) by omega, ← List.drop_drop, drop_at (by omega), ← List.drop_drop, List.drop_left' rfl, List.drop_drop]
  congr 1
  omega
/-- not strictly inside -/
def Out (sg t : List Int) (a r : Nat) : Prop := r ≤ a ∨ a + len1 sg t a ≤ r
theorem put_row (hok : termOkB sg t = true) (hu : termOkB sg u = true) (ha : a < t.length) {p j : Nat} (hp : Out sg t a p) (hs : scan sg 1 (t.drop p) = some j) :
    scan sg 1 ((putL t a (len1 sg t a) u).drop (mv a (len1 sg t a) u.length p)) = some (mv a (len1 sg t a) u.length (p + j) - mv a (len1 sg t a) u.length p) ∧ mv a (len1 sg t a) u.length p ≤ mv a (len1 sg t a) u.length (p + j) ∧ Out sg t a (p + j) := by
  have hA := term_at hok ha
  have hU := (term_parts hu).2.2
  have hj := scan_pos (q := 0) hs
  unfold Out at hp ⊢
  unfold mv
  rcases hp with hp | hp
  · rcases Nat.lt_or_ge p a with hlt | hge
    · rw [if_pos hp]
      by_cases hin : p + j ≤ a
      · rw [if_pos hin, drop_low hp (by omega)]
        refine ⟨?_, by omega, .inl hin⟩
        rw [show p + j - p = j by omega]
        refine scan_same hs ?_
        unfold putL
        rw [List.take_append_of_le_length (by simp; have := scan_le hs; simp at this; omega), List.take_take, Nat.min_eq_left (by omega)]
      · rw [if_neg hin, drop_low hp (by omega)]
        have hd : scan sg 1 ((t.drop p).drop (a - p)) = some (len1 sg t a) := by rw [List.drop_drop, show p + (a - p) = a by omega]; exact hA.1
        obtain ⟨e1, e2⟩ := scan_put hU hs (show a - p < j by omega) hd
        refine ⟨?_, by omega, .inr (by omega)⟩
        rw [e2]
        congr 1
        omega
    · obtain rfl : p = a := by omega
      rw [hA.1] at hs
      injection hs with hs
      subst hs
      rw [if_pos (Nat.le_refl _), if_neg (by omega), drop_at (by omega)]
      refine ⟨?_, by omega, .inr (Nat.le_refl _)⟩
      rw [scan_append hU]
      congr 1
      omega
  · rw [if_neg (by omega), if_neg (by omega), drop_high hp hok ha]
    refine ⟨?_, by omega, .inr (by omega)⟩
    rw [hs]
    congr 1
    omega
theorem put_args (hok : termOkB sg t = true) (hu : termOkB sg u = true) (ha : a < t.length) : ∀ {k q p i : Nat}, Out sg t a p → scan sg q (t.drop p) = some i → k ≤ q →
    argP sg (putL t a (len1 sg t a) u) k (mv a (len1 sg t a) u.length p) = mv a (len1 sg t a) u.length (argP sg t k p) ∧ Out sg t a (argP sg t k p) := by
  intro k
  induction k with
  | zero => intro q p i hp _ _; exact ⟨rfl, hp⟩
  | succ k ih =>
    intro q p i hp hs hk
    obtain ⟨q, rfl⟩ : ∃ q', q = q' + 1 := ⟨q - 1, by omega⟩
    obtain ⟨j, e1, e2, e3, e4⟩ := scan_first hs
    obtain ⟨r1, r2, r3⟩ := put_row (u := u) hok hu ha hp e1
    have hj := len1_eq e1
    have hl := len1_eq r1
    obtain ⟨g1, g2⟩ := ih r3 e4 (by omega)
    have ea : argP sg t (k + 1) p = argP sg t k (p + j) := by show argP sg t k (p + len1 sg t p) = _; rw [hj]
    rw [ea]
    refine ⟨?_, g2⟩
    rw [← g1]
    show argP sg _ k (mv a (len1 sg t a) u.length p + len1 sg _ (mv a (len1 sg t a) u.length p)) = _
    rw [hl]
    congr 1
    omega
theorem put_head (hok : termOkB sg t = true) (ha : a < t.length) {r : Nat} (hr : r < a ∨ a + len1 sg t a ≤ r) : (putL t a (len1 sg t a) u).getD (mv a (len1 sg t a) u.length r) 0 = t.getD r 0 := by
  have hA := term_at hok ha
  unfold mv
  rcases hr with hr | hr
  · rw [if_pos (by omega)]
    unfold putL
    simp only [List.getD_eq_getElem?_getD]
    rw [List.getElem?_append_left (by simp; omega), List.getElem?_take, if_pos hr]
  · rw [if_neg (by omega)]
    have h0 := congrArg (fun l => l[0]?) (drop_high (u := u) hr hok ha)
    simp only [List.getElem?_drop, Nat.add_zero] at h0
    simp only [List.getD_eq_getElem?_getD, h0]
/-- the same path leads on to where a place apart has gone -/
theorem put_walk (hok : termOkB sg t = true) (hu : termOkB sg u = true) (ha : a < t.length) {p : Nat} (hp : p < a ∨ a + len1 sg t a ≤ p) (hpt : p < t.length) {r : Nat} {ab pa : List Int} (hw : Trail sg t p r ab pa) :
    Out sg t a r → walkI sg (putL t a (len1 sg t a) u) (mv a (len1 sg t a) u.length r) pa = (mv a (len1 sg t a) u.length p : Int) := by
  induction hw with
  | here => intro _; rfl
  | @down r k ab pa h1 h2 h3 h4 h5 h6 hw ih =>
    intro hr
    have hA := term_at hok ha
    unfold Out at hr
    have hr' : r < a ∨ a + len1 sg t a ≤ r := by
      rcases hr with hr | hr
      · by_cases e : r = a
        · subst e; exfalso; omega
        · exact .inl (by omega)
      · exact .inr hr
    have hh := put_head (u := u) hok ha hr'
    have hm : mv a (len1 sg t a) u.length (r + 1) = mv a (len1 sg t a) u.length r + 1 := by
      unfold mv
      rcases hr' with h | h
      · rw [if_pos (by omega), if_pos (by omega)]
      · rw [if_neg (by omega), if_neg (by omega)]; omega
    obtain ⟨_, i, e, hs⟩ := head_scan hok (show r < t.length by omega)
    obtain ⟨g1, g2⟩ := put_args (u := u) hok hu ha (p := r + 1) (by unfold Out; omega) hs (Nat.le_of_lt h2)
    rw [walk_step (by unfold arN at h2 ⊢; rw [hh]; exact h2), ← hm, g1]
    exact ih g2
theorem sub_drop {X : List Int} {q p : Nat} (e : X.drop q = t.drop p) : subL sg X q = subL sg t p := by
  unfold subL len1
  rw [e]
/-- what lies apart is unchanged -/
theorem put_apart (hok : termOkB sg t = true) (hu : termOkB sg u = true) (ha : a < t.length) {p : Nat} (hpt : p < t.length) (hp : p + len1 sg t p ≤ a ∨ a + len1 sg t a ≤ p) :
    subL sg (putL t a (len1 sg t a) u) (mv a (len1 sg t a) u.length p) = subL sg t p ∧ mv a (len1 sg t a) u.length p < (putL t a (len1 sg t a) u).length := by
  have hA := term_at hok ha
  have hP := term_at hok hpt
  have hU := term_len hu
  unfold mv
  rw [put_len hok ha]
  rcases hp with hp | hp
  · rw [if_pos (by omega)]
    refine ⟨?_, by omega⟩
    have et : ((putL t a (len1 sg t a) u).drop p).take (len1 sg t p) = (t.drop p).take (len1 sg t p) := by
      rw [drop_low (by omega) (by omega)]
      unfold putL
      rw [List.take_append_of_le_length (by simp; omega), List.take_take, Nat.min_eq_left (by omega)]
    have hs := scan_same hP.1 et.symm
    unfold subL
    rw [len1_eq hs, et]
  · rw [if_neg (by omega)]
    refine ⟨?_, by omega⟩
    exact sub_drop (drop_high (u := u) hp hok ha)
end
end Go.Proofs.Ytfkgiimcnlagmaa.putMath
end

section
/-
  CONTRACTS on slices of slices of int64 and on substitutions: the laws' helpers szInt64SS, toInt64SS, eqInt64SS, markInt64SS, heldInt64SS and those for Subst. Conditions: the slices read as lists of lists ('Segs'), at most 1048576 slices of at most 1048576 numbers. By an AI agent.
-/
namespace Go.Proofs.Ytfkgiimcnlagmaa.segsHelp
open Go.RowKit Go.Proofs.Ytfkgiimcnlagmaa.base Go.Proofs.Ytfkgiimcnlagmaa.ints Go.Proofs.Ytfkgiimcnlagmaa.sig Go.Proofs.Ytfkgiimcnlagmaa.cursor Go.Proofs.Ytfkgiimcnlagmaa.marks Go.Proofs.Ytfkgiimcnlagmaa.app Go.Proofs.Ytfkgiimcnlagmaa.sym Go.Proofs.Ytfkgiimcnlagmaa.appAt Go.Proofs.Ytfkgiimcnlagmaa.segs
set_option maxRecDepth 100000

theorem info_list : (Try.prog.info? 24).map (fun i => (i.zero, i.size, i.bytes)) = some (some (.slice none 0 0), 1, 24) := by kernel_rfl

/-- make([][]int64, n) -/
theorem run_make_lists (n : Nat) (hn : n ≤ 1048576) (W : World) : (Instr.makeSlice 109 (.int .i64 (n : Int)) (.int .i64 (n : Int))).run Try.prog W =
    .ok (.slice (some ⟨W.heap.size, 0, none⟩) n n) (W.alloc (.cells (madeCells #[.slice none 0 0] n) 24)) := by
  obtain ⟨i0, hi, hz0, hz1, hz2⟩ := info_parts info_list
  have hr := run_make (P := Try.prog) W 109 24 i0 _ Try.underlying109 hi hz0 .i64 .i64 n n (by omega) (by omega) (by rw [hz2]; omega) (by omega)
  simpa [hz1, Value.cells] using hr

/-! ### toInt64SS -/
/-- the first k slices are copied -/
def HeadTo (w : World) (n : Nat) (xss : List (List Int)) (i : Value) (wr : World) : Prop :=
  ∃ (k : Nat) (cs : Array Value), k ≤ n ∧ i = .int .i64 k ∧ Row wr w.heap.size 24 cs ∧ cs.size = n ∧ (∀ j, j < k → Inn wr (w.heap.size + 1) wr.heap.size (cs.toList.getD j undef) (xss.getD j [])) ∧ Apart k cs.toList ∧ Below w.heap.size w wr
theorem headTo_step {w wr w1 : World} {n k m : Nat} {xss : List (List Int)} {cs cs1 : Array Value} (hk : k < n) (hr : Row wr w.heap.size 24 cs) (hs : cs.size = n)
    (hi : ∀ j, j < k → Inn wr (w.heap.size + 1) wr.heap.size (cs.toList.getD j undef) (xss.getD j [])) (ha : Apart k cs.toList) (hb : Below w.heap.size w wr)
    (hm : (xss.getD k []).length = m) (h2 : m ≤ 9223372036854775807) (r1 : Row w1 wr.heap.size 2 cs1) (s1 : cs1.size = m) (c1 : ∀ j, j < m → cs1[j]? = some (.int .i64 ((xss.getD k []).getD j 0))) (bb : Below wr.heap.size wr w1) :
    HeadTo w n xss (.int .i64 ((k : Int) + 1)) (w1.setCell ⟨w.heap.size, k, none⟩ (.slice (some ⟨wr.heap.size, 0, none⟩) m m)) := by
  obtain ⟨v, hv⟩ : ∃ v, v = Value.slice (some ⟨wr.heap.size, 0, none⟩) m m := ⟨_, rfl⟩
  have hz := hr.lt
  have hr1 := hr.next bb
  have hg : w1.grownBy (w1.setCell ⟨w.heap.size, k, none⟩ v) (some w.heap.size) := grown_put (World.grownBy.refl _ _) _ _
  have hin : Inn w1 wr.heap.size w1.heap.size v (xss.getD k []) := by
    refine ⟨some ⟨wr.heap.size, 0, none⟩, m, by rw [hv, hm], ?_, fun q hq => ?_⟩
    · rw [hv]
      have := Own.of_row (base := wr.heap.size) (n := m) (c := m) (xs := xss.getD k []) r1 hm s1 (Nat.le_refl _) h2 (Nat.le_refl _) c1
      exact this
    · have : wr.heap.size = q := Option.some.inj hq
      have := r1.lt
      omega
  rw [← hv]
  refine ⟨k + 1, cs.setIfInBounds k v, hk, by simp, hr1.put k v, by simp [hs], fun j hj => ?_, fun i j q hij hj e1 e2 => ?_, ((hb.trans (bb.mono hb.size))).setCell (Nat.le_refl _) _⟩
  · by_cases e : j = k
    · subst e
      have e3 : (cs.setIfInBounds j v).toList.getD j undef = v := by simp [List.getD, hs, hk]
      rw [e3]
      have h5 := (hin.kept hg (.inr (Inn.ne hin hr1)))
      exact Inn.wider h5 (by omega) (by simp)
    · have e3 : (cs.setIfInBounds k v).toList.getD j undef = cs.toList.getD j undef := by
        simp [List.getD, Array.getElem?_setIfInBounds, show ¬ k = j by omega]
      rw [e3]
      have h5 := (hi j (by omega)).next bb
      have h6 := h5.kept hg (.inr (Inn.ne h5 hr1))
      exact Inn.wider h6 (Nat.le_refl _) (by simpa using bb.size)
  · have gi : ∀ i, i < k → (cs.setIfInBounds k v).toList.getD i undef = cs.toList.getD i undef := fun i hi => by
      simp [List.getD, Array.getElem?_setIfInBounds, show ¬ k = i by omega]
    by_cases e : j = k
    · subst e
      rw [gi i hij] at e1
      have e3 : (cs.setIfInBounds j v).toList.getD j undef = v := by simp [List.getD, hs, hk]
      rw [e3] at e2
      have h5 := ((hi i hij).blk q e1).2.1
      have h6 := (hin.blk q e2).1
      omega
    · rw [gi i (by omega)] at e1
      rw [gi j (by omega)] at e2
      exact ha i j q hij (by omega) e1 e2

/-- a copy: all of it new -/
def CopySS (w : World) (n : Nat) (xss : List (List Int)) (e : Ending) (w' : World) : Prop :=
  ∃ g, e = .returned (.slice (some ⟨g, 0, none⟩) n n) ∧ Owns w' w.heap.size w'.heap.size (some ⟨g, 0, none⟩) n n xss ∧ w.heap.size < w'.heap.size ∧ Below w.heap.size w w'
theorem copySS_end {w wr : World} {n : Nat} {xss : List (List Int)} {cs : Array Value} (hl : xss.length = n) (hn : n ≤ 1048576) (hr : Row wr w.heap.size 24 cs) (hs : cs.size = n)
    (hi : ∀ j, j < n → Inn wr (w.heap.size + 1) wr.heap.size (cs.toList.getD j undef) (xss.getD j [])) (ha : Apart n cs.toList) (hb : Below w.heap.size w wr) : CopySS w n xss (.returned (.slice (some ⟨w.heap.size, 0, none⟩) n n)) wr := by
  have e : cs.toList.take n = cs.toList := List.take_of_length_le (by simp [hs])
  refine ⟨w.heap.size, rfl, ⟨hl, ⟨cs.toList, by rw [← e]; exact rowsOf hr hs (Nat.le_refl _) (by omega) (Nat.le_refl _), fun j hj => (hi j hj).wider (by omega) (Nat.le_refl _), ha⟩, fun k hk => ?_⟩, hr.lt, hb⟩
  have : w.heap.size = k := Option.some.inj hk
  have := hr.lt
  omega

/-! ### szInt64SS -/
/-- how many values: the slices and their numbers -/
def sumL (xss : List (List Int)) (k : Nat) : Nat := ((xss.take k).map List.length).sum
def tot (xss : List (List Int)) : Nat := xss.length + sumL xss xss.length
theorem sumL_succ {xss : List (List Int)} {k : Nat} (h : k < xss.length) : sumL xss (k + 1) = sumL xss k + (xss.getD k []).length := by
  unfold sumL
  rw [List.take_succ_eq_append_getElem h, List.map_append, List.sum_append]
  simp [List.getD, h]
theorem sumL_mono {xss : List (List Int)} : ∀ {k m : Nat}, k ≤ m → m ≤ xss.length → sumL xss k ≤ sumL xss m
  | k, 0, h, _ => by rw [show k = 0 by omega]; exact Nat.le_refl _
  | k, m + 1, h, hm => by
    by_cases e : k = m + 1
    · rw [e]; exact Nat.le_refl _
    · have := sumL_mono (xss := xss) (show k ≤ m by omega) (by omega)
      rw [sumL_succ (by omega)]
      omega
theorem tot_each {xss : List (List Int)} {L : Nat} (h : tot xss ≤ L) : ∀ j, (xss.getD j []).length ≤ L := fun j => by
  by_cases hj : j < xss.length
  · have h1 := sumL_succ hj
    have h2 := sumL_mono (xss := xss) (show j + 1 ≤ xss.length by omega) (Nat.le_refl _)
    unfold tot at h
    omega
  · rw [show xss.getD j [] = [] by simp [List.getD, hj]]
    simp
theorem tot_len {xss : List (List Int)} {L n : Nat} (hl : xss.length = n) (h : tot xss ≤ L) : n ≤ L := by unfold tot at h; omega

def AnsSz (w : World) (left : Int) (t : Nat) (e : Ending) (w' : World) : Prop := w = w' ∧ e = .returned (.int .i64 (if left - t < 0 then -1 else left - t))
def HeadSz (n : Nat) (xss : List (List Int)) (left : Int) (l i : Value) : Prop := ∃ k : Nat, k ≤ n ∧ i = .int .i64 k ∧ l = .int .i64 (left - n - sumL xss k) ∧ 0 ≤ left - n - sumL xss k
theorem sz_bad {w : World} {xss : List (List Int)} {n k m : Nat} {left : Int} (hl : xss.length = n) (hk : k < n) (hm : (xss.getD k []).length = m) (h : left - n - sumL xss k - m < 0) : AnsSz w left (tot xss) (.returned (.int .i64 (-1))) w := by
  refine ⟨rfl, ?_⟩
  have h1 := sumL_succ (xss := xss) (k := k) (by omega)
  have h2 := sumL_mono (xss := xss) (show k + 1 ≤ xss.length by omega) (Nat.le_refl _)
  rw [if_pos (by unfold tot; omega)]
theorem sz_short {w : World} {xss : List (List Int)} {n : Nat} {left : Int} (hl : xss.length = n) (h : left - n < 0) : AnsSz w left (tot xss) (.returned (.int .i64 (-1))) w := ⟨rfl, by rw [if_pos (by unfold tot; omega)]⟩
theorem sz_good {w : World} {xss : List (List Int)} {n k : Nat} {left : Int} (hl : xss.length = n) (hk : k = n) (h : 0 ≤ left - n - sumL xss k) : AnsSz w left (tot xss) (.returned (.int .i64 (left - n - sumL xss k))) w := by
  subst hk
  refine ⟨rfl, ?_⟩
  have e : (left - tot xss : Int) = left - k - sumL xss k := by unfold tot; rw [hl]; omega
  rw [e, if_neg (by omega)]

/-! ### eqInt64SS -/
end Go.Proofs.Ytfkgiimcnlagmaa.segsHelp
end

section
/-
  CONTRACTS on slices of slices of int64 that are the call's own: markInt64SS writes marks into them, heldInt64SS finds them again. Conditions: at most 1048576 values, marks from 0 to 1099511627776. By an AI agent.
-/
namespace Go.Proofs.Ytfkgiimcnlagmaa.segsMark
open Go.RowKit Go.Proofs.Ytfkgiimcnlagmaa.base Go.Proofs.Ytfkgiimcnlagmaa.ints Go.Proofs.Ytfkgiimcnlagmaa.sig Go.Proofs.Ytfkgiimcnlagmaa.cursor Go.Proofs.Ytfkgiimcnlagmaa.marks Go.Proofs.Ytfkgiimcnlagmaa.app Go.Proofs.Ytfkgiimcnlagmaa.sym Go.Proofs.Ytfkgiimcnlagmaa.appAt Go.Proofs.Ytfkgiimcnlagmaa.segs Go.Proofs.Ytfkgiimcnlagmaa.segsHelp
set_option maxRecDepth 100000

/-- what marking leaves -/
def AnsMarkO (w : World) (base : Nat) (A : Option Addr) (n c : Nat) (k : Int) (e : Ending) (w' : World) : Prop :=
  e = .returned (.int .i64 (k + (n : Int))) ∧ w.grownBy w' (blk A) ∧ Own w' base (.slice A n c) (marks k n)

set_option maxHeartbeats 1000000 in
theorem markOwn (base : Nat) (A : Option Addr) (n c : Nat) (xs : List Int) (k : Int) (w : World) (h : Own w base (.slice A n c) xs) (hn : n ≤ 1048576) (hk0 : 0 ≤ k) (hk : k ≤ 1099511627776) :
    Calls Try.prog 32 #[.slice A n c, .int .i64 k] w (AnsMarkO w base A n c k) := by
  have hl := Own.len h
  by_cases h0 : n = 0
  · subst h0
    have hx : xs = [] := List.eq_nil_of_length_eq_zero hl.symm
    subst hx
    have HO := Lib.hid h
    clear h hl
    go_enter Try.func32, Try.ntmps32
    go_wp2
    go_loop [1, 5] (fun kk i => kk = .int .i64 k ∧ i = .int .i64 0) (fun _ _ => 0)
    case atStart => exact ⟨rfl, rfl⟩
    case round =>
      obtain ⟨rfl, rfl⟩ := hrel
      go_wp2
      go_ret
      exact ⟨by simp, World.grownBy.refl _ _, by simpa [marks] using HO.out⟩
  · rcases own_form (n := n) (vs := xs.map (Value.int .i64)) (by rw [hl]; rw [hl] at h; exact h) with ⟨_, e, _⟩ | ⟨g, cs0, rfl, hb, hr0, hnc, hz0, hmax, _, _⟩
    · exact absurd e h0
    have S0 : HeadMark w g n k c (.int .i64 k) (.int .i64 0) w := ⟨0, cs0, Nat.zero_le _, rfl, by simp, hr0, hz0, fun q hq => absurd hq (Nat.not_lt_zero _), World.grownBy.refl _ _⟩
    have HS0 := Lib.hid S0
    clear S0 hz0 hr0 hl h
    go_enter Try.func32, Try.ntmps32
    go_wp2
    go_loopw [1, 5] (fun kk i wr => HeadMark w g n k c kk i wr) (fun _ i _ => n - (intOf i).toNat)
    case atStart => exact HS0.out
    case round =>
      obtain ⟨j, cs, hj, rfl, rfl, hr, hs, hc, hg⟩ := hrel
      clear HS0
      by_cases hlt : j < n
      · have S := Lib.hid (headMark_step (k := k) hlt hnc hr hs hc hg)
        obtain ⟨u, hu⟩ : ∃ u, wr.cell? ⟨g, j, none⟩ = some u := ⟨_, (hr.cell j).trans (Array.getElem?_eq_getElem (by omega))⟩
        have hf : wr.frozen? ⟨g, j, none⟩ = false := hr.free j
        clear hr hs hc hg
        go_wp2
        go_roundw
        case rel => exact S.out
        case measure => simp [intOf]; omega
      · have e : j = n := by omega
        subst e
        have F : AnsMarkO w base (some ⟨g, 0, none⟩) j c k (.returned (.int .i64 (k + (j : Int)))) wr :=
          ⟨rfl, hg, Own.of_row hr (marks_len _ _) hs hnc hmax hb (fun q hq => by rw [marks_get hq]; exact hc q hq)⟩
        have HF := Lib.hid F
        clear F hr hs hc hg
        go_wp2
        go_ret
        exact HF.out

/-- the marks of a list of lists, from k on -/
def marksL (k : Int) (xss : List (List Int)) : List (List Int) := (List.range xss.length).map fun j => marks (k + sumL xss j) (xss.getD j []).length
theorem marksL_get {k : Int} {xss : List (List Int)} {j : Nat} (h : j < xss.length) : (marksL k xss).getD j [] = marks (k + sumL xss j) (xss.getD j []).length := by simp [marksL, List.getD, h]
theorem marksL_len {k : Int} {xss : List (List Int)} : (marksL k xss).length = xss.length := by simp [marksL]

/-- the first j slices are marked -/
def HeadMarkS (w : World) (lo hi : Nat) (A : Option Addr) (n c : Nat) (xss : List (List Int)) (k : Int) (kk i : Value) (wr : World) : Prop :=
  ∃ (j : Nat) (yss : List (List Int)), j ≤ n ∧ i = .int .i64 j ∧ kk = .int .i64 (k + sumL xss j) ∧ Owns wr lo hi A n c yss ∧ (∀ q, (yss.getD q []).length = (xss.getD q []).length) ∧ (∀ q, q < j → yss.getD q [] = marks (k + sumL xss q) (xss.getD q []).length) ∧ Btw lo hi w wr
theorem headMarkS_step {w wr w1 : World} {lo hi : Nat} {A : Option Addr} {n c j m : Nat} {xss yss : List (List Int)} {k : Int} {B : Option Addr} {q : Nat} (hxl : xss.length = n) (hj : j < n) (h : Owns wr lo hi A n c yss)
    (hl : ∀ q, (yss.getD q []).length = (xss.getD q []).length) (hm : ∀ q, q < j → yss.getD q [] = marks (k + sumL xss q) (xss.getD q []).length) (hb : Btw lo hi w wr)
    (hv : ∀ b, A = some ⟨b, 0, none⟩ → wr.cell? ⟨b, j, none⟩ = some (.slice B m q)) (hlen : (xss.getD j []).length = m) (hblk : ∀ k, blk B = some k → lo ≤ k ∧ k < hi)
    (hg : wr.grownBy w1 (blk B)) (ho : Own w1 lo (.slice B m q) (marks (k + sumL xss j) m)) :
    HeadMarkS w lo hi A n c xss k (.int .i64 (k + sumL xss j + m)) (.int .i64 ((j : Int) + 1)) w1 := by
  refine ⟨j + 1, yss.set j (marks (k + sumL xss j) m), hj, by simp, ?_, ?_, fun p => ?_, fun p hp => ?_, hb.trans (Btw.of_grown hg hblk)⟩
  · rw [sumL_succ (by omega), hlen]
    exact congrArg (Value.int .i64) (by omega)
  · refine h.set hj (by rw [blk_own]; exact hg) ho ?_ hv
    rw [marks_len, hl, hlen]
  · by_cases e : j = p
    · subst e
      have : j < yss.length := by rw [h.len]; exact hj
      simp [List.getD, this, marks_len, ← hlen]
    · have e3 : (yss.set j (marks (k + sumL xss j) m)).getD p [] = yss.getD p [] := by simp [List.getD, List.getElem?_set_ne e]
      rw [e3]; exact hl p
  · by_cases e : j = p
    · subst e
      have : j < yss.length := by rw [h.len]; exact hj
      rw [hlen]
      simp [List.getD, this]
    · have e3 : (yss.set j (marks (k + sumL xss j) m)).getD p [] = yss.getD p [] := by simp [List.getD, List.getElem?_set_ne e]
      rw [e3]; exact hm p (by omega)

/-- what marking leaves -/
def AnsMarkS (w : World) (lo hi : Nat) (A : Option Addr) (n c : Nat) (xss : List (List Int)) (k : Int) (e : Ending) (w' : World) : Prop :=
  e = .returned (.int .i64 (k + sumL xss n)) ∧ Owns w' lo hi A n c (marksL k xss) ∧ Btw lo hi w w'
theorem lists_same {a b : List (List Int)} {n : Nat} (ha : a.length = n) (hb : b.length = n) (h : ∀ j, j < n → a.getD j [] = b.getD j []) : a = b := by
  refine List.ext_getElem (by omega) fun j h1 h2 => ?_
  have := h j (by omega)
  simpa [List.getD, h1, h2] using this
theorem markS_end {w wr : World} {lo hi : Nat} {A : Option Addr} {n c j : Nat} {xss yss : List (List Int)} {k : Int} (hxl : xss.length = n) (hj : ¬ j < n) (hj' : j ≤ n) (h : Owns wr lo hi A n c yss)
    (hm : ∀ q, q < j → yss.getD q [] = marks (k + sumL xss q) (xss.getD q []).length) (hb : Btw lo hi w wr) : AnsMarkS w lo hi A n c xss k (.returned (.int .i64 (k + sumL xss j))) wr := by
  have e : j = n := by omega
  subst e
  have e2 : yss = marksL k xss := lists_same h.len (by rw [marksL_len, hxl]) (fun q hq => by rw [hm q hq, marksL_get (by omega)])
  subst e2
  exact ⟨rfl, h, hb⟩

/-- the marks are found again -/
theorem segs_marks {w : World} {A : Option Addr} {n : Nat} {xss : List (List Int)} {k : Int} (h : Segs w w.heap.size A n (marksL k xss)) : xss.length = n := by rw [← marksL_len (k := k)]; exact h.1
end Go.Proofs.Ytfkgiimcnlagmaa.segsMark
end

section
/-
  THE LAWS' HELPERS IN ONE FORM, for each kind of argument (ints, Sig, Subst): copy, compare, mark, find the marks, measure. Used by the walks that gen_exact.py writes. Conditions: at most 1048576 values. By an AI agent.
-/
namespace Go.Proofs.Ytfkgiimcnlagmaa.kinds
open Go.RowKit Go.Proofs.Ytfkgiimcnlagmaa.base Go.Proofs.Ytfkgiimcnlagmaa.ints Go.Proofs.Ytfkgiimcnlagmaa.sig Go.Proofs.Ytfkgiimcnlagmaa.cursor Go.Proofs.Ytfkgiimcnlagmaa.marks Go.Proofs.Ytfkgiimcnlagmaa.app Go.Proofs.Ytfkgiimcnlagmaa.sym Go.Proofs.Ytfkgiimcnlagmaa.appAt Go.Proofs.Ytfkgiimcnlagmaa.segs Go.Proofs.Ytfkgiimcnlagmaa.segsHelp Go.Proofs.Ytfkgiimcnlagmaa.segsMark
set_option maxRecDepth 100000

/-- a slice of int64 of the call's own, in a block from lo on and below hi -/
def Ownd (w : World) (lo hi : Nat) (A : Option Addr) (n c : Nat) (xs : List Int) : Prop := Own w lo (.slice A n c) xs ∧ ∀ k, blk A = some k → k < hi
section
variable {w w' : World} {lo hi n c : Nat} {A : Option Addr} {xs : List Int}
theorem Ownd.rd (h : Ownd w lo hi A n c xs) : Seg w w.heap.size A n xs := Own.seg h.1
theorem Ownd.next (h : Ownd w lo hi A n c xs) (hb : Below w.heap.size w w') : Ownd w' lo hi A n c xs := ⟨h.1.next hb, h.2⟩
theorem Ownd.drewN (h : Ownd w lo hi A n c xs) (d : Nat) : Ownd (w.drewN d) lo hi A n c xs := h
theorem Ownd.drew (h : Ownd w lo hi A n c xs) : Ownd w.drew lo hi A n c xs := h
theorem Ownd.wider {lo' hi' : Nat} (h : Ownd w lo hi A n c xs) (h1 : lo' ≤ lo) (h2 : hi ≤ hi') : Ownd w lo' hi' A n c xs := ⟨Own.lower h.1 h1, fun k hk => Nat.lt_of_lt_of_le (h.2 k hk) h2⟩
theorem Ownd.btw {lo' hi' : Nat} (h : Ownd w lo hi A n c xs) (hb : Btw lo' hi' w w') (ho : hi ≤ lo' ∨ hi' ≤ lo) : Ownd w' lo hi A n c xs := by
  obtain ⟨⟨q1, q2⟩, ht⟩ := h
  refine ⟨⟨q1, ?_⟩, ht⟩
  rcases q2 with q2 | ⟨g, cap, cur, hv, hg, hh, r⟩
  · exact .inl q2
  · have h5 := ht g (by rw [← blk_own A n c, hv]; rfl)
    refine .inr ⟨g, cap, cur, hv, hg, ?_, r⟩
    have hlt : g < w.heap.size := (Array.getElem?_eq_some_iff.1 hh).1
    exact (hb.block g hlt (by omega)).trans hh
theorem Ownd.of_own (h : Own w lo (.slice A n c) xs) : Ownd w lo w.heap.size A n c xs := ⟨h, fun k hk => (World.ownsRow.lt h k (by rw [blk_own]; exact hk)).2⟩
theorem Ownd.cap (h : Ownd w lo hi A n c xs) : Cap A n c := by
  have hl := Own.len h.1
  rcases own_form (n := n) (vs := xs.map (Value.int .i64)) (by rw [hl]; have := h.1; rw [hl] at this; exact this) with ⟨rfl, h1, rfl, _⟩ | ⟨g, cur, rfl, _, _, h1, h2, h3, _⟩
  · exact ⟨by omega, by omega, fun _ => rfl⟩
  · exact ⟨h1, h3, fun e => by cases e⟩
theorem drew_below (w : World) : Below w.heap.size w w.drew := ⟨rfl, rfl, rfl, Nat.le_refl _, fun _ _ => rfl⟩
theorem drewN_below (w : World) (d : Nat) : Below w.heap.size w (w.drewN d) := ⟨rfl, rfl, rfl, Nat.le_refl _, fun _ _ => rfl⟩
end

/-! ### ints -/
def CopyInts (w : World) (n : Nat) (xs : List Int) (e : Ending) (w' : World) : Prop := ∃ g, e = .returned (.slice (some ⟨g, 0, none⟩) n n) ∧ Ownd w' w.heap.size w'.heap.size (some ⟨g, 0, none⟩) n n xs ∧ w.heap.size < w'.heap.size ∧ Below w.heap.size w w'
theorem intsTo (A : Option Addr) (n c : Nat) (xs : List Int) (w : World) (h : Seg w w.heap.size A n xs) (hn : n ≤ 1048576) :
    Calls Try.prog 26 #[.slice A n c] w (CopyInts w n xs) :=
  (toInts A n c xs w h hn).mono fun _ _ ⟨cs, he, hr, hs, hc, hz, hb⟩ => ⟨w.heap.size, he, Ownd.of_own (Own.of_row hr h.1 hs (Nat.le_refl _) (by omega) (Nat.le_refl _) hc), by omega, hb⟩
theorem intsEq (A A' : Option Addr) (n n' c c' : Nat) (xs : List Int) (w : World) (h : Seg w w.heap.size A n xs) (h' : Seg w w.heap.size A' n' xs) (hn : n ≤ 1048576) :
    Calls Try.prog 28 #[.slice A n c, .slice A' n' c'] w fun e w' => e = .returned (.bool true) ∧ Below w.heap.size w w' := by
  obtain rfl : n = n' := by rw [← h.1, ← h'.1]
  exact (eqYes A A' n c c' xs w h h' hn).mono fun _ _ ⟨he, d, hd⟩ => ⟨he, by rw [hd]; exact drewN_below _ _⟩
def AnsMarkI (w : World) (lo hi : Nat) (A : Option Addr) (n c : Nat) (k : Int) (e : Ending) (w' : World) : Prop := e = .returned (.int .i64 (k + (n : Int))) ∧ Ownd w' lo hi A n c (marks k n) ∧ Btw lo hi w w'
theorem intsMark (lo hi : Nat) (A : Option Addr) (n c : Nat) (xs : List Int) (k : Int) (w : World) (h : Ownd w lo hi A n c xs) (hn : n ≤ 1048576) (hk0 : 0 ≤ k) (hk : k ≤ 8388608) :
    Calls Try.prog 32 #[.slice A n c, .int .i64 k] w (AnsMarkI w lo hi A n c k) :=
  (markOwn lo A n c xs k w h.1 hn hk0 (by omega)).mono fun _ _ ⟨he, hg, ho⟩ => ⟨he, ⟨ho, h.2⟩, Btw.of_grown hg (fun q hq => ⟨Own.ge h.1 q hq, h.2 q hq⟩)⟩
theorem intsHeld (A : Option Addr) (n c : Nat) (k : Int) (w : World) (h : Seg w w.heap.size A n (marks k n)) (hn : n ≤ 1048576) (hk0 : 0 ≤ k) (hk : k ≤ 8388608) :
    Calls Try.prog 33 #[.slice A n c, .int .i64 k] w fun e w' => e = .returned (.int .i64 (k + (n : Int))) ∧ Below w.heap.size w w' :=
  (heldInts A n c k w h hn hk0 (by omega)).mono fun _ _ ⟨hw, he⟩ => ⟨he, by rw [← hw]; exact Below.refl _ _⟩

/-! ### Sig -/
def CopySigK (w : World) (n : Nat) (xs : List Int) (e : Ending) (w' : World) : Prop := ∃ g, e = .returned (.agg #[.slice (some ⟨g, 0, none⟩) n n]) ∧ Ownd w' w.heap.size w'.heap.size (some ⟨g, 0, none⟩) n n xs ∧ w.heap.size < w'.heap.size ∧ Below w.heap.size w w'
theorem sigTo (A : Option Addr) (n c : Nat) (xs : List Int) (w : World) (h : Seg w w.heap.size A n xs) (hn : n ≤ 1048576) :
    Calls Try.prog 63 #[.agg #[.slice A n c]] w (CopySigK w n xs) :=
  (toSig A n c xs w h hn).mono fun _ _ ⟨g, cs, he, hg, hr, hs, hc, hb⟩ => ⟨g, he, Ownd.of_own (Own.of_row hr h.1 hs (Nat.le_refl _) (by omega) hg hc), Nat.lt_of_le_of_lt hg hr.lt, hb⟩
theorem sigEq (A A' : Option Addr) (n n' c c' : Nat) (xs : List Int) (w : World) (h : Seg w w.heap.size A n xs) (h' : Seg w w.heap.size A' n' xs) (hn : n ≤ 1048576) :
    Calls Try.prog 65 #[.agg #[.slice A n c], .agg #[.slice A' n' c']] w fun e w' => e = .returned (.bool true) ∧ Below w.heap.size w w' := by
  obtain rfl : n = n' := by rw [← h.1, ← h'.1]
  exact eqSigYes A A' n c c' xs w h h' hn

set_option maxHeartbeats 1000000 in
theorem sigMark (lo hi : Nat) (A : Option Addr) (n c : Nat) (xs : List Int) (k : Int) (w : World) (h : Ownd w lo hi A n c xs) (hn : n ≤ 1048576) (hk0 : 0 ≤ k) (hk : k ≤ 8388608) :
    Calls Try.prog 71 #[.agg #[.slice A n c], .int .i64 k] w (AnsMarkI w lo hi A n c k) := by
  have b : Below w.heap.size w (w.alloc (.cells #[.slice A n c] 26)) := (Below.refl _ _).alloc (Nat.le_refl _) _
  have L := Lib.hid (intsMark lo hi A n c xs k _ (h.next b) hn hk0 hk)
  clear h
  go_enter Try.func71, Try.ntmps71
  go_wp2_with fail
  refine L.out.mono ?_
  rintro e w' ⟨rfl, ho, hb⟩
  have F : AnsMarkI w lo hi A n c k (.returned (.int .i64 (k + (n : Int)))) w' := ⟨rfl, ho, (Btw.of_below b).trans hb⟩
  have HF := Lib.hid F
  clear F ho hb b L
  go_wp2
  go_ret
  exact HF.out

/-! ### Subst -/
def CopySubst (w : World) (n : Nat) (xss : List (List Int)) (e : Ending) (w' : World) : Prop := ∃ g, e = .returned (.agg #[.slice (some ⟨g, 0, none⟩) n n]) ∧ Owns w' w.heap.size w'.heap.size (some ⟨g, 0, none⟩) n n xss ∧ w.heap.size < w'.heap.size ∧ Below w.heap.size w w'
theorem owns_put {w : World} {lo hi n c b : Nat} {A : Option Addr} {xss : List (List Int)} {t : TypeId} {cs : Array Value} (h : Owns w lo hi A n c xss) (hr : Row w b t cs) (hb : b < lo) (i : Nat) (u : Value) : Owns (w.setCell ⟨b, i, none⟩ u) lo hi A n c xss :=
  h.btw (lo' := b) (hi' := b + 1) (Btw.of_grown (grown_put (World.grownBy.refl _ _) _ _) (fun k hk => by injection hk; omega)) (.inr (by omega))

end Go.Proofs.Ytfkgiimcnlagmaa.kinds
end

section
/-
  CONTRACTS of the look-ups: impl.varTerm, (lookup).fill over whatever look-up ('Looks'), lookupIn and what it returns. Conditions: at most 60 numbers, replacements of at most 4096. By an AI agent.
-/
namespace Go.Proofs.Ytfkgiimcnlagmaa.look
open Go.RowKit Go.Proofs.Ytfkgiimcnlagmaa.base Go.Proofs.Ytfkgiimcnlagmaa.ints Go.Proofs.Ytfkgiimcnlagmaa.marks Go.Proofs.Ytfkgiimcnlagmaa.app Go.Proofs.Ytfkgiimcnlagmaa.sym Go.Proofs.Ytfkgiimcnlagmaa.segs Go.Proofs.Ytfkgiimcnlagmaa.fillMath
set_option maxRecDepth 100000

theorem varTerm (i : Int) (w : World) (h0 : 0 ≤ i) (h1 : i ≤ 1000) :
    Calls Try.prog 150 #[.int .i64 i] w (AnsList w [-1 - i]) := by
  have F : AnsList w [-1 - i] (.returned (.slice (some ⟨w.heap.size, 0, none⟩) 1 1)) (w.alloc (.cells #[.int .i64 (-1 - i)] 2)) :=
    ⟨_, 1, 1, rfl, Own.of_row (Row.new _ _ _) rfl rfl (Nat.le_refl _) (by omega) (Nat.le_refl _) (fun j hj => by
      have e : j = 0 := by omega
      subst e
      rfl), (Below.refl _ _).alloc (Nat.le_refl _) _⟩
  have HF := Lib.hid F
  clear F
  go_enter Try.func150, Try.ntmps150
  go_wp2
  go_ret
  exact HF.out

/-- an answer that may be read: it lies below B, or it is new -/
def AnsLook (B : Nat) (w : World) (ys : List Int) (e : Ending) (w' : World) : Prop := ∃ A n c, e = .returned (.slice A n c) ∧ Seg w' w'.heap.size A n ys ∧ Cap A n c ∧ (∀ k, blk A = some k → k < B ∨ w.heap.size ≤ k) ∧ Below w.heap.size w w'
/-- function g with what it has captured looks up L, at variables below N, as long as what lies in w lies -/
def Looks (g : Nat) (lb : Array Value) (w : World) (L : Nat → List Int) (N : Nat) : Prop :=
  ∀ (W : World) (i : Nat), Below w.heap.size w W → i < N → Calls Try.prog g (#[.int .i64 (i : Int)] ++ lb) W (AnsLook w.heap.size W (L i))
theorem Looks.next {g : Nat} {lb : Array Value} {w w' : World} {L : Nat → List Int} {N : Nat} (h : Looks g lb w L N) (hb : Below w.heap.size w w') : Looks g lb w' L N :=
  fun W i hW hi => (h W i (next_trans hb hW) hi).mono fun _ _ ⟨A, n, c, he, h1, h2, h3, h4⟩ => ⟨A, n, c, he, h1, h2, fun k hk => by have := h3 k hk; have := hb.size; omega, h4⟩
theorem own_cap {w : World} {base : Nat} {A : Option Addr} {n c : Nat} {xs : List Int} (h : Own w base (.slice A n c) xs) : Cap A n c := by
  have hl := Own.len h
  rcases own_form (n := n) (vs := xs.map (Value.int .i64)) (by rw [hl]; rw [hl] at h; exact h) with ⟨rfl, h1, rfl, _⟩ | ⟨g, cur, rfl, _, _, h1, h2, h3, _⟩
  · exact ⟨by omega, by omega, fun _ => rfl⟩
  · exact ⟨h1, h3, fun e => by cases e⟩
theorem look_new {w w' : World} {B : Nat} {ys : List Int} {A : Option Addr} {n c : Nat} (ho : Own w' w.heap.size (.slice A n c) ys) (hb : Below w.heap.size w w') : AnsLook B w ys (.returned (.slice A n c)) w' :=
  ⟨A, n, c, rfl, Own.seg ho, own_cap ho, fun k hk => .inr (World.ownsRow.lt ho k (by cases A with | none => cases hk | some a => exact hk)).1, hb⟩

/-- the head of fill's loop -/
def HeadFill (w : World) (m : Nat) (t : List Int) (L : Nat → List Int) (out i : Value) (wr : World) : Prop :=
  ∃ (k : Nat) (O : Option Addr) (on oc : Nat), k ≤ m ∧ i = .int .i64 k ∧ out = .slice O on oc ∧ Own wr w.heap.size (.slice O on oc) (fillL L (t.take k)) ∧ Below w.heap.size w wr
theorem fill_bound {L : Nat → List Int} {t : List Int} {m k : Nat} (hM : ∀ i, (L i).length ≤ 4096) (hm : t.length = m) (h60 : m ≤ 60) : (fillL L (t.take k)).length ≤ 245760 := by
  have h := fill_len (M := 4096) (by omega) hM (t.take k)
  have h2 : (t.take k).length ≤ 60 := by simp; omega
  have h3 : (t.take k).length * 4096 ≤ 60 * 4096 := Nat.mul_le_mul_right _ h2
  omega

set_option maxHeartbeats 2000000 in
theorem fill (g : Nat) (lb : Array Value) (eg : ∀ args w, (callFunc g args).run Try.prog w = .ok (.enter g args) w) (A : Option Addr) (m c : Nat) (t : List Int) (L : Nat → List Int) (w : World)
    (hL : Looks g lb w L 24) (h : Seg w w.heap.size A m t) (hm : m ≤ 60) (hv : ∀ x ∈ t, -24 ≤ x) (hM : ∀ i, (L i).length ≤ 4096) :
    Calls Try.prog 129 #[.func (.func g) #[] lb, .slice A m c] w (AnsList w (fillL L t)) := by
  have HL := Lib.hid h.1
  have HV := Lib.hid hv
  have HM := Lib.hid hM
  have HK := Lib.hid hL
  have S0 : HeadFill w m t L (.slice none 0 0) (.int .i64 0) w := ⟨0, _, _, _, Nat.zero_le _, rfl, rfl, by simpa [fillL] using Own.nil w w.heap.size, Below.refl _ _⟩
  have HS0 := Lib.hid S0
  clear S0 hv hM hL
  go_enter Try.func129, Try.ntmps129
  go_wp2
  go_loopw [5, 10] (fun out i wr => HeadFill w m t L out i wr) (fun _ i _ => m - (intOf i).toNat)
  case atStart => exact HS0.out
  case round =>
    obtain ⟨k, O, on, oc, hk, rfl, rfl, ho, hb⟩ := hrel
    clear HS0
    have hon : on ≤ 245760 := by rw [Own.len ho]; exact fill_bound HM.out HL.out hm
    by_cases hlt : k < m
    · obtain ⟨b, off, x, rfl, hbb, hx, ex⟩ := h.spot hlt
      have hx1 : wr.cell? ⟨b, off + k, none⟩ = some (.int .i64 x) := (hb.cell (p := ⟨b, off + k, none⟩) hbb).trans hx
      have hmem : x ∈ t := by
        have hkl : k < t.length := by rw [HL.out]; exact hlt
        have := ex.out
        rw [← this]
        simp [List.getD, hkl]
      have hx24 : -24 ≤ x := HV.out x hmem
      have E := Lib.hid (fill_take (L := L) (t := t) (k := k) (by rw [HL.out]; exact hlt) ex.out)
      have hsz := hb.size
      clear hmem hx h ex
      by_cases hpos : 0 ≤ x
      · have R := Lib.hid (rep_sym (L := L) hpos)
        go_wp2_with (at_builtin; refine app1 rfl _ _ rfl w.heap.size O on oc (fillL L (t.take k)) rfl (Own.alloc ho _) wr.heap.size 1 x rfl ((Row.new _ _ _).cell 0) (by omega) (by simp; omega) ?_; intro O' oc' w2 ho2 b2)
        have S : HeadFill w m t L (.slice O' (on + 1) oc') (.int .i64 ((k : Int) + 1)) w2 := ⟨k + 1, O', on + 1, oc', hlt, by simp, rfl, by rw [E.out, R.out]; exact ho2, (hb.alloc hsz _).trans b2⟩
        replace S := Lib.hid S
        clear ho2 b2 ho hb R E
        go_wp2
        go_roundw
        case rel => exact S.out
        case measure => simp [intOf]; omega
      · have hneg : x < 0 := by omega
        have R := Lib.hid (rep_var (L := L) hneg)
        have hcall := HK.out wr (-1 - x).toNat hb (by omega)
        rw [show (((-1 - x).toNat : Nat) : Int) = -1 - x by omega] at hcall
        have hLM : (L (-1 - x).toNat).length ≤ 4096 := HM.out _
        generalize hys : L (-1 - x).toNat = ys at hcall R hLM
        replace hcall := Lib.hid hcall
        clear hys
        go_wp2_with (first
          | (go_at_fn g; refine hcall.out.mono ?_; rintro e w1 ⟨A', n', c', rfl, s', cap', -, bb⟩; have hn' : n' ≤ 4096 := (by rw [← s'.1]; exact hLM); have ho1 := ho.next bb; have hb1 := hb.trans (bb.mono hb.size))
          | (at_builtin; refine appAll rfl _ _ rfl w.heap.size O on oc (fillL L (t.take k)) rfl ho1 A' n' c' w1.heap.size ys rfl s' cap'.2.2 (by omega) (by omega) hb1.size ?_; intro O' oc' w2 ho2 b2))
        have S : HeadFill w m t L (.slice O' (on + n') oc') (.int .i64 ((k : Int) + 1)) w2 := ⟨k + 1, O', on + n', oc', hlt, by simp, rfl, by rw [E.out, R.out]; exact ho2, hb1.trans b2⟩
        replace S := Lib.hid S
        clear ho2 b2 ho hb R E ho1 hb1 s' cap' bb hcall
        go_wp2
        go_roundw
        case rel => exact S.out
        case measure => simp [intOf]; omega
    · have F : AnsList w (fillL L t) (.returned (.slice O on oc)) wr := by
        rw [List.take_of_length_le (by rw [HL.out]; omega)] at ho
        exact ⟨O, on, oc, rfl, ho, hb⟩
      have HF := Lib.hid F
      clear F ho hb h
      go_wp2
      go_ret
      exact HF.out
end Go.Proofs.Ytfkgiimcnlagmaa.look
end

section
/-
  CONTRACTS: spec.SubstOk, impl.SubstOk, spec.l2Gives, impl.lookupIn and what it returns. Conditions: the slices read as lists ('Seg', 'Segs'), at most 1048576 values. By an AI agent.
-/
namespace Go.Proofs.Ytfkgiimcnlagmaa.substOk
open Go.RowKit Go.Proofs.Ytfkgiimcnlagmaa.base Go.Proofs.Ytfkgiimcnlagmaa.ints Go.Proofs.Ytfkgiimcnlagmaa.sig Go.Proofs.Ytfkgiimcnlagmaa.term Go.Proofs.Ytfkgiimcnlagmaa.termOk Go.Proofs.Ytfkgiimcnlagmaa.marks Go.Proofs.Ytfkgiimcnlagmaa.app Go.Proofs.Ytfkgiimcnlagmaa.sym Go.Proofs.Ytfkgiimcnlagmaa.sub Go.Proofs.Ytfkgiimcnlagmaa.segs Go.Proofs.Ytfkgiimcnlagmaa.segsHelp Go.Proofs.Ytfkgiimcnlagmaa.termFacts Go.Proofs.Ytfkgiimcnlagmaa.varsMath Go.Proofs.Ytfkgiimcnlagmaa.varsOf Go.Proofs.Ytfkgiimcnlagmaa.fillMath Go.Proofs.Ytfkgiimcnlagmaa.look
set_option maxRecDepth 100000

/-- nothing, or a term -/
def goodB (sg t : List Int) : Bool := decide (t.length = 0) || termOkB sg t
/-- a valid substitution -/
def substOkB (sg : List Int) (ss : List (List Int)) : Bool := sigOkB sg && (decide (ss.length ≤ 24) && ss.all (goodB sg))
theorem substOk_parts {sg : List Int} {ss : List (List Int)} (h : substOkB sg ss = true) : sigOkB sg = true ∧ ss.length ≤ 24 ∧ ∀ j, j < ss.length → goodB sg (ss.getD j []) = true := by
  unfold substOkB at h
  simp only [Bool.and_eq_true, decide_eq_true_eq, List.all_eq_true] at h
  refine ⟨h.1, h.2.1, fun j hj => ?_⟩
  have := h.2.2 (ss[j]) (List.getElem_mem hj)
  simpa [List.getD, hj] using this
theorem subst_sig {sg : List Int} {ss : List (List Int)} (h : sigOkB sg = false) : substOkB sg ss = false := by unfold substOkB; rw [h, Bool.false_and]
theorem subst_long {sg : List Int} {ss : List (List Int)} (h : ¬ ss.length ≤ 24) : substOkB sg ss = false := by unfold substOkB; rw [decide_eq_false h, Bool.false_and, Bool.and_false]
theorem subst_bad {sg : List Int} {ss : List (List Int)} {k : Nat} (hk : k < ss.length) (h : goodB sg (ss.getD k []) = false) : substOkB sg ss = false := by
  have : ss.all (goodB sg) = false := by
    rw [List.all_eq_false]
    refine ⟨ss[k], List.getElem_mem hk, ?_⟩
    have e : ss.getD k [] = ss[k] := by simp [List.getD, hk]
    rw [e] at h
    simp [h]
  unfold substOkB
  rw [this, Bool.and_false, Bool.and_false]
theorem subst_good {sg : List Int} {ss : List (List Int)} (h : sigOkB sg = true) (hl : ss.length ≤ 24) (hg : ∀ j, j < ss.length → goodB sg (ss.getD j []) = true) : substOkB sg ss = true := by
  have : ss.all (goodB sg) = true := by
    rw [List.all_eq_true]
    intro x hx
    obtain ⟨j, hj, rfl⟩ := List.getElem_of_mem hx
    have := hg j hj
    simpa [List.getD, hj] using this
  unfold substOkB
  rw [this, h, decide_eq_true hl]
  rfl

/-- the first k elements are good -/
def HeadSO (w : World) (A : Option Addr) (n c : Nat) (S : Option Addr) (m c' : Nat) (sg : List Int) (ss : List (List Int)) (i : Value) (wr : World) : Prop :=
  ∃ k : Nat, k ≤ m ∧ i = .int .i64 k ∧ (∀ j, j < k → goodB sg (ss.getD j []) = true) ∧ Row wr w.heap.size 26 #[.slice A n c] ∧ Row wr (w.heap.size + 1) 111 #[.slice S m c'] ∧ Below w.heap.size w wr
theorem headSO_step {w wr : World} {A : Option Addr} {n c : Nat} {S : Option Addr} {m c' : Nat} {sg : List Int} {ss : List (List Int)} {k : Nat} (hk : k < m) (hlow : ∀ j, j < k → goodB sg (ss.getD j []) = true) (hg : goodB sg (ss.getD k []) = true)
    (r1 : Row wr w.heap.size 26 #[.slice A n c]) (r2 : Row wr (w.heap.size + 1) 111 #[.slice S m c']) (hb : Below w.heap.size w wr) : HeadSO w A n c S m c' sg ss (.int .i64 ((k : Int) + 1)) wr :=
  ⟨k + 1, hk, by simp, fun j hj => by
    by_cases e : j = k
    · subst e; exact hg
    · exact hlow j (by omega), r1, r2, hb⟩

/-- the two boxes of the parameters -/
theorem boxes2 (w : World) (A : Option Addr) (n c : Nat) (S : Option Addr) (m c' : Nat) : ∃ W, W = (w.alloc (.cells #[.slice A n c] 26)).alloc (.cells #[.slice S m c'] 111) ∧
    Row W w.heap.size 26 #[.slice A n c] ∧ Row W (w.heap.size + 1) 111 #[.slice S m c'] ∧ Below w.heap.size w W := by
  refine ⟨_, rfl, ?_, ?_, ?_⟩
  · have := (Row.new w 26 #[.slice A n c]).alloc (.cells #[.slice S m c'] 111)
    simpa using this
  · have := Row.new (w.alloc (.cells #[.slice A n c] 26)) 111 #[.slice S m c']
    simpa using this
  · exact ((Below.refl _ _).alloc (Nat.le_refl _) _).alloc (by simp) _

end Go.Proofs.Ytfkgiimcnlagmaa.substOk
end
