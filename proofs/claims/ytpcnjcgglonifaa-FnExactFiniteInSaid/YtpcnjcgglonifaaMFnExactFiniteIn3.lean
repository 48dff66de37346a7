/-
  MERGED: my texts ReachMath, FindW, KindsR, Rename, Same, RuleSpec, Inside, PlainMath, Plain, PlainOf, one behind the other, as they are. By an AI agent.
-/
import Derived.Test.YtpcnjcgglonifaaMFnExactFiniteIn2
import Derived.Deep.RegionHeld3
import Derived.Deep.QuietTactic
import Derived.BigQuiet
import Derived.Deep.DeepMust
section
namespace Go.Proofs.Ytpcnjcgglonifaa.reachMath
open sig term termOk termFacts ruleMath stepMath walkMath stepsMath orderMath

abbrev Fi := St × Nat × Nat
abbrev Fs := List Fi × Bool
def termF (f : Fi) : List Int := f.1.2.2
def termsF (L : List Fi) : List (List Int) := L.map termF
def addF (p d : Nat) (S : Fs) (x : St) : Fs := if S.2 = false then S else if x.2.2 ∈ termsF S.1 then S else if S.1.length = 60 then (S.1, false) else (S.1 ++ [(x, p, d)], true)
def goF (sg : List Int) (rs : List Rl) (n : Nat) (S : Fs) (i : Nat) : Fs := match S.1[i]? with
  | none => S
  | some f => if f.2.2 = n then S else (stepsL sg rs (termF f)).foldl (addF i (f.2.2 + 1)) S
def startF (t : List Int) : Fi := ((0, 0, t), 0, 0)
def fdN (sg : List Int) (rs : List Rl) (t : List Int) (n : Nat) : Nat → Fs
  | 0 => ([startF t], true)
  | i + 1 => goF sg rs n (fdN sg rs t n i) i
theorem add_off {p d : Nat} {S : Fs} {x : St} (h : S.2 = false) : addF p d S x = S := if_pos h
theorem add_in {p d : Nat} {S : Fs} {x : St} (h : x.2.2 ∈ termsF S.1) : addF p d S x = S := by
  unfold addF
  by_cases h0 : S.2 = false
  · rw [if_pos h0]
  · rw [if_neg h0, if_pos h]
theorem add_full {p d : Nat} {S : Fs} {x : St} (h0 : S.2 = true) (h : x.2.2 ∉ termsF S.1) (h1 : S.1.length = 60) : addF p d S x = (S.1, false) := by unfold addF; rw [if_neg (by rw [h0]; simp), if_neg h, if_pos h1]
theorem add_new {p d : Nat} {S : Fs} {x : St} (h0 : S.2 = true) (h : x.2.2 ∉ termsF S.1) (h1 : S.1.length ≠ 60) : addF p d S x = (S.1 ++ [(x, p, d)], true) := by unfold addF; rw [if_neg (by rw [h0]; simp), if_neg h, if_neg h1]
structure Inv (sg : List Int) (rs : List Rl) (t : List Int) (n : Nat) (S : Fs) (i : Nat) : Prop where
  len1 : 1 ≤ S.1.length
  len60 : S.1.length ≤ 60
  head : S.1[0]? = some (startF t)
  par : ∀ j f, 0 < j → S.1[j]? = some f → ∃ g, f.2.1 < j ∧ S.1[f.2.1]? = some g ∧ f.1 ∈ stepsL sg rs (termF g) ∧ f.2.2 = g.2.2 + 1
  dn : ∀ f ∈ S.1, f.2.2 ≤ n
  sorted : S.1.Pairwise fun f g => f.2.2 ≤ g.2.2
  nodup : (termsF S.1).Nodup
  top : ∀ g, S.1[i]? = some g → ∀ f ∈ S.1, f.2.2 ≤ g.2.2 + 1
section
variable {sg : List Int} {rs : List Rl} {t : List Int} {n i : Nat} {S : Fs}
theorem inv_zero : Inv sg rs t n ([startF t], true) 0 where
  len1 := Nat.le_refl _
  len60 := by simp
  head := rfl
  par := fun j f h0 hj => by
    obtain ⟨k, rfl⟩ : ∃ k, j = k + 1 := ⟨j - 1, by omega⟩
    simp at hj
  dn := fun f hf => by rw [List.mem_singleton.1 hf]; exact Nat.zero_le _
  sorted := by simp
  nodup := by simp [termsF]
  top := fun g hg f hf => by rw [List.mem_singleton.1 hf]; exact Nat.zero_le _
theorem get_left {α : Type} {L M : List α} {j : Nat} {f : α} (h : L[j]? = some f) : (L ++ M)[j]? = some f := by
  have := (List.getElem?_eq_some_iff.1 h).1
  rw [List.getElem?_append_left this]; exact h
theorem inv_add {f : Fi} (h : Inv sg rs t n S i) (hf : S.1[i]? = some f) (hn : f.2.2 ≠ n) {x : St} (hx : x ∈ stepsL sg rs (termF f)) : Inv sg rs t n (addF i (f.2.2 + 1) S x) i ∧ (addF i (f.2.2 + 1) S x).1[i]? = some f := by
  cases h0 : S.2 with
  | false => rw [add_off h0]; exact ⟨h, hf⟩
  | true =>
    by_cases h1 : x.2.2 ∈ termsF S.1
    · rw [add_in h1]; exact ⟨h, hf⟩
    · by_cases h2 : S.1.length = 60
      · rw [add_full h0 h1 h2]; exact ⟨⟨h.len1, h.len60, h.head, h.par, h.dn, h.sorted, h.nodup, h.top⟩, hf⟩
      · rw [add_new h0 h1 h2]
        have hl := h.len60
        have hi := (List.getElem?_eq_some_iff.1 hf).1
        have hfm : f ∈ S.1 := List.mem_of_getElem? hf
        have hd := h.dn f hfm
        refine ⟨⟨by simp, by simp; omega, get_left h.head, fun j g hj hg => ?_, fun g hg => ?_, ?_, ?_, fun g hg e he => ?_⟩, get_left hf⟩
        · by_cases hjl : j < S.1.length
          · rw [List.getElem?_append_left hjl] at hg
            obtain ⟨e, e1, e2, e3, e4⟩ := h.par j g hj hg
            exact ⟨e, e1, get_left e2, e3, e4⟩
          · rw [List.getElem?_append_right (by omega)] at hg
            have hj0 : j - S.1.length = 0 := by
              have := (List.getElem?_eq_some_iff.1 hg).1
              simp at this; omega
            rw [hj0] at hg
            simp at hg
            subst hg
            exact ⟨f, by show i < j; omega, get_left hf, hx, rfl⟩
        · rcases List.mem_append.1 hg with hg | hg
          · exact h.dn g hg
          · rw [List.mem_singleton.1 hg]; show f.2.2 + 1 ≤ n; omega
        · refine List.pairwise_append.2 ⟨h.sorted, by simp, fun a ha b hb => ?_⟩
          rw [List.mem_singleton.1 hb]
          exact h.top f hf a ha
        · unfold termsF
          rw [List.map_append]
          refine List.nodup_append.2 ⟨h.nodup, by simp, fun a ha b hb e => ?_⟩
          have hb : b = termF (x, i, f.2.2 + 1) := by simpa using hb
          rw [e, hb] at ha
          exact h1 ha
        · have hg : (S.1 ++ [(x, i, f.2.2 + 1)])[i]? = some g := hg
          rw [get_left hf] at hg
          injection hg with hg
          subst hg
          rcases List.mem_append.1 he with he | he
          · exact h.top f hf e he
          · rw [List.mem_singleton.1 he]; exact Nat.le_refl _
theorem inv_fold {f : Fi} (hn : f.2.2 ≠ n) : ∀ (xs : List St) (S : Fs), Inv sg rs t n S i → S.1[i]? = some f → (∀ x ∈ xs, x ∈ stepsL sg rs (termF f)) → Inv sg rs t n (xs.foldl (addF i (f.2.2 + 1)) S) i ∧ (xs.foldl (addF i (f.2.2 + 1)) S).1[i]? = some f
  | [], _, h, hf, _ => ⟨h, hf⟩
  | x :: r, S, h, hf, hx => by
    obtain ⟨h1, h2⟩ := inv_add h hf hn (hx x (List.mem_cons_self ..))
    exact inv_fold hn r _ h1 h2 fun y hy => hx y (List.mem_cons_of_mem _ hy)
theorem inv_next (h : Inv sg rs t n S i) : Inv sg rs t n S (i + 1) := ⟨h.len1, h.len60, h.head, h.par, h.dn, h.sorted, h.nodup, fun g hg f hf => by
  have hi1 := (List.getElem?_eq_some_iff.1 hg).1
  have hi : S.1[i]? = some (S.1[i]'(by omega)) := List.getElem?_eq_getElem _
  have h1 := h.top _ hi f hf
  have h2 := List.pairwise_iff_getElem.1 h.sorted i (i + 1) (by omega) hi1 (by omega)
  have h3 : S.1[i + 1] = g := (List.getElem?_eq_some_iff.1 hg).2
  rw [h3] at h2
  omega⟩
theorem inv_go (h : Inv sg rs t n S i) : Inv sg rs t n (goF sg rs n S i) (i + 1) := by
  refine inv_next ?_
  unfold goF
  cases hf : S.1[i]? with
  | none => exact h
  | some f =>
    dsimp only
    split
    · exact h
    · rename_i hn
      exact (inv_fold hn _ _ h hf fun _ hx => hx).1
theorem inv_fd : ∀ i, Inv sg rs t n (fdN sg rs t n i) i
  | 0 => inv_zero
  | i + 1 => inv_go (inv_fd i)
end

def stepsB (n : Int) : Bool := decide (0 ≤ n ∧ n ≤ 20)
def right9 (sg : List Int) (rs : List Rl) (t : List Int) (n : Int) : Bool := rightB sg rs t && stepsB n
def addT (out : List (List Int)) (x : List Int) : List (List Int) := if x ∈ out then out else out ++ [x]
def tosL (sg : List Int) (rs : List Rl) (t : List Int) : List (List Int) := (stepsL sg rs t).map fun s => s.2.2
def nxN (sg : List Int) (rs : List Rl) (lv : List (List Int)) (i : Nat) : List (List Int) := ((lv.take i).flatMap (tosL sg rs)).foldl addT []
def longB (sg : List Int) (rs : List Rl) (t : List Int) : Bool := decide ((stepsL sg rs t).length < rdN sg rs t t.length 0)
def nextO (sg : List Int) (rs : List Rl) (lv : List (List Int)) : Option (List (List Int)) := if (lv.any (longB sg rs)) = true ∨ 60 < (nxN sg rs lv lv.length).length then none else some (nxN sg rs lv lv.length)
def lg (sg : List Int) (rs : List Rl) : Nat → List (List Int) → Int → Int
  | 0, _, _ => -1
  | f + 1, lv, k => match nextO sg rs lv with
    | none => -1
    | some nx => if nx = [] then k else lg sg rs f nx (k + 1)
def longI (sg : List Int) (rs : List Rl) (t : List Int) (n : Int) : Int := if right9 sg rs t n = true then lg sg rs (n.toNat + 1) [t] 0 else -1

section
variable {sg : List Int} {rs : List Rl} {t : List Int}
theorem addT_le (out : List (List Int)) (x : List Int) : out.length ≤ (addT out x).length := by unfold addT; split <;> simp
theorem foldT_le : ∀ (xs out : List (List Int)), out.length ≤ (xs.foldl addT out).length
  | [], _ => Nat.le_refl _
  | x :: r, out => Nat.le_trans (addT_le out x) (foldT_le r (addT out x))
theorem foldT_mem {u : List Int} : ∀ {xs out : List (List Int)}, u ∈ xs.foldl addT out ↔ u ∈ out ∨ u ∈ xs
  | [], out => by simp
  | x :: r, out => by
    rw [List.foldl_cons, foldT_mem]
    unfold addT
    split
    · rename_i h
      constructor
      · rintro (h1 | h1)
        · exact .inl h1
        · exact .inr (List.mem_cons_of_mem _ h1)
      · rintro (h1 | h1)
        · exact .inl h1
        · rcases List.mem_cons.1 h1 with rfl | h1
          · exact .inl h
          · exact .inr h1
    · simp [or_assoc]
theorem nx_succ {lv : List (List Int)} {i : Nat} (h : i < lv.length) : nxN sg rs lv (i + 1) = (tosL sg rs (lv.getD i [])).foldl addT (nxN sg rs lv i) := by
  unfold nxN
  rw [List.take_succ_eq_append_getElem h, List.flatMap_append, List.foldl_append]
  simp [List.getD, h]
theorem nx_mono {lv : List (List Int)} {i j : Nat} (h : i ≤ j) (hj : j ≤ lv.length) : (nxN sg rs lv i).length ≤ (nxN sg rs lv j).length := by
  induction j with
  | zero => rw [show i = 0 by omega]; exact Nat.le_refl _
  | succ j ih =>
    by_cases e : i = j + 1
    · rw [e]; exact Nat.le_refl _
    · exact Nat.le_trans (ih (by omega) (by omega)) (by rw [nx_succ (by omega)]; exact foldT_le _ _)
theorem nx_mem {lv : List (List Int)} {u : List Int} : u ∈ nxN sg rs lv lv.length ↔ ∃ t ∈ lv, ∃ s ∈ stepsL sg rs t, s.2.2 = u := by
  unfold nxN
  rw [List.take_of_length_le (Nat.le_refl _), foldT_mem, List.mem_flatMap]
  unfold tosL
  simp
theorem next_long {lv : List (List Int)} {u : List Int} (h : u ∈ lv) (hl : longB sg rs u = true) : nextO sg rs lv = none := by
  unfold nextO
  rw [if_pos (.inl (List.any_eq_true.2 ⟨u, h, hl⟩))]
theorem next_many {lv : List (List Int)} {i : Nat} (hi : i ≤ lv.length) (h : 60 < (nxN sg rs lv i).length) : nextO sg rs lv = none := by
  unfold nextO
  rw [if_pos (.inr (Nat.lt_of_lt_of_le h (nx_mono hi (Nat.le_refl _))))]
theorem next_some {lv : List (List Int)} (h1 : ∀ u ∈ lv, longB sg rs u = false) (h2 : (nxN sg rs lv lv.length).length ≤ 60) : nextO sg rs lv = some (nxN sg rs lv lv.length) := by
  unfold nextO
  rw [if_neg]
  rintro (h | h)
  · obtain ⟨u, hu, h⟩ := List.any_eq_true.1 h
    rw [h1 u hu] at h
    cases h
  · omega
theorem next_parts {lv nx : List (List Int)} (h : nextO sg rs lv = some nx) : (∀ u ∈ lv, longB sg rs u = false) ∧ nx.length ≤ 60 ∧ nx = nxN sg rs lv lv.length := by
  unfold nextO at h
  split at h
  · cases h
  · rename_i hh
    injection h with h
    refine ⟨fun u hu => ?_, by rw [← h]; have := fun q => hh (.inr q); omega, h.symm⟩
    cases hl : longB sg rs u with
    | false => rfl
    | true => exact absurd (.inl (List.any_eq_true.2 ⟨u, hu, hl⟩)) hh

def noL (sg : List Int) (rs : List Rl) (t : List Int) (i k : Nat) : Prop := ∀ a r, (a < i ∧ r < rs.length ∨ a = i ∧ r < k) → redB sg (rs.getD r ([], [])) t a = true → stepO sg (rs.getD r ([], [])) t a ≠ none
theorem red_of {x : Rl} {a : Nat} {v : List Int} (h : stepO sg x t a = some v) : redB sg x t a = true := by
  unfold redB
  unfold stepO at h
  split at h
  · cases h
  · rename_i hm; rw [hm]; rfl
theorem row_long {i : Nat} (h0 : (stN sg rs t i 0).length ≤ rdN sg rs t i 0 ∧ ((stN sg rs t i 0).length = rdN sg rs t i 0 ↔ noL sg rs t i 0)) : ∀ k, k ≤ rs.length → (stN sg rs t i k).length ≤ rdN sg rs t i k ∧ ((stN sg rs t i k).length = rdN sg rs t i k ↔ noL sg rs t i k)
  | 0, _ => h0
  | k + 1, hk => by
    obtain ⟨h1, h2⟩ := row_long h0 k (by omega)
    have hr := rd_step (sg := sg) (rs := rs) (t := t) (i := i) (k := k) (by omega)
    have hn : noL sg rs t i (k + 1) ↔ noL sg rs t i k ∧ (redB sg (rs.getD k ([], [])) t i = true → stepO sg (rs.getD k ([], [])) t i ≠ none) := by
      constructor
      · intro h
        exact ⟨fun a r ha => h a r (by omega), h i k (.inr ⟨rfl, by omega⟩)⟩
      · rintro ⟨h, h'⟩ a r ha
        by_cases e : a = i ∧ r = k
        · obtain ⟨rfl, rfl⟩ := e; exact h'
        · exact h a r (by omega)
    cases hs : stepO sg (rs.getD k ([], [])) t i with
    | some v =>
      rw [st_some hs, hr, if_pos (red_of hs), List.length_append, List.length_singleton, hn]
      refine ⟨by omega, ?_⟩
      constructor
      · intro h; exact ⟨h2.1 (by omega), fun _ => by rw [hs]; exact fun e => by cases e⟩
      · rintro ⟨h, _⟩; have := h2.2 h; omega
    | none =>
      rw [st_none hs, hr, hn, hs]
      by_cases hb : redB sg (rs.getD k ([], [])) t i = true
      · rw [if_pos hb]
        refine ⟨by omega, ?_⟩
        constructor
        · intro h; omega
        · rintro ⟨_, h⟩; exact absurd rfl (h hb)
      · rw [if_neg hb]
        refine ⟨by omega, ?_⟩
        constructor
        · intro h; exact ⟨h2.1 (by omega), fun h => absurd h hb⟩
        · rintro ⟨h, _⟩; have := h2.2 h; omega
theorem all_long : ∀ i, (stN sg rs t i 0).length ≤ rdN sg rs t i 0 ∧ ((stN sg rs t i 0).length = rdN sg rs t i 0 ↔ noL sg rs t i 0)
  | 0 => ⟨Nat.le_refl _, ⟨fun _ a r ha => by omega, fun _ => rfl⟩⟩
  | i + 1 => by
    have h := row_long (all_long i) rs.length (Nat.le_refl _)
    rw [st_row, rd_row] at h
    refine ⟨h.1, h.2.trans ?_⟩
    constructor
    · intro q a r ha; exact q a r (by omega)
    · intro q a r ha; exact q a r (by omega)
theorem long_no (h : longB sg rs t = false) : noL sg rs t t.length 0 := by
  unfold longB at h
  rw [decide_eq_false_iff_not] at h
  have q := all_long (sg := sg) (rs := rs) (t := t) t.length
  rw [st_all] at q
  exact q.2.1 (by omega)
theorem long_yes {a r : Nat} (ha : a < t.length) (hr : r < rs.length) (hb : redB sg (rs.getD r ([], [])) t a = true) (hs : stepO sg (rs.getD r ([], [])) t a = none) : longB sg rs t = true := by
  cases h : longB sg rs t with
  | true => rfl
  | false => exact absurd hs (long_no h a r (.inl ⟨ha, hr⟩) hb)
theorem no_long (h : ∀ a r, a < t.length → r < rs.length → redB sg (rs.getD r ([], [])) t a = true → stepO sg (rs.getD r ([], [])) t a ≠ none) : longB sg rs t = false := by
  have q := all_long (sg := sg) (rs := rs) (t := t) t.length
  rw [st_all] at q
  unfold longB
  rw [decide_eq_false_iff_not, q.2.2 fun a r ha => h a r (by omega) (by omega)]
  omega
end
end Go.Proofs.Ytpcnjcgglonifaa.reachMath
end

section
namespace Go.Proofs.Ytpcnjcgglonifaa.findW
open Go.RowKit base ints sig marks app appAt sym segs segsHelp shape kindsW drawX walkMath reachMath

abbrev sTs : Sh := .row 22 sI
def NotIn (w : World) (bad : Nat → Prop) (b : Nat) : Prop := b < w.heap.size ∧ ¬ bad b
section
variable {w w' : World} {bad bad' : Nat → Prop} {r : Option Nat} {s : Sh} {cs : List Value} {d : Dat s}
theorem notIn_kept (h : RdQ w (NotIn w bad) s cs d) (hg : w.grownBy w' r) (hr : ∀ k, r = some k → bad k) (hb : ∀ b, b < w.heap.size → bad' b → bad b) : RdQ w' (NotIn w' bad') s cs d :=
  (h.keep fun b q => hg.block b q.1 (fun e => q.2 (hr b e.symm))).mono fun b q => ⟨Nat.lt_of_lt_of_le q.1 hg.size, fun q' => q.2 (hb b q.1 q')⟩
theorem grown_of_below (hb : Below w.heap.size w w') : w.grownBy w' none := ⟨hb.os, hb.tape, hb.output, hb.size, fun k hk _ => hb.block k hk⟩
theorem notIn_below (h : RdQ w (NotIn w bad) s cs d) (hb : Below w.heap.size w w') : RdQ w' (NotIn w' bad) s cs d := notIn_kept h (grown_of_below hb) (fun k e => by cases e) (fun _ _ h => h)
theorem notIn_ow : ∀ {s : Sh} {cs : List Value} {d : Dat s} {F : List Nat}, Ow w s cs d F → (∀ k ∈ F, ¬ bad k) → RdQ w (NotIn w bad) s cs d
  | .num, _, _, _, h, _ => h.1
  | .bit, _, _, _, h, _ => h.1
  | .row e s, _, _, F, h, hF => by
    have hrd := h.rd
    obtain ⟨A', n', c', e0, hc, _, _⟩ := hrd
    obtain ⟨A, n, c, e1, hl, h1⟩ := h
    rw [e1] at e0
    injection e0 with e0
    injection e0 with q1 q2 q3
    subst q1 q2 q3
    refine ⟨A, n, c, e1, hc, hl, fun hn => ?_⟩
    rcases h1 with ⟨_, h0, _, _⟩ | ⟨g, cur, E, G, e2, hr, h2, h3, h4, h5, h6⟩
    · omega
    · subst h5
      refine ⟨g, 0, e2, ⟨hr.lt, hF g (List.mem_cons_self ..)⟩, fun j hj => ?_⟩
      obtain ⟨q1, q2, q3⟩ := h6 j hj
      refine ⟨E j, q1, fun i hi => ?_, notIn_ow q3 fun k hk => hF k (List.mem_cons_of_mem _ (List.mem_flatMap.2 ⟨j, List.mem_range.2 hj, hk⟩))⟩
      rw [Nat.zero_add, hr.cell, q2 i (by omega)]
  | .cat a b, _, _, F, h, hF => by
    obtain ⟨ca, cb, Fa, Fb, e, e2, h1, h2⟩ := h
    subst e2
    exact ⟨ca, cb, e, notIn_ow h1 fun k hk => hF k (List.mem_append_left _ hk), notIn_ow h2 fun k hk => hF k (List.mem_append_right _ hk)⟩
theorem notIn_owned {lo hi : Nat} (h : Owned w lo hi s cs d) (hb : ∀ k, lo ≤ k → k < hi → ¬ bad k) : RdQ w (NotIn w bad) s cs d := by
  obtain ⟨F, h, -, hF⟩ := h
  exact notIn_ow h fun k hk => hb k (hF k hk).1 (hF k hk).2
theorem grown_set (w : World) (g i : Nat) (u : Value) : w.grownBy (w.setCell ⟨g, i, none⟩ u) (some g) := ⟨rfl, rfl, rfl, by simp, fun k hk hne => Below.heap_setCell w _ u k (fun e => hne (by rw [e]))⟩
theorem notIn_rd (h : RdQ w (NotIn w bad) s cs d) : Rd w w.heap.size s cs d := h.rd fun _ h => h.1
end

def XS (w : World) (bad : Nat → Prop) (lo : Nat) (e : TypeId) (s : Sh) (g n c : Nat) (D : List (Dat s)) : Prop :=
  D.length = n ∧ ∃ vs : List Value, w.ownsRow lo e (nc s) (.slice (some ⟨g, 0, none⟩) n c) n vs ∧ ∀ j, j < n → RdQ w (NotIn w bad) s (cellsOf (nc s) vs j) (D.getD j (dft s))
section
variable {w w' : World} {bad bad' : Nat → Prop} {r : Option Nat} {lo g n c : Nat} {e : TypeId} {s : Sh} {D : List (Dat s)}
theorem XS.kept (h : XS w bad lo e s g n c D) (hg : w.grownBy w' r) (hr : ∀ k, r = some k → bad k) (hne : r ≠ some g) (hb : ∀ b, b < w.heap.size → bad' b → bad b) : XS w' bad' lo e s g n c D := by
  obtain ⟨h1, vs, h2, h3⟩ := h
  exact ⟨h1, vs, World.ownsRow.kept h2 hg (.inr fun q => hne q.symm), fun j hj => notIn_kept (h3 j hj) hg hr hb⟩
theorem XS.below (h : XS w bad lo e s g n c D) (hb : Below w.heap.size w w') : XS w' bad lo e s g n c D := h.kept (grown_of_below hb) (fun k e => by cases e) (fun e => by cases e) (fun _ _ h => h)
theorem XS.ge (h : XS w bad lo e s g n c D) : lo ≤ g ∧ g < w.heap.size := by
  obtain ⟨_, vs, ho, _⟩ := h
  exact World.ownsRow.lt ho g rfl
theorem XS.len (h : XS w bad lo e s g n c D) : D.length = n := h.1
theorem XS.rd {e0 : TypeId} (h : XS w bad lo e s g n c D) : Rd w w.heap.size (.row e0 s) [.slice (some ⟨g, 0, none⟩) n c] D := by
  obtain ⟨h1, vs, ho, h3⟩ := h
  rcases ho.2 with ⟨e1, h0⟩ | ⟨g', cap, cur, e1, hg, hrow, hn, hm, hs, ht⟩
  · injection e1 with a1 a2 a3
    cases a1
  · injection e1 with a1 a2 a3
    injection a1 with a1
    injection a1 with a1
    subst a1 a3
    refine ⟨_, n, c, rfl, ⟨hn, by unfold maxLen at hm; omega, fun e => by cases e⟩, h1, fun h0 => ⟨g, 0, rfl, (Array.getElem?_eq_some_iff.1 hrow).1, fun j hj => ⟨cellsOf (nc s) vs j, (h3 j hj).len, fun i hi => ?_, notIn_rd (h3 j hj)⟩⟩⟩
    have hl := (h3 j hj).len
    have hi : i < nc s := by omega
    have hjn : j * nc s + nc s ≤ n * nc s := by
      have := Nat.mul_le_mul_right (nc s) (show j + 1 ≤ n by omega)
      rw [Nat.add_mul] at this
      omega
    rw [Nat.zero_add, Row.cell (t := e) (cs := cur) hrow]
    have h5 : cur.toList[j * nc s + i]? = vs[j * nc s + i]? := by
      rw [← ht, List.getElem?_take, if_pos (by omega)]
    rw [← Array.getElem?_toList, h5]
    unfold cellsOf
    rw [List.getElem?_take, if_pos hi, List.getElem?_drop]
theorem XS.app {vs es : List Value} {x : Dat s} {g' c' : Nat} (hl : D.length = n) (hr : w.ownsRow lo e (nc s) (.slice (some ⟨g, 0, none⟩) n c) n vs) (hin : ∀ j, j < n → RdQ w (NotIn w bad) s (cellsOf (nc s) vs j) (D.getD j (dft s))) (hv : RdQ w (NotIn w bad) s es x)
    (hown' : w'.ownsRow lo e (nc s) (.slice (some ⟨g', 0, none⟩) (n + 1) c') (n + 1) (vs ++ es)) (hg : w.grownBy w' (some g)) (hbad : bad g) (hb : ∀ b, b < w.heap.size → bad' b → bad b) : XS w' bad' lo e s g' (n + 1) c' (D ++ [x]) := by
  have hvl : vs.length = n * nc s := hr.1
  have hel := hv.len
  have keep : ∀ {us : List Value} {y : Dat s}, RdQ w (NotIn w bad) s us y → RdQ w' (NotIn w' bad') s us y := fun hu => notIn_kept hu hg (fun k e => by injection e with e; rw [← e]; exact hbad) hb
  refine ⟨by simp [hl], vs ++ es, hown', fun j hj => ?_⟩
  by_cases ej : j = n
  · subst ej
    rw [show (D ++ [x]).getD j (dft s) = x by simp [List.getD, ← hl]]
    have : cellsOf (nc s) (vs ++ es) j = es := by
      unfold cellsOf
      rw [List.drop_append_of_le_length (by omega), List.drop_of_length_le (by omega), List.nil_append, List.take_of_length_le (by omega)]
    rw [this]
    exact keep hv
  · rw [show (D ++ [x]).getD j (dft s) = D.getD j (dft s) by simp [List.getD, List.getElem?_append_left (show j < D.length by omega)]]
    have hjn : j * nc s + nc s ≤ n * nc s := by
      have := Nat.mul_le_mul_right (nc s) (show j + 1 ≤ n by omega)
      rw [Nat.add_mul] at this
      omega
    have : cellsOf (nc s) (vs ++ es) j = cellsOf (nc s) vs j := by
      unfold cellsOf
      rw [List.drop_append_of_le_length (by omega), List.take_append_of_le_length (by rw [List.length_drop]; omega)]
    rw [this]
    exact keep (hin j (by omega))
end

theorem wp_appX {w : World} {o : Oper} {a : Act} {K : Act → World → Prop} {Q : Exit → Act → World → Prop} (sx x : Operand) (T e : TypeId) (s : Sh) (z : Value) (bytes : Nat) (hT : Try.prog.underlying T = some (.slice e))
    (hI : (Try.prog.info? e).map (fun i => (i.zero, i.size, i.bytes)) = some (some z, nc s, bytes)) (hzc : z.cells.size = nc s) (hby : bytes ≤ 4096)
    (ho : o.op = .call { callee := .builtin .append, args := #[sx, x], argTypes := #[T, T] })
    (bad : Nat → Prop) (lo g n c q c2 : Nat) (D : List (Dat s)) (es : List Value) (y : Dat s) (hs : a.eval sx = .slice (some ⟨g, 0, none⟩) n c) (hown : XS w bad lo e s g n c D) (hbad : bad g) (hxv : a.eval x = .slice (some ⟨q, 0, none⟩) 1 c2)
    (hy : ∀ i, i < es.length → w.cell? ⟨q, i, none⟩ = es[i]?) (hv : RdQ w (NotIn w bad) s es y) (hn : n ≤ 1048576) (hlo : lo ≤ w.heap.size)
    (h : ∀ g' c' w', (∀ bad' : Nat → Prop, (∀ b, b < w.heap.size → bad' b → bad b) → XS w' bad' lo e s g' (n + 1) c' (D ++ [y])) → w.grownBy w' (some g) → (g' = g ∨ g' = w.heap.size) → Below lo w w' → K (a.put o.dst (.slice (some ⟨g', 0, none⟩) (n + 1) c')) w') : o.wp Try.prog a w K Q := by
  obtain ⟨i0, hi', hz0, hz1, hz2⟩ := info_parts hI
  obtain ⟨h1, vs, hr, hin⟩ := hown
  have hel := hv.len
  have hcells : ∀ j u, es[j]? = some u → w.cell? ((⟨q, 0, none⟩ : Addr).add j) = some u := fun j u hj => by
    have e2 : (⟨q, 0, none⟩ : Addr).add j = ⟨q, j, none⟩ := by unfold Addr.add; split <;> simp_all
    rw [e2, hy j (List.getElem?_eq_some_iff.1 hj).1, hj]
  obtain ⟨v', w', hrun, hown', hg, hnn, hat⟩ := run_append_own_at (P := Try.prog) w lo T o.type e i0 z (nc s) bytes hT hi' hz0 hz1 hz2 hzc (nc_pos s) (.slice (some ⟨g, 0, none⟩) n c) n vs hr ⟨q, 0, none⟩ 1 c2 es (by rw [hel]; simp) hcells hv.one (by unfold maxLen; omega) (by have h1 : (n + 1) * bytes ≤ 1048577 * 4096 := Nat.mul_le_mul (by omega) hby; omega) hlo
  rw [blk_own] at hg
  obtain ⟨g', c', rfl⟩ : ∃ g' c', v' = .slice (some ⟨g', 0, none⟩) (n + 1) c' := by
    rcases hown'.2 with ⟨_, h0⟩ | ⟨g', cap, cur, e1, _⟩
    · omega
    · exact ⟨_, _, e1⟩
  have hat2 : g' = g ∨ g' = w.heap.size := by
    rw [blk_own, blk_own] at hat
    exact hat.imp (fun e => by injection e) (fun e => by injection e)
  unfold Oper.wp execOp
  simp only [ho, resolve, invoke, builtin, Sem.run_bind, Sem.run_pure, Result.andThen_ok, List.map_toArray, List.map_cons, List.map_nil, hs, hxv, hrun]
  exact h g' c' w' (fun bad' hb => XS.app h1 hr hin hv hown' hg hbad hb) hg hat2 ((Below.refl lo w).grown hg hlo (fun k hk => by injection hk with hk; rw [← hk]; exact (World.ownsRow.lt hr g rfl).1))
theorem appXm {w : World} {ops : Array Oper} {rest : List Oper} {o : Oper} {a : Act} {Q : Exit → Act → World → Prop} (hgd : o.guard = none) (sx x : Operand) (T e : TypeId) (s : Sh) (z : Value) (bytes : Nat) (hT : Try.prog.underlying T = some (.slice e))
    (hI : (Try.prog.info? e).map (fun i => (i.zero, i.size, i.bytes)) = some (some z, nc s, bytes)) (hzc : z.cells.size = nc s) (hby : bytes ≤ 4096)
    (ho : o.op = .call { callee := .builtin .append, args := #[sx, x], argTypes := #[T, T] })
    (bad : Nat → Prop) (lo g n c q c2 : Nat) (D : List (Dat s)) (es : List Value) (y : Dat s) (hs : a.eval sx = .slice (some ⟨g, 0, none⟩) n c) (hown : XS w bad lo e s g n c D) (hbad : bad g) (hxv : a.eval x = .slice (some ⟨q, 0, none⟩) 1 c2)
    (hy : ∀ i, i < es.length → w.cell? ⟨q, i, none⟩ = es[i]?) (hv : RdQ w (NotIn w bad) s es y) (hn : n ≤ 1048576) (hlo : lo ≤ w.heap.size)
    (h : ∀ g' c' w', (∀ bad' : Nat → Prop, (∀ b, b < w.heap.size → bad' b → bad b) → XS w' bad' lo e s g' (n + 1) c' (D ++ [y])) → w.grownBy w' (some g) → (g' = g ∨ g' = w.heap.size) → Below lo w w' → wpList Try.prog ops Q rest (a.put o.dst (.slice (some ⟨g', 0, none⟩) (n + 1) c')) w') : wpList Try.prog ops Q (o :: rest) a w :=
  wpList_plain hgd fun _ hK => wp_appX sx x T e s z bytes hT hI hzc hby ho bad lo g n c q c2 D es y hs hown hbad hxv hy hv hn hlo fun g' c' w' h1 h2 h3 h4 => hK _ _ (h g' c' w' h1 h2 h3 h4)

def bad5 (lo B g1 g2 g3 g4 : Nat) (b : Nat) : Prop := b < lo ∨ b = B ∨ b = g1 ∨ b = g2 ∨ b = g3 ∨ b = g4
structure Fo (w : World) (lo B g1 n1 c1 g2 n2 c2 g3 n3 c3 g4 n4 c4 : Nat) (D1 : List (List Int)) (D2 : List Int) (D3 : List St) (D4 : List Int) (fl : Bool) : Prop where
  row : Row w B 62 #[.slice (some ⟨g1, 0, none⟩) n1 c1, .slice (some ⟨g2, 0, none⟩) n2 c2, .slice (some ⟨g3, 0, none⟩) n3 c3, .slice (some ⟨g4, 0, none⟩) n4 c4, .bool fl]
  x1 : XS w (bad5 lo B g1 g2 g3 g4) lo 22 sI g1 n1 c1 D1
  x2 : XS w (bad5 lo B g1 g2 g3 g4) lo 2 .num g2 n2 c2 D2
  x3 : XS w (bad5 lo B g1 g2 g3 g4) lo 78 sStep g3 n3 c3 D3
  x4 : XS w (bad5 lo B g1 g2 g3 g4) lo 2 .num g4 n4 c4 D4
  dis : B ≠ g1 ∧ B ≠ g2 ∧ B ≠ g3 ∧ B ≠ g4 ∧ g1 ≠ g2 ∧ g1 ≠ g3 ∧ g1 ≠ g4 ∧ g2 ≠ g3 ∧ g2 ≠ g4 ∧ g3 ≠ g4
section
variable {w w' : World} {lo B g1 n1 c1 g2 n2 c2 g3 n3 c3 g4 n4 c4 : Nat} {D1 : List (List Int)} {D2 : List Int} {D3 : List St} {D4 : List Int} {fl : Bool}
theorem Fo.app1 (h : Fo w lo B g1 n1 c1 g2 n2 c2 g3 n3 c3 g4 n4 c4 D1 D2 D3 D4 fl) {g' c' : Nat} {x : List Int} (hx : ∀ bad' : Nat → Prop, (∀ b, b < w.heap.size → bad' b → bad5 lo B g1 g2 g3 g4 b) → XS w' bad' lo 22 sI g' (n1 + 1) c' (D1 ++ [x])) (hg : w.grownBy w' (some g1)) (hat : g' = g1 ∨ g' = w.heap.size) :
    Fo (w'.setCell ⟨B, 0, none⟩ (.slice (some ⟨g', 0, none⟩) (n1 + 1) c')) lo B g' (n1 + 1) c' g2 n2 c2 g3 n3 c3 g4 n4 c4 (D1 ++ [x]) D2 D3 D4 fl := by
  obtain ⟨d1, d2, d3, d4, d5, d6, d7, d8, d9, d10⟩ := h.dis
  have l0 := h.row.lt
  have l2 := h.x2.ge
  have l3 := h.x3.ge
  have l4 := h.x4.ge
  have hb : ∀ b, b < w.heap.size → bad5 lo B g' g2 g3 g4 b → bad5 lo B g1 g2 g3 g4 b := fun b hb q => by unfold bad5 at q ⊢; omega
  have hr : ∀ k, some g1 = some k → bad5 lo B g1 g2 g3 g4 k := fun k e => by injection e with e; unfold bad5; omega
  have hB : ∀ k, some B = some k → bad5 lo B g' g2 g3 g4 k := fun k e => by injection e with e; unfold bad5; omega
  have hs := grown_set w' B 0 (.slice (some ⟨g', 0, none⟩) (n1 + 1) c')
  refine ⟨Row.put (Row.away h.row hg (fun e => d1 (by injection e with e; exact e.symm))) 0 _, (hx _ hb).kept hs hB (fun e => by injection e with e; omega) (fun _ _ q => q), (h.x2.kept hg hr (fun e => d5 (by injection e)) hb).kept hs hB (fun e => d2 (by injection e)) (fun _ _ q => q), (h.x3.kept hg hr (fun e => d6 (by injection e)) hb).kept hs hB (fun e => d3 (by injection e)) (fun _ _ q => q), (h.x4.kept hg hr (fun e => d7 (by injection e)) hb).kept hs hB (fun e => d4 (by injection e)) (fun _ _ q => q), ?_⟩
  omega
theorem Fo.far (h : Fo w lo B g1 n1 c1 g2 n2 c2 g3 n3 c3 g4 n4 c4 D1 D2 D3 D4 fl) {q : Nat} (i : Nat) (u : Value) (hq : q < lo) (hqB : B ≠ q) : Fo (w.setCell ⟨q, i, none⟩ u) lo B g1 n1 c1 g2 n2 c2 g3 n3 c3 g4 n4 c4 D1 D2 D3 D4 fl := by
  have hs := grown_set w q i u
  have l1 := h.x1.ge
  have l2 := h.x2.ge
  have l3 := h.x3.ge
  have l4 := h.x4.ge
  have hB : ∀ k, some q = some k → bad5 lo B g1 g2 g3 g4 k := fun k e => by injection e with e; unfold bad5; omega
  exact ⟨Row.far h.row hqB u, h.x1.kept hs hB (fun e => by injection e with e; omega) (fun _ _ q => q), h.x2.kept hs hB (fun e => by injection e with e; omega) (fun _ _ q => q), h.x3.kept hs hB (fun e => by injection e with e; omega) (fun _ _ q => q), h.x4.kept hs hB (fun e => by injection e with e; omega) (fun _ _ q => q), h.dis⟩
end
end Go.Proofs.Ytpcnjcgglonifaa.findW
end

section
namespace Go.Proofs.Ytpcnjcgglonifaa.kindsR
open Go.RowKit base ints sig cursor marks app sym appAt segs segsHelp segsMark kinds shape
set_option maxRecDepth 100000

abbrev sSig : Sh := sI
theorem cells_Sig {w : World} {B : Nat} {es : List Value} {d : Dat sSig} (h : Rd w B sSig es d) : ∃ (v0 : Value), es = [v0] := by
  obtain ⟨A0, n0, c0, z0, -⟩ := h
  exact ⟨.slice A0 n0 c0, by rw [z0] <;> rfl⟩

set_option maxHeartbeats 2000000 in
theorem szK_Sig (v0 : Value) (d : Dat sSig) (left : Int) (w : World) (h : Rd w w.heap.size sSig [v0] d) (h0 : 0 ≤ left) (h1 : left ≤ 1048576) :
    Calls Try.prog 37 #[.agg #[v0], .int .i64 left] w (AnsSzK w left (sz sSig d)) := by
  have g0 := h
  obtain ⟨t0, ht0⟩ : ∃ t, sz sI d = t := ⟨_, rfl⟩
  have HE : Hid (sz sSig d = t0) := Lib.hid (by rw [← ht0]; try rfl)
  have HT0 := Lib.hid ht0
  have G0 := Lib.hid g0
  obtain ⟨W, hW⟩ : ∃ W, W = w.alloc (.cells #[v0] 24) := ⟨_, rfl⟩
  have r : Row W w.heap.size 24 #[v0] := by rw [hW]; exact Row.new _ _ _
  have bel : Below w.heap.size w W := by rw [hW]; exact (Below.refl _ _).alloc (Nat.le_refl _) _
  have HW := Lib.hid hW
  clear hW h g0 ht0
  go_enter Try.func37, Try.ntmps37
  go_wp2_with fail
  rw [← HW.out]
  refine (szK_ints _ _ left W (G0.out.next bel) h0 h1).mono ?_
  rintro e w1 ⟨he, bb⟩
  rw [HT0.out] at he
  replace r := r.next bb
  replace bel := next_trans bel bb
  clear bb
  by_cases q0 : left - (t0 : Int) < 0
  · rw [if_pos q0] at he
    subst he
    have F : AnsSzK w left (sz sSig d) (.returned (.int .i64 (-1))) w1 := ⟨by rw [HE.out, if_pos (by omega)], bel⟩
    have HF := Lib.hid F
    clear F bel r
    go_wp2
    go_ret
    exact HF.out
  rw [if_neg q0] at he
  obtain ⟨l0, hl0⟩ : ∃ l, left - (t0 : Int) = l := ⟨_, rfl⟩
  rw [hl0] at he
  have a0 : 0 ≤ l0 := by omega
  have b0 : l0 ≤ 1048576 := by omega
  have HL0 := Lib.hid hl0
  clear hl0 q0
  subst he
  have F : AnsSzK w left (sz sSig d) (.returned (.int .i64 l0)) w1 := ⟨by have := HL0.out; rw [HE.out, if_neg (by omega)]; exact congrArg (fun z => Ending.returned (.int .i64 z)) (by omega), bel⟩
  have HF := Lib.hid F
  clear F bel r
  go_wp2
  go_ret
  exact HF.out

def CopySig (w : World) (d : Dat sSig) (e : Ending) (w' : World) : Prop := ∃ A0 n0 c0, e = .returned (.agg #[.slice A0 n0 c0]) ∧ Owned w' w.heap.size w'.heap.size sSig [.slice A0 n0 c0] d ∧ Below w.heap.size w w'
set_option maxHeartbeats 2000000 in
theorem toK_Sig (v0 : Value) (d : Dat sSig) (w : World) (h : Rd w w.heap.size sSig [v0] d) (hz : sz sSig d ≤ 1048576) :
    Calls Try.prog 42 #[.agg #[v0]] w (CopySig w d) := by
  have g0 := h
  have cp0 := CpS.zero w 24 32 #[v0] #[.slice none 0 0]
  obtain ⟨W, hW⟩ : ∃ W, W = ((w.alloc (.cells #[v0] 24)).alloc (.cells #[.slice none 0 0] 32)).alloc (.cells #[.slice none 0 0] 32) := ⟨_, rfl⟩
  rw [← hW] at cp0
  have HW := Lib.hid hW
  have G0 := Lib.hid g0
  have Z0 : Hid (sz sI d ≤ 1048576) := Lib.hid (hz)
  clear hW hz h g0
  go_enter Try.func42, Try.ntmps42
  go_wp2_with fail
  rw [← HW.out]
  refine (toK_ints _ _ _ ((G0.out.below cp0.bel).more cp0.bel.size) Z0.out).mono ?_
  rintro e w1 ⟨x0A0, x0n0, x0c0, rfl, o0, bb⟩
  have zb0 := bb.size
  have zc0 := cp0.size
  replace cp0 := cp0.next bb
  clear bb
  have f0_0 : w1.frozen? ⟨w.heap.size + 1 + 1, 0, none⟩ = false := cp0.cur.free 0
  have k0_0 : w1.cell? ⟨w.heap.size + 1 + 1, 0, none⟩ = some (.slice none 0 0) := cp0.cur.cell 0
  obtain ⟨w2, hw0⟩ : ∃ x, x = (w1.setCell ⟨w.heap.size + 1 + 1, 0, none⟩ (.slice x0A0 x0n0 x0c0)) := ⟨_, rfl⟩
  replace o0 := o0.put (g := w.heap.size + 1 + 1) (i := 0) (u := .slice x0A0 x0n0 x0c0) (by omega)
  rw [← hw0] at o0
  replace cp0 : CpS w 24 32 #[v0] #[.slice none 0 0] #[.slice x0A0 x0n0 x0c0] w2 := by rw [hw0]; exact (CpS.put cp0 0 (.slice x0A0 x0n0 x0c0))
  have zw0 : w2.heap.size = w1.heap.size := by rw [hw0]; simp
  have HW0 := Lib.hid hw0
  clear hw0
  have y0 : w2.cell? ⟨w.heap.size + 1 + 1, 0, none⟩ = some (.slice x0A0 x0n0 x0c0) := cp0.cur.cell 0
  rw [HW0.out] at y0
  have s0 : (w2).cell? ⟨w.heap.size + 1, 0, none⟩ = some (.slice none 0 0) := cp0.res.cell 0
  rw [HW0.out] at s0
  have r0 : (w2).frozen? ⟨w.heap.size + 1, 0, none⟩ = false := cp0.res.free 0
  rw [HW0.out] at r0
  have oo : Owned w2 (w.heap.size + 1 + 1 + 1) w2.heap.size sSig [.slice x0A0 x0n0 x0c0] d := o0.wider (by omega) (by omega)
  have F : CopySig w d (.returned (.agg #[.slice x0A0 x0n0 x0c0])) (w2.setCell ⟨w.heap.size + 1, 0, none⟩ (.slice x0A0 x0n0 x0c0)) := ⟨x0A0, x0n0, x0c0, rfl, Owned.wider ((oo.put (g := w.heap.size + 1) (i := 0) (u := .slice x0A0 x0n0 x0c0) (by omega))) (by omega) (by simp), ((CpS.fin cp0 0 (.slice x0A0 x0n0 x0c0))).bel⟩
  have u0 : ((w2.setCell ⟨w.heap.size + 1, 0, none⟩ (.slice x0A0 x0n0 x0c0))).cell? ⟨w.heap.size + 1, 0, none⟩ = some (.slice x0A0 x0n0 x0c0) := (CpS.fin cp0 0 (.slice x0A0 x0n0 x0c0)).res.cell 0
  rw [HW0.out] at u0
  rw [HW0.out] at F
  have HF := Lib.hid F
  clear F oo cp0 o0
  go_wp2
  exact bodyPost_ret (v := .agg #[.slice x0A0 x0n0 x0c0]) (by simp [results, Try.results42, go_sem, u0]) rfl HF.out

set_option maxHeartbeats 2000000 in
theorem eqK_Sig (v0 u0 : Value) (d : Dat sSig) (w : World) (h : Rd w w.heap.size sSig [v0] d) (h' : Rd w w.heap.size sSig [u0] d) (hz : sz sSig d ≤ 1048576) :
    Calls Try.prog 46 #[.agg #[v0], .agg #[u0]] w (Yes w) := by
  have g0 := h
  have g0' := h'
  obtain ⟨W, hW⟩ : ∃ W, W = (w.alloc (.cells #[v0] 32)).alloc (.cells #[u0] 32) := ⟨_, rfl⟩
  have ra : Row W w.heap.size 32 #[v0] := by rw [hW]; exact (Row.new w 32 #[v0]).alloc _
  have rb : Row W (w.heap.size + 1) 32 #[u0] := by rw [hW]; have := Row.new (w.alloc (.cells #[v0] 32)) 32 #[u0]; simpa using this
  have bel : Below w.heap.size w W := by rw [hW]; exact ((Below.refl _ _).alloc (Nat.le_refl _) _).alloc (by simp) _
  have HW := Lib.hid hW
  have G0 := Lib.hid g0
  have G0' := Lib.hid g0'
  have Z0 : Hid (sz sI d ≤ 1048576) := Lib.hid (hz)
  clear hW hz h h' g0 g0'
  go_enter Try.func46, Try.ntmps46
  go_wp2_with fail
  rw [← HW.out]
  refine (eqK_ints _ _ _ W (G0.out.next bel) (G0'.out.next bel) Z0.out).mono ?_
  rintro e w1 ⟨rfl, bb⟩
  replace ra := ra.next bb
  replace rb := rb.next bb
  replace bel := next_trans bel bb
  clear bb
  have F : Yes w (.returned (.bool true)) w1 := ⟨rfl, bel⟩
  have HF := Lib.hid F
  clear F ra rb bel
  go_wp2
  go_ret
  exact HF.out

abbrev sRule : Sh := .cat sI sI
theorem parts_Rule {w : World} {B : Nat} {v0 v1 : Value} {d : Dat sRule} (h : Rd w B sRule [v0, v1] d) : Rd w B sI [v0] d.1 ∧ Rd w B sI [v1] d.2 := by
  obtain ⟨p0, q0⟩ := Rd.split (ca := [v0]) (cb := [v1]) h rfl
  exact ⟨p0, q0⟩
theorem join_Rule {w : World} {lo hi : Nat} {v0 v1 : Value} {d : Dat sRule} {m0 m1 m2 : Nat} (o0 : Owned w m0 m1 sI [v0] d.1) (o1 : Owned w m1 m2 sI [v1] d.2) (l0 : m0 ≤ m1) (l1 : m1 ≤ m2) (hl : lo ≤ m0) (hh : m2 ≤ hi) : Owned w lo hi sRule [v0, v1] d := by
  exact ((Owned.cat o0 o1 (Nat.le_refl _) (by omega) (by omega)) : Owned w m0 m2 sRule [v0, v1] d).wider hl hh
theorem cells_Rule {w : World} {B : Nat} {es : List Value} {d : Dat sRule} (h : Rd w B sRule es d) : ∃ (v0 : Value) (v1 : Value), es = [v0, v1] := by
  obtain ⟨ca0, cb0, e0, p0, q0⟩ := h
  obtain ⟨A0, n0, c0, z0, -⟩ := p0
  obtain ⟨A1, n1, c1, z1, -⟩ := q0
  exact ⟨.slice A0 n0 c0, .slice A1 n1 c1, by rw [e0, z0, z1] <;> rfl⟩

set_option maxHeartbeats 2000000 in
theorem szK_Rule (v0 v1 : Value) (d : Dat sRule) (left : Int) (w : World) (h : Rd w w.heap.size sRule [v0, v1] d) (h0 : 0 ≤ left) (h1 : left ≤ 1048576) :
    Calls Try.prog 65 #[.agg #[v0, v1], .int .i64 left] w (AnsSzK w left (sz sRule d)) := by
  obtain ⟨g0, g1⟩ := parts_Rule h
  obtain ⟨t0, ht0⟩ : ∃ t, sz sI d.1 = t := ⟨_, rfl⟩
  obtain ⟨t1, ht1⟩ : ∃ t, sz sI d.2 = t := ⟨_, rfl⟩
  have HE : Hid (sz sRule d = t0 + t1) := Lib.hid (by rw [← ht0, ← ht1]; simp only [sz]; try omega)
  have HT0 := Lib.hid ht0
  have G0 := Lib.hid g0
  have HT1 := Lib.hid ht1
  have G1 := Lib.hid g1
  obtain ⟨W, hW⟩ : ∃ W, W = w.alloc (.cells #[v0, v1] 97) := ⟨_, rfl⟩
  have r : Row W w.heap.size 97 #[v0, v1] := by rw [hW]; exact Row.new _ _ _
  have bel : Below w.heap.size w W := by rw [hW]; exact (Below.refl _ _).alloc (Nat.le_refl _) _
  have HW := Lib.hid hW
  clear hW h g0 g1 ht0 ht1
  go_enter Try.func65, Try.ntmps65
  go_wp2_with fail
  rw [← HW.out]
  refine (szK_ints _ _ left W (G0.out.next bel) h0 h1).mono ?_
  rintro e w1 ⟨he, bb⟩
  rw [HT0.out] at he
  replace r := r.next bb
  replace bel := next_trans bel bb
  clear bb
  by_cases q0 : left - (t0 : Int) < 0
  · rw [if_pos q0] at he
    subst he
    have F : AnsSzK w left (sz sRule d) (.returned (.int .i64 (-1))) w1 := ⟨by rw [HE.out, if_pos (by omega)], bel⟩
    have HF := Lib.hid F
    clear F bel r
    go_wp2
    go_ret
    exact HF.out
  rw [if_neg q0] at he
  obtain ⟨l0, hl0⟩ : ∃ l, left - (t0 : Int) = l := ⟨_, rfl⟩
  rw [hl0] at he
  have a0 : 0 ≤ l0 := by omega
  have b0 : l0 ≤ 1048576 := by omega
  have HL0 := Lib.hid hl0
  clear hl0 q0
  subst he
  have c0_0 : w1.cell? ⟨w.heap.size, 1, none⟩ = some (v1) := r.cell 1
  go_wp2_with fail
  refine (szK_ints _ _ l0 w1 (G1.out.next bel) a0 b0).mono ?_
  rintro e w2 ⟨he, bb⟩
  rw [HT1.out] at he
  replace r := r.next bb
  replace bel := next_trans bel bb
  clear bb
  by_cases q1 : l0 - (t1 : Int) < 0
  · rw [if_pos q1] at he
    subst he
    have F : AnsSzK w left (sz sRule d) (.returned (.int .i64 (-1))) w2 := ⟨by have := HL0.out; rw [HE.out, if_pos (by omega)], bel⟩
    have HF := Lib.hid F
    clear F bel r
    go_wp2
    go_ret
    exact HF.out
  rw [if_neg q1] at he
  obtain ⟨l1, hl1⟩ : ∃ l, l0 - (t1 : Int) = l := ⟨_, rfl⟩
  rw [hl1] at he
  have a1 : 0 ≤ l1 := by omega
  have b1 : l1 ≤ 1048576 := by omega
  have HL1 := Lib.hid hl1
  clear hl1 q1
  subst he
  have F : AnsSzK w left (sz sRule d) (.returned (.int .i64 l1)) w2 := ⟨by have := HL0.out; have := HL1.out; rw [HE.out, if_neg (by omega)]; exact congrArg (fun z => Ending.returned (.int .i64 z)) (by omega), bel⟩
  have HF := Lib.hid F
  clear F bel r
  go_wp2
  go_ret
  exact HF.out

def CopyRule (w : World) (d : Dat sRule) (e : Ending) (w' : World) : Prop := ∃ A0 n0 c0 A1 n1 c1, e = .returned (.agg #[.slice A0 n0 c0, .slice A1 n1 c1]) ∧ Owned w' w.heap.size w'.heap.size sRule [.slice A0 n0 c0, .slice A1 n1 c1] d ∧ Below w.heap.size w w'
set_option maxHeartbeats 2000000 in
theorem toK_Rule (v0 v1 : Value) (d : Dat sRule) (w : World) (h : Rd w w.heap.size sRule [v0, v1] d) (hz : sz sRule d ≤ 1048576) :
    Calls Try.prog 69 #[.agg #[v0, v1]] w (CopyRule w d) := by
  obtain ⟨g0, g1⟩ := parts_Rule h
  have cp0 := CpS.zero w 97 100 #[v0, v1] #[.slice none 0 0, .slice none 0 0]
  obtain ⟨W, hW⟩ : ∃ W, W = ((w.alloc (.cells #[v0, v1] 97)).alloc (.cells #[.slice none 0 0, .slice none 0 0] 100)).alloc (.cells #[.slice none 0 0, .slice none 0 0] 100) := ⟨_, rfl⟩
  rw [← hW] at cp0
  have HW := Lib.hid hW
  have G0 := Lib.hid g0
  have Z0 : Hid (sz sI d.1 ≤ 1048576) := Lib.hid (by have := hz; simp only [sz] at this ⊢; omega)
  have G1 := Lib.hid g1
  have Z1 : Hid (sz sI d.2 ≤ 1048576) := Lib.hid (by have := hz; simp only [sz] at this ⊢; omega)
  clear hW hz h g0 g1
  go_enter Try.func69, Try.ntmps69
  go_wp2_with fail
  rw [← HW.out]
  refine (toK_ints _ _ _ ((G0.out.below cp0.bel).more cp0.bel.size) Z0.out).mono ?_
  rintro e w1 ⟨x0A0, x0n0, x0c0, rfl, o0, bb⟩
  have zb0 := bb.size
  have zc0 := cp0.size
  replace cp0 := cp0.next bb
  clear bb
  have f0_0 : w1.frozen? ⟨w.heap.size + 1 + 1, 0, none⟩ = false := cp0.cur.free 0
  have k0_0 : w1.cell? ⟨w.heap.size + 1 + 1, 0, none⟩ = some (.slice none 0 0) := cp0.cur.cell 0
  obtain ⟨w2, hw0⟩ : ∃ x, x = (w1.setCell ⟨w.heap.size + 1 + 1, 0, none⟩ (.slice x0A0 x0n0 x0c0)) := ⟨_, rfl⟩
  replace o0 := o0.put (g := w.heap.size + 1 + 1) (i := 0) (u := .slice x0A0 x0n0 x0c0) (by omega)
  rw [← hw0] at o0
  replace cp0 : CpS w 97 100 #[v0, v1] #[.slice none 0 0, .slice none 0 0] #[.slice x0A0 x0n0 x0c0, .slice none 0 0] w2 := by rw [hw0]; exact (CpS.put cp0 0 (.slice x0A0 x0n0 x0c0))
  have zw0 : w2.heap.size = w1.heap.size := by rw [hw0]; simp
  have HW0 := Lib.hid hw0
  clear hw0
  have d1_0 : w2.cell? ⟨w.heap.size, 1, none⟩ = some (v1) := cp0.box.cell 1
  rw [HW0.out] at d1_0
  go_wp2_with fail
  rw [← HW0.out]
  clear d1_0
  refine (toK_ints _ _ _ ((G1.out.below cp0.bel).more cp0.bel.size) Z1.out).mono ?_
  rintro e w3 ⟨x1A0, x1n0, x1c0, rfl, o1, bb⟩
  replace o0 := o0.next bb
  have zb1 := bb.size
  have zc1 := cp0.size
  replace cp0 := cp0.next bb
  clear bb
  have f1_0 : w3.frozen? ⟨w.heap.size + 1 + 1, 1, none⟩ = false := cp0.cur.free 1
  have k1_0 : w3.cell? ⟨w.heap.size + 1 + 1, 1, none⟩ = some (.slice none 0 0) := cp0.cur.cell 1
  obtain ⟨w4, hw1⟩ : ∃ x, x = (w3.setCell ⟨w.heap.size + 1 + 1, 1, none⟩ (.slice x1A0 x1n0 x1c0)) := ⟨_, rfl⟩
  replace o0 := o0.put (g := w.heap.size + 1 + 1) (i := 1) (u := .slice x1A0 x1n0 x1c0) (by omega)
  rw [← hw1] at o0
  replace o1 := o1.put (g := w.heap.size + 1 + 1) (i := 1) (u := .slice x1A0 x1n0 x1c0) (by omega)
  rw [← hw1] at o1
  replace cp0 : CpS w 97 100 #[v0, v1] #[.slice none 0 0, .slice none 0 0] #[.slice x0A0 x0n0 x0c0, .slice x1A0 x1n0 x1c0] w4 := by rw [hw1]; exact (CpS.put cp0 1 (.slice x1A0 x1n0 x1c0))
  have zw1 : w4.heap.size = w3.heap.size := by rw [hw1]; simp
  have HW1 := Lib.hid hw1
  clear hw1
  have y0 : w4.cell? ⟨w.heap.size + 1 + 1, 0, none⟩ = some (.slice x0A0 x0n0 x0c0) := cp0.cur.cell 0
  rw [HW1.out] at y0
  have y1 : w4.cell? ⟨w.heap.size + 1 + 1, 1, none⟩ = some (.slice x1A0 x1n0 x1c0) := cp0.cur.cell 1
  rw [HW1.out] at y1
  have s0 : (w4).cell? ⟨w.heap.size + 1, 0, none⟩ = some (.slice none 0 0) := cp0.res.cell 0
  rw [HW1.out] at s0
  have r0 : (w4).frozen? ⟨w.heap.size + 1, 0, none⟩ = false := cp0.res.free 0
  rw [HW1.out] at r0
  have s1 : ((w4.setCell ⟨w.heap.size + 1, 0, none⟩ (.slice x0A0 x0n0 x0c0))).cell? ⟨w.heap.size + 1, 1, none⟩ = some (.slice none 0 0) := (CpS.fin cp0 0 (.slice x0A0 x0n0 x0c0)).res.cell 1
  rw [HW1.out] at s1
  have r1 : ((w4.setCell ⟨w.heap.size + 1, 0, none⟩ (.slice x0A0 x0n0 x0c0))).frozen? ⟨w.heap.size + 1, 1, none⟩ = false := (CpS.fin cp0 0 (.slice x0A0 x0n0 x0c0)).res.free 1
  rw [HW1.out] at r1
  have oo : Owned w4 (w.heap.size + 1 + 1 + 1) w4.heap.size sRule [.slice x0A0 x0n0 x0c0, .slice x1A0 x1n0 x1c0] d := join_Rule (m0 := W.heap.size) (m1 := w2.heap.size) (m2 := w4.heap.size) (o0.wider (Nat.le_refl _) (by omega)) (o1.wider (Nat.le_refl _) (by omega)) (by omega) (by omega) (by omega) (by omega)
  have F : CopyRule w d (.returned (.agg #[.slice x0A0 x0n0 x0c0, .slice x1A0 x1n0 x1c0])) ((w4.setCell ⟨w.heap.size + 1, 0, none⟩ (.slice x0A0 x0n0 x0c0)).setCell ⟨w.heap.size + 1, 1, none⟩ (.slice x1A0 x1n0 x1c0)) := ⟨x0A0, x0n0, x0c0, x1A0, x1n0, x1c0, rfl, Owned.wider (((oo.put (g := w.heap.size + 1) (i := 0) (u := .slice x0A0 x0n0 x0c0) (by omega)).put (g := w.heap.size + 1) (i := 1) (u := .slice x1A0 x1n0 x1c0) (by omega))) (by omega) (by simp), ((CpS.fin (CpS.fin cp0 0 (.slice x0A0 x0n0 x0c0)) 1 (.slice x1A0 x1n0 x1c0))).bel⟩
  have u0 : (((w4.setCell ⟨w.heap.size + 1, 0, none⟩ (.slice x0A0 x0n0 x0c0)).setCell ⟨w.heap.size + 1, 1, none⟩ (.slice x1A0 x1n0 x1c0))).cell? ⟨w.heap.size + 1, 0, none⟩ = some (.slice x0A0 x0n0 x0c0) := (CpS.fin (CpS.fin cp0 0 (.slice x0A0 x0n0 x0c0)) 1 (.slice x1A0 x1n0 x1c0)).res.cell 0
  rw [HW1.out] at u0
  have u1 : (((w4.setCell ⟨w.heap.size + 1, 0, none⟩ (.slice x0A0 x0n0 x0c0)).setCell ⟨w.heap.size + 1, 1, none⟩ (.slice x1A0 x1n0 x1c0))).cell? ⟨w.heap.size + 1, 1, none⟩ = some (.slice x1A0 x1n0 x1c0) := (CpS.fin (CpS.fin cp0 0 (.slice x0A0 x0n0 x0c0)) 1 (.slice x1A0 x1n0 x1c0)).res.cell 1
  rw [HW1.out] at u1
  rw [HW1.out] at F
  have HF := Lib.hid F
  clear F oo cp0 o0 o1
  go_wp2
  exact bodyPost_ret (v := .agg #[.slice x0A0 x0n0 x0c0, .slice x1A0 x1n0 x1c0]) (by simp [results, Try.results69, go_sem, u0, u1]) rfl HF.out

set_option maxHeartbeats 2000000 in
theorem eqK_Rule (v0 v1 u0 u1 : Value) (d : Dat sRule) (w : World) (h : Rd w w.heap.size sRule [v0, v1] d) (h' : Rd w w.heap.size sRule [u0, u1] d) (hz : sz sRule d ≤ 1048576) :
    Calls Try.prog 75 #[.agg #[v0, v1], .agg #[u0, u1]] w (Yes w) := by
  obtain ⟨g0, g1⟩ := parts_Rule h
  obtain ⟨g0', g1'⟩ := parts_Rule h'
  obtain ⟨W, hW⟩ : ∃ W, W = (w.alloc (.cells #[v0, v1] 100)).alloc (.cells #[u0, u1] 100) := ⟨_, rfl⟩
  have ra : Row W w.heap.size 100 #[v0, v1] := by rw [hW]; exact (Row.new w 100 #[v0, v1]).alloc _
  have rb : Row W (w.heap.size + 1) 100 #[u0, u1] := by rw [hW]; have := Row.new (w.alloc (.cells #[v0, v1] 100)) 100 #[u0, u1]; simpa using this
  have bel : Below w.heap.size w W := by rw [hW]; exact ((Below.refl _ _).alloc (Nat.le_refl _) _).alloc (by simp) _
  have HW := Lib.hid hW
  have G0 := Lib.hid g0
  have G0' := Lib.hid g0'
  have Z0 : Hid (sz sI d.1 ≤ 1048576) := Lib.hid (by have := hz; simp only [sz] at this ⊢; omega)
  have G1 := Lib.hid g1
  have G1' := Lib.hid g1'
  have Z1 : Hid (sz sI d.2 ≤ 1048576) := Lib.hid (by have := hz; simp only [sz] at this ⊢; omega)
  clear hW hz h h' g0 g0' g1 g1'
  go_enter Try.func75, Try.ntmps75
  go_wp2_with fail
  rw [← HW.out]
  refine (eqK_ints _ _ _ W (G0.out.next bel) (G0'.out.next bel) Z0.out).mono ?_
  rintro e w1 ⟨rfl, bb⟩
  replace ra := ra.next bb
  replace rb := rb.next bb
  replace bel := next_trans bel bb
  clear bb
  have a1_0 : w1.cell? ⟨w.heap.size, 1, none⟩ = some (v1) := ra.cell 1
  have b1_0 : w1.cell? ⟨w.heap.size + 1, 1, none⟩ = some (u1) := rb.cell 1
  go_wp2_with fail
  clear a1_0 b1_0
  refine (eqK_ints _ _ _ w1 (G1.out.next bel) (G1'.out.next bel) Z1.out).mono ?_
  rintro e w2 ⟨rfl, bb⟩
  replace ra := ra.next bb
  replace rb := rb.next bb
  replace bel := next_trans bel bb
  clear bb
  have F : Yes w (.returned (.bool true)) w2 := ⟨rfl, bel⟩
  have HF := Lib.hid F
  clear F ra rb bel
  go_wp2
  go_ret
  exact HF.out

abbrev sRuleS : Sh := .row 100 sRule
set_option maxHeartbeats 2000000 in
theorem szK_RuleS (v : Value) (D : List (Dat sRule)) (left : Int) (w : World) (h : Rd w w.heap.size sRuleS [v] D) (h0 : 0 ≤ left) (h1 : left ≤ 1048576) :
    Calls Try.prog 38 #[v, .int .i64 left] w (AnsSzK w left (sz sRuleS D)) := by
  obtain ⟨A, c, rfl, hcap⟩ := h.slice
  obtain ⟨n, hn⟩ : ∃ n, D.length = n := ⟨_, rfl⟩
  rw [hn] at h hcap ⊢
  have hmax : n ≤ 9223372036854775807 := Nat.le_trans hcap.1 hcap.2.1
  have HN := Lib.hid hn
  have H := Lib.hid h
  clear hcap hn h
  by_cases hs : left - n < 0
  · have S : AnsSzK w left (sz sRuleS D) (.returned (.int .i64 (-1))) w := ⟨by rw [if_pos (by rw [sz_row, HN.out]; omega)], Below.refl _ _⟩
    have HS := Lib.hid S
    clear S
    go_enter Try.func38, Try.ntmps38
    go_wp2
    go_ret
    exact HS.out
  go_enter Try.func38, Try.ntmps38
  go_wp2
  go_loopw [1, 5] (fun l i wr => HeadSzK w n sRule D left l i wr) (fun _ i _ => n - (intOf i).toNat)
  case atStart => exact headSzK_zero (by omega)
  case round =>
    obtain ⟨k, hk, rfl, rfl, hge, hb⟩ := hrel
    by_cases hlt : k < n
    · obtain ⟨b, off, n2, c2, es, ev, -, -, hbB, hel, hp, hr⟩ := H.out.elem (j := k) (by rw [HN.out]; exact hlt)
      injection ev with e1 e2 e3
      subst e1 e2 e3
      obtain ⟨v0, v1, rfl⟩ := cells_Rule hr
      have hpw := hp.keep (w' := wr) (fun p hp => hb.cell (p := p) (by rw [hp]; exact hbB))
      have c0 : wr.cell? ⟨b, off + k * 2, none⟩ = some (v0) := hpw 0 (by simp)
      have c1 : wr.cell? ⟨b, off + k * 2 + 1, none⟩ = some (v1) := hpw 1 (by simp)
      obtain ⟨t, ht⟩ : ∃ t, sz sRule (D.getD k (dft sRule)) = t := ⟨_, rfl⟩
      obtain ⟨l, hl⟩ : ∃ l, left - n - szs sRule D k = l := ⟨_, rfl⟩
      have hsum := szs_succ (s := sRule) (d := D) (k := k) (by rw [HN.out]; exact hlt)
      rw [ht] at hsum
      rw [hl] at hge ⊢
      have hle : l ≤ 1048576 := by omega
      have L := Lib.hid (szK_Rule _ _ (D.getD k (dft sRule)) l wr ((hr.below hb).more hb.size) hge hle)
      rw [ht] at L
      have BAD := Lib.hid (fun (q : l - (t : Int) < 0) => headSzK_bad (e := 100) (D := D) (left := left) HN.out hlt hsum (by rw [hl]; exact q))
      have GOOD := Lib.hid (fun (q : ¬ l - (t : Int) < 0) (w1 : World) (hb : Below w.heap.size w w1) => headSzK_step (D := D) (left := left) (l := l) hlt hsum hl q hb)
      have HB := Lib.hid hb
      clear hr hel hp hpw ht hl hsum hb
      go_wp2_with fail
      refine L.out.mono ?_
      rintro e w1 ⟨he, bb⟩
      by_cases q : l - (t : Int) < 0
      · rw [if_pos q] at he
        subst he
        have F : AnsSzK w left (sz sRuleS D) (.returned (.int .i64 (-1))) w1 := ⟨BAD.out (by omega), next_trans HB.out bb⟩
        have HF := Lib.hid F
        clear F bb L GOOD BAD
        go_wp2
        go_ret
        exact HF.out
      · rw [if_neg q] at he
        subst he
        have F := Lib.hid (GOOD.out (by omega) w1 (next_trans HB.out bb))
        clear bb L GOOD BAD
        go_wp2
        go_roundw
        case rel => exact F.out
        case measure => simp [intOf]; omega
    · have F := Lib.hid (headSzK_end (e := 100) HN.out hlt hk hge hb)
      clear hge hb
      go_wp2
      go_ret
      exact F.out

theorem info_RuleS : (Try.prog.info? 100).map (fun i => (i.zero, i.size, i.bytes)) = some (some (.agg #[.slice none 0 0, .slice none 0 0]), 2, 48) := by kernel_rfl
theorem make_RuleS (n : Nat) (hn : n ≤ 1048576) (W : World) : (Instr.makeSlice 33 (.int .i64 (n : Int)) (.int .i64 (n : Int))).run Try.prog W =
    .ok (.slice (some ⟨W.heap.size, 0, none⟩) n n) (W.alloc (.cells (madeCells #[.slice none 0 0, .slice none 0 0] (n * 2)) 100)) := by
  obtain ⟨i0, hi, hz0, hz1, hz2⟩ := info_parts info_RuleS
  have hr := run_make (P := Try.prog) W 33 100 i0 _ Try.underlying33 hi hz0 .i64 .i64 n n (by omega) (by omega) (by rw [hz2]; omega) (by omega)
  simpa [hz1, Value.cells] using hr
set_option maxHeartbeats 2000000 in
theorem toK_RuleS (v : Value) (D : List (Dat sRule)) (w : World) (h : Rd w w.heap.size sRuleS [v] D) (hz : sz sRuleS D ≤ 1048576) :
    Calls Try.prog 43 #[v] w (Copy1 w sRuleS D) := by
  obtain ⟨A, c, rfl, hcap⟩ := h.slice
  obtain ⟨n, hn⟩ : ∃ n, D.length = n := ⟨_, rfl⟩
  have hn1 : n ≤ 1048576 := by rw [← hn]; exact sz_len hz
  rw [hn] at h hcap ⊢
  have HN := Lib.hid hn
  have H := Lib.hid h
  have HZ := Lib.hid hz
  clear hcap hn h hz
  have hmk := make_RuleS n hn1
  have S0 := Lib.hid (headCp_zero (s := sRule) (e := 100) (w := w) (n := n) (D := D) (cs := madeCells #[.slice none 0 0, .slice none 0 0] (n * 2)) (size_madeCells _ _))
  go_enter Try.func43, Try.ntmps43
  go_wp2
  clear hmk
  go_loopw [4] (fun i wr => HeadCp w 100 sRule n D i wr) (fun i _ => n - (intOf i).toNat)
  case atStart => exact S0.out
  case round =>
    obtain ⟨k, ks, E, G, hk, rfl, hr, hs, hnd, hi, hb⟩ := hrel
    clear S0
    by_cases hlt : k < n
    · have hkD : k < D.length := by rw [HN.out]; exact hlt
      obtain ⟨b, off, n2, c2, es, ev, -, -, hbB, hel, hp, hrd⟩ := H.out.elem hkD
      injection ev with e1 e2 e3
      subst e1 e2 e3
      obtain ⟨v0, v1, rfl⟩ := cells_Rule hrd
      have hpw := hp.keep (w' := wr) (fun p hp => hb.cell (p := p) (by rw [hp]; exact hbB))
      have c0 : wr.cell? ⟨b, off + k * 2, none⟩ = some (v0) := hpw 0 (by simp)
      have c1 : wr.cell? ⟨b, off + k * 2 + 1, none⟩ = some (v1) := hpw 1 (by simp)
      have L := Lib.hid (toK_Rule _ _ (D.getD k (dft sRule)) wr ((hrd.below hb).more hb.size) (sz_each HZ.out hkD))
      have R := Lib.hid (fun w1 xA0 xn0 xc0 xA1 xn1 xc1 ho bb => headCp_step (w1 := w1) (es := [.slice xA0 xn0 xc0, .slice xA1 xn1 xc1]) hlt hr hs hnd hi hb ho bb)
      have rr := hr
      have hsz : ks.size = n * 2 := hs
      have HS := Lib.hid hsz
      clear hr hs hnd hi hb hrd hel hp hpw hsz
      go_wp2_with fail
      refine L.out.mono ?_
      rintro e w1 ⟨xA0, xn0, xc0, xA1, xn1, xc1, rfl, ho, bb⟩
      have S := Lib.hid (R.out w1 xA0 xn0 xc0 xA1 xn1 xc1 ho bb)
      have rr1 := rr.next bb
      obtain ⟨u0, hu0⟩ : ∃ u, w1.cell? ⟨w.heap.size, k * 2, none⟩ = some u := ⟨_, (rr1.cell _).trans (Array.getElem?_eq_getElem (by rw [HS.out]; omega))⟩
      have hf0 : w1.frozen? ⟨w.heap.size, k * 2, none⟩ = false := rr1.free _
      obtain ⟨u1, hu1⟩ : ∃ u, w1.cell? ⟨w.heap.size, k * 2 + 1, none⟩ = some u := ⟨_, (rr1.cell _).trans (Array.getElem?_eq_getElem (by rw [HS.out]; omega))⟩
      have hf1 : w1.frozen? ⟨w.heap.size, k * 2 + 1, none⟩ = false := rr1.free _
      clear ho bb rr rr1 L R
      go_wp2
      go_roundw
      case rel => exact S.out
      case measure => simp [intOf]; omega
    · have e1 : k = n := by omega
      subst e1
      have F := Lib.hid (headCp_end HN.out hn1 hr hs hnd hi hb)
      clear hr hs hnd hi hb
      go_wp2
      go_ret
      exact F.out

set_option maxHeartbeats 2000000 in
theorem eqK_RuleS (v u : Value) (D : List (Dat sRule)) (w : World) (h : Rd w w.heap.size sRuleS [v] D) (h' : Rd w w.heap.size sRuleS [u] D) (hz : sz sRuleS D ≤ 1048576) :
    Calls Try.prog 47 #[v, u] w (Yes w) := by
  obtain ⟨A, c, rfl, hcap⟩ := h.slice
  obtain ⟨A', c', rfl, hcap'⟩ := h'.slice
  obtain ⟨n, hn⟩ : ∃ n, D.length = n := ⟨_, rfl⟩
  have hn1 : n ≤ 1048576 := by rw [← hn]; exact sz_len hz
  rw [hn] at h h' hcap hcap' ⊢
  have HN := Lib.hid hn
  have H := Lib.hid h
  have H' := Lib.hid h'
  have HZ := Lib.hid hz
  clear hcap hcap' hn h h' hz
  go_enter Try.func47, Try.ntmps47
  go_wp2
  go_loopw [5] (fun i wr => ∃ k : Nat, k ≤ n ∧ i = .int .i64 k ∧ Below w.heap.size w wr) (fun i _ => n - (intOf i).toNat)
  case atStart => exact ⟨0, Nat.zero_le _, rfl, Below.refl _ _⟩
  case round =>
    obtain ⟨k, hk, rfl, hb⟩ := hrel
    by_cases hlt : k < n
    · have hkD : k < D.length := by rw [HN.out]; exact hlt
      obtain ⟨b, off, n2, c2, es, ev, -, -, hbB, hel, hp, hrd⟩ := H.out.elem hkD
      injection ev with e1 e2 e3
      subst e1 e2 e3
      obtain ⟨b', off', n2, c2, es', ev, -, -, hbB', hel', hp', hrd'⟩ := H'.out.elem hkD
      injection ev with e1 e2 e3
      subst e1 e2 e3
      obtain ⟨v0, v1, rfl⟩ := cells_Rule hrd
      obtain ⟨u0, u1, rfl⟩ := cells_Rule hrd'
      replace hb := hb.drew
      have hpw := hp.keep (w' := wr.drew) (fun p hp => hb.cell (p := p) (by rw [hp]; exact hbB))
      have hpw' := hp'.keep (w' := wr.drew) (fun p hp => hb.cell (p := p) (by rw [hp]; exact hbB'))
      have c0 : wr.drew.cell? ⟨b, off + k * 2, none⟩ = some (v0) := hpw 0 (by simp)
      have c0' : wr.drew.cell? ⟨b', off' + k * 2, none⟩ = some (u0) := hpw' 0 (by simp)
      have c1 : wr.drew.cell? ⟨b, off + k * 2 + 1, none⟩ = some (v1) := hpw 1 (by simp)
      have c1' : wr.drew.cell? ⟨b', off' + k * 2 + 1, none⟩ = some (u1) := hpw' 1 (by simp)
      have L := Lib.hid (eqK_Rule _ _ _ _ (D.getD k (dft sRule)) wr.drew ((hrd.below hb).more hb.size) ((hrd'.below hb).more hb.size) (sz_each HZ.out hkD))
      have HB := Lib.hid hb
      have hlb : b < wr.drew.heap.size := Nat.lt_of_lt_of_le hbB hb.size
      have hlb' : b' < wr.drew.heap.size := Nat.lt_of_lt_of_le hbB' hb.size
      clear hrd hrd' hel hel' hp hp' hpw hpw' hb
      go_wp2_with fail
      go_region_held3 (fun w' => w'.cell? ⟨b, off + k * 2, none⟩ = some (v0) ∧ w'.cell? ⟨b', off' + k * 2, none⟩ = some (u0) ∧ w'.cell? ⟨b, off + k * 2 + 1, none⟩ = some (v1) ∧ w'.cell? ⟨b', off' + k * 2 + 1, none⟩ = some (u1))
        (go_keep)
        (first | (go_at_call 75; refine L.out.mono ?_; rintro e w1 ⟨rfl, bb⟩; have m0 := (bb.cell (p := ⟨b, off + k * 2, none⟩) hlb).trans c0; have m1 := (bb.cell (p := ⟨b', off' + k * 2, none⟩) hlb').trans c0'; have m2 := (bb.cell (p := ⟨b, off + k * 2 + 1, none⟩) hlb).trans c1; have m3 := (bb.cell (p := ⟨b', off' + k * 2 + 1, none⟩) hlb').trans c1'))
      have HB1 := Lib.hid (next_trans HB.out bb)
      clear bb L c0 c0' c1 c1' m0 m1 m2 m3
      go_wp2
      go_roundw
      case rel => exact ⟨k + 1, hlt, by simp, HB1.out⟩
      case measure => simp [intOf]; omega
    · have HB := Lib.hid hb
      clear hb
      go_wp2
      go_ret
      exact ⟨rfl, HB.out⟩

abbrev sSystem : Sh := .cat sSig sRuleS
theorem parts_System {w : World} {B : Nat} {v0 v1 : Value} {d : Dat sSystem} (h : Rd w B sSystem [v0, v1] d) : Rd w B sSig [v0] d.1 ∧ Rd w B sRuleS [v1] d.2 := by
  obtain ⟨p0, q0⟩ := Rd.split (ca := [v0]) (cb := [v1]) h rfl
  exact ⟨p0, q0⟩
theorem join_System {w : World} {lo hi : Nat} {v0 v1 : Value} {d : Dat sSystem} {m0 m1 m2 : Nat} (o0 : Owned w m0 m1 sSig [v0] d.1) (o1 : Owned w m1 m2 sRuleS [v1] d.2) (l0 : m0 ≤ m1) (l1 : m1 ≤ m2) (hl : lo ≤ m0) (hh : m2 ≤ hi) : Owned w lo hi sSystem [v0, v1] d := by
  exact ((Owned.cat o0 o1 (Nat.le_refl _) (by omega) (by omega)) : Owned w m0 m2 sSystem [v0, v1] d).wider hl hh
theorem cells_System {w : World} {B : Nat} {es : List Value} {d : Dat sSystem} (h : Rd w B sSystem es d) : ∃ (v0 : Value) (v1 : Value), es = [v0, v1] := by
  obtain ⟨ca0, cb0, e0, p0, q0⟩ := h
  obtain ⟨u0, z0⟩ := cells_Sig p0
  obtain ⟨A1, n1, c1, z1, -⟩ := q0
  exact ⟨u0, .slice A1 n1 c1, by rw [e0, z0, z1] <;> rfl⟩

set_option maxHeartbeats 2000000 in
theorem szK_System (v0 v1 : Value) (d : Dat sSystem) (left : Int) (w : World) (h : Rd w w.heap.size sSystem [v0, v1] d) (h0 : 0 ≤ left) (h1 : left ≤ 1048576) :
    Calls Try.prog 10 #[.agg #[v0, v1], .int .i64 left] w (AnsSzK w left (sz sSystem d)) := by
  obtain ⟨g0, g1⟩ := parts_System h
  obtain ⟨t0, ht0⟩ : ∃ t, sz sSig d.1 = t := ⟨_, rfl⟩
  obtain ⟨t1, ht1⟩ : ∃ t, sz sRuleS d.2 = t := ⟨_, rfl⟩
  have HE : Hid (sz sSystem d = t0 + t1) := Lib.hid (by rw [← ht0, ← ht1]; simp only [sz]; try omega)
  have HT0 := Lib.hid ht0
  have G0 := Lib.hid g0
  have HT1 := Lib.hid ht1
  have G1 := Lib.hid g1
  obtain ⟨W, hW⟩ : ∃ W, W = w.alloc (.cells #[v0, v1] 27) := ⟨_, rfl⟩
  have r : Row W w.heap.size 27 #[v0, v1] := by rw [hW]; exact Row.new _ _ _
  have bel : Below w.heap.size w W := by rw [hW]; exact (Below.refl _ _).alloc (Nat.le_refl _) _
  have HW := Lib.hid hW
  clear hW h g0 g1 ht0 ht1
  go_enter Try.func10, Try.ntmps10
  go_wp2_with fail
  rw [← HW.out]
  refine (szK_Sig _ _ left W (G0.out.next bel) h0 h1).mono ?_
  rintro e w1 ⟨he, bb⟩
  rw [HT0.out] at he
  replace r := r.next bb
  replace bel := next_trans bel bb
  clear bb
  by_cases q0 : left - (t0 : Int) < 0
  · rw [if_pos q0] at he
    subst he
    have F : AnsSzK w left (sz sSystem d) (.returned (.int .i64 (-1))) w1 := ⟨by rw [HE.out, if_pos (by omega)], bel⟩
    have HF := Lib.hid F
    clear F bel r
    go_wp2
    go_ret
    exact HF.out
  rw [if_neg q0] at he
  obtain ⟨l0, hl0⟩ : ∃ l, left - (t0 : Int) = l := ⟨_, rfl⟩
  rw [hl0] at he
  have a0 : 0 ≤ l0 := by omega
  have b0 : l0 ≤ 1048576 := by omega
  have HL0 := Lib.hid hl0
  clear hl0 q0
  subst he
  have c0_0 : w1.cell? ⟨w.heap.size, 1, none⟩ = some (v1) := r.cell 1
  go_wp2_with fail
  refine (szK_RuleS _ _ l0 w1 (G1.out.next bel) a0 b0).mono ?_
  rintro e w2 ⟨he, bb⟩
  rw [HT1.out] at he
  replace r := r.next bb
  replace bel := next_trans bel bb
  clear bb
  by_cases q1 : l0 - (t1 : Int) < 0
  · rw [if_pos q1] at he
    subst he
    have F : AnsSzK w left (sz sSystem d) (.returned (.int .i64 (-1))) w2 := ⟨by have := HL0.out; rw [HE.out, if_pos (by omega)], bel⟩
    have HF := Lib.hid F
    clear F bel r
    go_wp2
    go_ret
    exact HF.out
  rw [if_neg q1] at he
  obtain ⟨l1, hl1⟩ : ∃ l, l0 - (t1 : Int) = l := ⟨_, rfl⟩
  rw [hl1] at he
  have a1 : 0 ≤ l1 := by omega
  have b1 : l1 ≤ 1048576 := by omega
  have HL1 := Lib.hid hl1
  clear hl1 q1
  subst he
  have F : AnsSzK w left (sz sSystem d) (.returned (.int .i64 l1)) w2 := ⟨by have := HL0.out; have := HL1.out; rw [HE.out, if_neg (by omega)]; exact congrArg (fun z => Ending.returned (.int .i64 z)) (by omega), bel⟩
  have HF := Lib.hid F
  clear F bel r
  go_wp2
  go_ret
  exact HF.out

def CopySystem (w : World) (d : Dat sSystem) (e : Ending) (w' : World) : Prop := ∃ A0 n0 c0 A1 n1 c1, e = .returned (.agg #[.slice A0 n0 c0, .slice A1 n1 c1]) ∧ Owned w' w.heap.size w'.heap.size sSystem [.slice A0 n0 c0, .slice A1 n1 c1] d ∧ Below w.heap.size w w'
set_option maxHeartbeats 2000000 in
theorem toK_System (v0 v1 : Value) (d : Dat sSystem) (w : World) (h : Rd w w.heap.size sSystem [v0, v1] d) (hz : sz sSystem d ≤ 1048576) :
    Calls Try.prog 12 #[.agg #[v0, v1]] w (CopySystem w d) := by
  obtain ⟨g0, g1⟩ := parts_System h
  have cp0 := CpS.zero w 27 35 #[v0, v1] #[.slice none 0 0, .slice none 0 0]
  obtain ⟨W, hW⟩ : ∃ W, W = ((w.alloc (.cells #[v0, v1] 27)).alloc (.cells #[.slice none 0 0, .slice none 0 0] 35)).alloc (.cells #[.slice none 0 0, .slice none 0 0] 35) := ⟨_, rfl⟩
  rw [← hW] at cp0
  have HW := Lib.hid hW
  have G0 := Lib.hid g0
  have Z0 : Hid (sz sSig d.1 ≤ 1048576) := Lib.hid (by have := hz; simp only [sz] at this ⊢; omega)
  have G1 := Lib.hid g1
  have Z1 : Hid (sz sRuleS d.2 ≤ 1048576) := Lib.hid (by have := hz; simp only [sz] at this ⊢; omega)
  clear hW hz h g0 g1
  go_enter Try.func12, Try.ntmps12
  go_wp2_with fail
  rw [← HW.out]
  refine (toK_Sig _ _ _ ((G0.out.below cp0.bel).more cp0.bel.size) Z0.out).mono ?_
  rintro e w1 ⟨x0A0, x0n0, x0c0, rfl, o0, bb⟩
  have zb0 := bb.size
  have zc0 := cp0.size
  replace cp0 := cp0.next bb
  clear bb
  have f0_0 : w1.frozen? ⟨w.heap.size + 1 + 1, 0, none⟩ = false := cp0.cur.free 0
  have k0_0 : w1.cell? ⟨w.heap.size + 1 + 1, 0, none⟩ = some (.slice none 0 0) := cp0.cur.cell 0
  obtain ⟨w2, hw0⟩ : ∃ x, x = (w1.setCell ⟨w.heap.size + 1 + 1, 0, none⟩ (.slice x0A0 x0n0 x0c0)) := ⟨_, rfl⟩
  replace o0 := o0.put (g := w.heap.size + 1 + 1) (i := 0) (u := .slice x0A0 x0n0 x0c0) (by omega)
  rw [← hw0] at o0
  replace cp0 : CpS w 27 35 #[v0, v1] #[.slice none 0 0, .slice none 0 0] #[.slice x0A0 x0n0 x0c0, .slice none 0 0] w2 := by rw [hw0]; exact (CpS.put cp0 0 (.slice x0A0 x0n0 x0c0))
  have zw0 : w2.heap.size = w1.heap.size := by rw [hw0]; simp
  have HW0 := Lib.hid hw0
  clear hw0
  have d1_0 : w2.cell? ⟨w.heap.size, 1, none⟩ = some (v1) := cp0.box.cell 1
  rw [HW0.out] at d1_0
  go_wp2_with fail
  rw [← HW0.out]
  clear d1_0
  refine (toK_RuleS _ _ _ ((G1.out.below cp0.bel).more cp0.bel.size) Z1.out).mono ?_
  rintro e w3 ⟨x1A0, x1n0, x1c0, rfl, o1, bb⟩
  replace o0 := o0.next bb
  have zb1 := bb.size
  have zc1 := cp0.size
  replace cp0 := cp0.next bb
  clear bb
  have f1_0 : w3.frozen? ⟨w.heap.size + 1 + 1, 1, none⟩ = false := cp0.cur.free 1
  have k1_0 : w3.cell? ⟨w.heap.size + 1 + 1, 1, none⟩ = some (.slice none 0 0) := cp0.cur.cell 1
  obtain ⟨w4, hw1⟩ : ∃ x, x = (w3.setCell ⟨w.heap.size + 1 + 1, 1, none⟩ (.slice x1A0 x1n0 x1c0)) := ⟨_, rfl⟩
  replace o0 := o0.put (g := w.heap.size + 1 + 1) (i := 1) (u := .slice x1A0 x1n0 x1c0) (by omega)
  rw [← hw1] at o0
  replace o1 := o1.put (g := w.heap.size + 1 + 1) (i := 1) (u := .slice x1A0 x1n0 x1c0) (by omega)
  rw [← hw1] at o1
  replace cp0 : CpS w 27 35 #[v0, v1] #[.slice none 0 0, .slice none 0 0] #[.slice x0A0 x0n0 x0c0, .slice x1A0 x1n0 x1c0] w4 := by rw [hw1]; exact (CpS.put cp0 1 (.slice x1A0 x1n0 x1c0))
  have zw1 : w4.heap.size = w3.heap.size := by rw [hw1]; simp
  have HW1 := Lib.hid hw1
  clear hw1
  have y0 : w4.cell? ⟨w.heap.size + 1 + 1, 0, none⟩ = some (.slice x0A0 x0n0 x0c0) := cp0.cur.cell 0
  rw [HW1.out] at y0
  have y1 : w4.cell? ⟨w.heap.size + 1 + 1, 1, none⟩ = some (.slice x1A0 x1n0 x1c0) := cp0.cur.cell 1
  rw [HW1.out] at y1
  have s0 : (w4).cell? ⟨w.heap.size + 1, 0, none⟩ = some (.slice none 0 0) := cp0.res.cell 0
  rw [HW1.out] at s0
  have r0 : (w4).frozen? ⟨w.heap.size + 1, 0, none⟩ = false := cp0.res.free 0
  rw [HW1.out] at r0
  have s1 : ((w4.setCell ⟨w.heap.size + 1, 0, none⟩ (.slice x0A0 x0n0 x0c0))).cell? ⟨w.heap.size + 1, 1, none⟩ = some (.slice none 0 0) := (CpS.fin cp0 0 (.slice x0A0 x0n0 x0c0)).res.cell 1
  rw [HW1.out] at s1
  have r1 : ((w4.setCell ⟨w.heap.size + 1, 0, none⟩ (.slice x0A0 x0n0 x0c0))).frozen? ⟨w.heap.size + 1, 1, none⟩ = false := (CpS.fin cp0 0 (.slice x0A0 x0n0 x0c0)).res.free 1
  rw [HW1.out] at r1
  have oo : Owned w4 (w.heap.size + 1 + 1 + 1) w4.heap.size sSystem [.slice x0A0 x0n0 x0c0, .slice x1A0 x1n0 x1c0] d := join_System (m0 := W.heap.size) (m1 := w2.heap.size) (m2 := w4.heap.size) (o0.wider (Nat.le_refl _) (by omega)) (o1.wider (Nat.le_refl _) (by omega)) (by omega) (by omega) (by omega) (by omega)
  have F : CopySystem w d (.returned (.agg #[.slice x0A0 x0n0 x0c0, .slice x1A0 x1n0 x1c0])) ((w4.setCell ⟨w.heap.size + 1, 0, none⟩ (.slice x0A0 x0n0 x0c0)).setCell ⟨w.heap.size + 1, 1, none⟩ (.slice x1A0 x1n0 x1c0)) := ⟨x0A0, x0n0, x0c0, x1A0, x1n0, x1c0, rfl, Owned.wider (((oo.put (g := w.heap.size + 1) (i := 0) (u := .slice x0A0 x0n0 x0c0) (by omega)).put (g := w.heap.size + 1) (i := 1) (u := .slice x1A0 x1n0 x1c0) (by omega))) (by omega) (by simp), ((CpS.fin (CpS.fin cp0 0 (.slice x0A0 x0n0 x0c0)) 1 (.slice x1A0 x1n0 x1c0))).bel⟩
  have u0 : (((w4.setCell ⟨w.heap.size + 1, 0, none⟩ (.slice x0A0 x0n0 x0c0)).setCell ⟨w.heap.size + 1, 1, none⟩ (.slice x1A0 x1n0 x1c0))).cell? ⟨w.heap.size + 1, 0, none⟩ = some (.slice x0A0 x0n0 x0c0) := (CpS.fin (CpS.fin cp0 0 (.slice x0A0 x0n0 x0c0)) 1 (.slice x1A0 x1n0 x1c0)).res.cell 0
  rw [HW1.out] at u0
  have u1 : (((w4.setCell ⟨w.heap.size + 1, 0, none⟩ (.slice x0A0 x0n0 x0c0)).setCell ⟨w.heap.size + 1, 1, none⟩ (.slice x1A0 x1n0 x1c0))).cell? ⟨w.heap.size + 1, 1, none⟩ = some (.slice x1A0 x1n0 x1c0) := (CpS.fin (CpS.fin cp0 0 (.slice x0A0 x0n0 x0c0)) 1 (.slice x1A0 x1n0 x1c0)).res.cell 1
  rw [HW1.out] at u1
  rw [HW1.out] at F
  have HF := Lib.hid F
  clear F oo cp0 o0 o1
  go_wp2
  exact bodyPost_ret (v := .agg #[.slice x0A0 x0n0 x0c0, .slice x1A0 x1n0 x1c0]) (by simp [results, Try.results12, go_sem, u0, u1]) rfl HF.out

set_option maxHeartbeats 2000000 in
theorem eqK_System (v0 v1 u0 u1 : Value) (d : Dat sSystem) (w : World) (h : Rd w w.heap.size sSystem [v0, v1] d) (h' : Rd w w.heap.size sSystem [u0, u1] d) (hz : sz sSystem d ≤ 1048576) :
    Calls Try.prog 16 #[.agg #[v0, v1], .agg #[u0, u1]] w (Yes w) := by
  obtain ⟨g0, g1⟩ := parts_System h
  obtain ⟨g0', g1'⟩ := parts_System h'
  obtain ⟨W, hW⟩ : ∃ W, W = (w.alloc (.cells #[v0, v1] 35)).alloc (.cells #[u0, u1] 35) := ⟨_, rfl⟩
  have ra : Row W w.heap.size 35 #[v0, v1] := by rw [hW]; exact (Row.new w 35 #[v0, v1]).alloc _
  have rb : Row W (w.heap.size + 1) 35 #[u0, u1] := by rw [hW]; have := Row.new (w.alloc (.cells #[v0, v1] 35)) 35 #[u0, u1]; simpa using this
  have bel : Below w.heap.size w W := by rw [hW]; exact ((Below.refl _ _).alloc (Nat.le_refl _) _).alloc (by simp) _
  have HW := Lib.hid hW
  have G0 := Lib.hid g0
  have G0' := Lib.hid g0'
  have Z0 : Hid (sz sSig d.1 ≤ 1048576) := Lib.hid (by have := hz; simp only [sz] at this ⊢; omega)
  have G1 := Lib.hid g1
  have G1' := Lib.hid g1'
  have Z1 : Hid (sz sRuleS d.2 ≤ 1048576) := Lib.hid (by have := hz; simp only [sz] at this ⊢; omega)
  clear hW hz h h' g0 g0' g1 g1'
  go_enter Try.func16, Try.ntmps16
  go_wp2_with fail
  rw [← HW.out]
  refine (eqK_Sig _ _ _ W (G0.out.next bel) (G0'.out.next bel) Z0.out).mono ?_
  rintro e w1 ⟨rfl, bb⟩
  replace ra := ra.next bb
  replace rb := rb.next bb
  replace bel := next_trans bel bb
  clear bb
  have a1_0 : w1.cell? ⟨w.heap.size, 1, none⟩ = some (v1) := ra.cell 1
  have b1_0 : w1.cell? ⟨w.heap.size + 1, 1, none⟩ = some (u1) := rb.cell 1
  go_wp2_with fail
  clear a1_0 b1_0
  refine (eqK_RuleS _ _ _ w1 (G1.out.next bel) (G1'.out.next bel) Z1.out).mono ?_
  rintro e w2 ⟨rfl, bb⟩
  replace ra := ra.next bb
  replace rb := rb.next bb
  replace bel := next_trans bel bb
  clear bb
  have F : Yes w (.returned (.bool true)) w2 := ⟨rfl, bel⟩
  have HF := Lib.hid F
  clear F ra rb bel
  go_wp2
  go_ret
  exact HF.out

end Go.Proofs.Ytpcnjcgglonifaa.kindsR
end

section
namespace Go.Proofs.Ytpcnjcgglonifaa.rename
open Go.RowKit base ints sig term termOk marks app sym segs termFacts varsMath varsOf renMath
set_option maxRecDepth 100000

theorem mem_of_get {t : List Int} {k : Nat} {x : Int} (hk : k < t.length) (hx : t.getD k 0 = x) : x ∈ t := by
  rw [← hx]
  simp [List.getD, hk]
theorem not_mem_of {t : List Int} {x : Int} (h : ∀ j, j < t.length → t.getD j 0 ≠ x) : x ∉ t := fun hx => by
  obtain ⟨j, hj, e⟩ := List.getElem_of_mem hx
  exact h j hj (by simp [List.getD, hj, e])

def HeadNo (n : Nat) (xs : List Int) (x : Int) (i : Value) : Prop := ∃ k : Nat, k ≤ n ∧ i = .int .i64 k ∧ ∀ j, j < k → xs.getD j 0 ≠ x
theorem headNo_step {n k : Nat} {xs : List Int} {x y : Int} (hk : k < n) (h : ∀ j, j < k → xs.getD j 0 ≠ x) (hy : Hid (xs.getD k 0 = y)) (hne : ¬ y = x) : HeadNo n xs x (.int .i64 ((k : Int) + 1)) :=
  ⟨k + 1, hk, by simp, fun j hj => by
    by_cases e : j = k
    · subst e; rw [hy.out]; exact hne
    · exact h j (by omega)⟩

set_option maxHeartbeats 1000000 in
theorem l1Has (A : Option Addr) (n c : Nat) (xs : List Int) (x : Int) (w : World) (h : Seg w w.heap.size A n xs) (hn : n ≤ 1048576) :
    Calls Try.prog 112 #[.slice A n c, .int .i64 x] w fun e w' => w = w' ∧ e = .returned (.bool (decide (x ∈ xs))) := by
  have HX := Lib.hid h.1
  go_enter Try.func112, Try.ntmps112
  go_wp2
  go_loop [5] (fun i => HeadNo n xs x i) (fun i => n - (intOf i).toNat)
  case atStart => exact ⟨0, Nat.zero_le _, rfl, fun j hj => absurd hj (Nat.not_lt_zero _)⟩
  case round =>
    obtain ⟨k, hk, rfl, hlow⟩ := hrel
    by_cases hlt : k < n
    · obtain ⟨b, off, y, rfl, -, hy, ey⟩ := h.spot hlt
      by_cases he : y = x
      · subst he
        have F := Lib.hid (show y ∈ xs from mem_of_get (by rw [HX.out]; exact hlt) ey.out)
        have e1 : (y == y) = true := by simp
        clear h ey hlow
        go_wp2
        go_ret
        exact ⟨rfl, by rw [decide_eq_true F.out]; rfl⟩
      · have S := Lib.hid (headNo_step hlt hlow ey he)
        have e1 : (y == x) = false := by simp [he]
        clear h ey hlow
        go_wp2
        go_round
        case rel => exact S.out
        case measure => simp [intOf]; omega
    · have F := Lib.hid (not_mem_of (t := xs) (x := x) (fun j hj => hlow j (by rw [HX.out] at hj; omega)))
      clear h hlow
      go_wp2
      go_ret
      exact ⟨rfl, by rw [decide_eq_false F.out]; rfl⟩

def indexI (xs : List Int) (x : Int) : Int := if x ∈ xs then (idx xs x : Int) else -1
set_option maxHeartbeats 1000000 in
theorem indexOf (A : Option Addr) (n c : Nat) (xs : List Int) (x : Int) (w : World) (h : Seg w w.heap.size A n xs) (hn : n ≤ 1048576) :
    Calls Try.prog 115 #[.slice A n c, .int .i64 x] w fun e w' => w = w' ∧ e = .returned (.int .i64 (indexI xs x)) := by
  have HX := Lib.hid h.1
  go_enter Try.func115, Try.ntmps115
  go_wp2
  go_loop [8] (fun i => HeadNo n xs x i) (fun i => n - (intOf i).toNat)
  case atStart => exact ⟨0, Nat.zero_le _, rfl, fun j hj => absurd hj (Nat.not_lt_zero _)⟩
  case round =>
    obtain ⟨k, hk, rfl, hlow⟩ := hrel
    by_cases hlt : k < n
    · obtain ⟨b, off, y, rfl, -, hy, ey⟩ := h.spot hlt
      by_cases he : y = x
      · subst he
        have F := Lib.hid (show indexI xs y = (k : Int) by
          have hkl : k < xs.length := by rw [HX.out]; exact hlt
          unfold indexI
          rw [if_pos (mem_of_get hkl ey.out), idx_first hkl hlow ey.out])
        have e1 : (y == y) = true := by simp
        clear h ey hlow
        go_wp2
        go_ret
        exact ⟨rfl, by rw [F.out]; rfl⟩
      · have S := Lib.hid (headNo_step hlt hlow ey he)
        have e1 : (x == y) = false := by simp; exact fun e => he e.symm
        clear h ey hlow
        go_wp2
        go_round
        case rel => exact S.out
        case measure => simp [intOf]; omega
    · have F := Lib.hid (show indexI xs x = -1 by unfold indexI; rw [if_neg (not_mem_of (fun j hj => hlow j (by rw [HX.out] at hj; omega)))])
      clear h hlow
      go_wp2
      go_ret
      exact ⟨rfl, by rw [F.out]; rfl⟩

def upTo (o : List Int) (x : Int) (q : Nat) : Int := if idx o x < q then -1 - (idx o x : Int) else x
end Go.Proofs.Ytpcnjcgglonifaa.rename
end

section
namespace Go.Proofs.Ytpcnjcgglonifaa.same
open Go.RowKit base ints

set_option maxHeartbeats 400000 in
theorem specSame (A A' : Option Addr) (n m c c' : Nat) (xs ys : List Int) (w : World) (h : Seg w w.heap.size A n xs) (h' : Seg w w.heap.size A' m ys) (hn : n ≤ 1048576) (hm : m ≤ 1048576) :
    Calls Try.prog 76 #[.slice A n c, .slice A' m c'] w (AnsSame w xs ys) := by
  by_cases hnm : n = m
  · subst hnm
    go_enter Try.func76, Try.ntmps76
    go_wp2
    go_loopw [5] (fun i wr => HeadSame w n xs ys i wr) (fun i _ => n - (intOf i).toNat)
    case atStart => exact ⟨0, 0, Nat.zero_le _, rfl, rfl, fun j h => absurd h (Nat.not_lt_zero _)⟩
    case round =>
      obtain ⟨k, d, hk, rfl, rfl, hc⟩ := hrel
      by_cases hlt : k < n
      · obtain ⟨b, off, x, rfl, -, hx, ex⟩ := h.spot hlt
        obtain ⟨b', off', y, rfl, -, hx', ey⟩ := h'.spot hlt
        by_cases he : x = y
        · subst he
          have S := Lib.hid (alike_step (w := w) hlt hc ex ey)
          clear hc h h' ex ey
          go_wp2
          go_quiet (fail)
          go_wp2
          go_roundw
          case rel => exact S.out _
          case measure => simp [intOf]; omega
        · have S := Lib.hid (same_not (w := w) ex ey he)
          have hne : (x != y) = true := by simp [he]
          clear hc h h' ex ey he
          go_wp2
          go_quiet (fail)
          go_wp2
          go_ret
          rw [World.drewN_drewN]
          exact S.out _
      · have S := Lib.hid (same_yes (w := w) h.1 h'.1 hlt hc)
        clear hc h h'
        go_wp2
        go_ret
        exact S.out _
  · have S := Lib.hid (same_len (w := w) h.1 h'.1 hnm)
    have hne : ((n : Int) != (m : Int)) = true := by simp; omega
    clear h h'
    go_enter Try.func76, Try.ntmps76
    go_wp2
    go_ret
    exact S.out
set_option maxHeartbeats 400000 in
theorem libEqual (A A' : Option Addr) (n m c c' : Nat) (xs ys : List Int) (w : World) (h : Seg w w.heap.size A n xs) (h' : Seg w w.heap.size A' m ys) (hn : n ≤ 1048576) (hm : m ≤ 1048576) :
    Calls Try.prog 129 #[.slice A n c, .slice A' m c'] w (AnsSame w xs ys) := by
  by_cases hnm : n = m
  · subst hnm
    go_enter Try.func129, Try.ntmps129
    go_wp2
    go_loopw [13] (fun i wr => HeadSame w n xs ys i wr) (fun i _ => n - (intOf i).toNat)
    case atStart => exact ⟨0, 0, Nat.zero_le _, rfl, rfl, fun j h => absurd h (Nat.not_lt_zero _)⟩
    case round =>
      obtain ⟨k, d, hk, rfl, rfl, hc⟩ := hrel
      by_cases hlt : k < n
      · obtain ⟨b, off, x, rfl, -, hx, ex⟩ := h.spot hlt
        obtain ⟨b', off', y, rfl, -, hx', ey⟩ := h'.spot hlt
        by_cases he : x = y
        · subst he
          have S := Lib.hid (alike_step (w := w) hlt hc ex ey)
          clear hc h h' ex ey
          go_wp2
          go_quiet (fail)
          go_wp2
          go_roundw
          case rel => exact S.out _
          case measure => simp [intOf]; omega
        · have S := Lib.hid (same_not (w := w) ex ey he)
          have hne : (x != y) = true := by simp [he]
          clear hc h h' ex ey he
          go_wp2
          go_quiet (fail)
          go_wp2
          go_ret
          rw [World.drewN_drewN]
          exact S.out _
      · have S := Lib.hid (same_yes (w := w) h.1 h'.1 hlt hc)
        clear hc h h'
        go_wp2
        go_ret
        exact S.out _
  · have S := Lib.hid (same_len (w := w) h.1 h'.1 hnm)
    have hne : ((n : Int) != (m : Int)) = true := by simp; omega
    clear h h'
    go_enter Try.func129, Try.ntmps129
    go_wp2
    go_ret
    exact S.out

theorem implSame (A A' : Option Addr) (n m c c' : Nat) (xs ys : List Int) (w : World) (h : Seg w w.heap.size A n xs) (h' : Seg w w.heap.size A' m ys) (hn : n ≤ 1048576) (hm : m ≤ 1048576) :
    Calls Try.prog 128 #[.slice A n c, .slice A' m c'] w (AnsSame w xs ys) := by
  have L := Lib.hid (libEqual A A' n m c c' xs ys w h h' hn hm)
  clear h h'
  go_enter Try.func128, Try.ntmps128
  go_wp2_with fail
  refine L.out.mono ?_
  rintro e w' ⟨rfl, d, rfl⟩
  go_wp2
  go_ret
  exact ⟨rfl, d, rfl⟩
end Go.Proofs.Ytpcnjcgglonifaa.same
end

section
namespace Go.Proofs.Ytpcnjcgglonifaa.ruleSpec
open Go.RowKit renMath base ints sig term termOk marks app sym segs termFacts varsMath varsOf rename same count linear shape kindsR ruleMath
set_option maxRecDepth 100000

theorem box1 (w : World) (t : TypeId) (cs : Array Value) : ∃ W, W = w.alloc (.cells cs t) ∧ Row W w.heap.size t cs ∧ Below w.heap.size w W :=
  ⟨_, rfl, Row.new _ _ _, (Below.refl _ _).alloc (Nat.le_refl _) _⟩
theorem box2 (w : World) (t t' : TypeId) (cs cs' : Array Value) : ∃ W, W = (w.alloc (.cells cs t)).alloc (.cells cs' t') ∧ Row W w.heap.size t cs ∧ Row W (w.heap.size + 1) t' cs' ∧ Below w.heap.size w W := by
  refine ⟨_, rfl, ?_, ?_, ?_⟩
  · have := (Row.new w t cs).alloc (.cells cs' t'); simpa using this
  · have := Row.new (w.alloc (.cells cs t)) t' cs'; simpa using this
  · exact ((Below.refl _ _).alloc (Nat.le_refl _) _).alloc (by simp) _
theorem len_ints {xs : List Int} {n : Nat} (hl : xs.length = n) (h : sz sI xs ≤ 1048576) : n ≤ 1048576 := by rw [sz_ints, hl] at h; exact h
theorem rule_szs {d : Dat sRule} (h : sz sRule d ≤ 1048576) : sz sI d.1 ≤ 1048576 ∧ sz sI d.2 ≤ 1048576 := by
  simp only [sz] at h ⊢
  omega
theorem sys_szs {d : Dat sSystem} (h : sz sSystem d ≤ 1048576) : sz sI d.1 ≤ 1048576 ∧ sz sRuleS d.2 ≤ 1048576 := by
  have h : sz sI d.1 + sz sRuleS d.2 ≤ 1048576 := h
  omega
theorem rd_rule {w : World} {B : Nat} {l r : Value} {d : Dat sRule} (h : Rd w B sRule [l, r] d) (hz : sz sRule d ≤ 1048576) : ∃ A n c A' n' c', l = .slice A n c ∧ r = .slice A' n' c' ∧ Seg w B A n d.1 ∧ Cap A n c ∧ Seg w B A' n' d.2 ∧ Cap A' n' c' ∧ n ≤ 1048576 ∧ n' ≤ 1048576 := by
  obtain ⟨g0, g1⟩ := parts_Rule h
  obtain ⟨z0, z1⟩ := rule_szs hz
  obtain ⟨A, n, c, e, h1, h2⟩ := rd_ints.1 g0
  obtain ⟨A', n', c', e', h3, h4⟩ := rd_ints.1 g1
  exact ⟨A, n, c, A', n', c', e, e', h1, h2, h3, h4, len_ints h1.1 z0, len_ints h3.1 z1⟩

theorem rule_noL {sg : List Int} {d : Rl} (h : termOkB sg d.1 = false) : ruleOkB sg d = false := by unfold ruleOkB; rw [h]; rfl
theorem rule_noR {sg : List Int} {d : Rl} (h : termOkB sg d.2 = false) : ruleOkB sg d = false := by unfold ruleOkB; rw [h]; simp
theorem rule_var {sg : List Int} {d : Rl} (h : hd d.1 < 0) : ruleOkB sg d = false := by unfold ruleOkB; rw [decide_eq_true h]; simp
theorem rule_new {sg : List Int} {d : Rl} {x : Int} (hx : x ∈ d.2) (h0 : x < 0) (hn : x ∉ d.1) : ruleOkB sg d = false := by
  unfold ruleOkB
  have : d.2.any (newB d.1) = true := List.any_eq_true.2 ⟨x, hx, by unfold newB; exact decide_eq_true ⟨h0, hn⟩⟩
  rw [this]; simp
theorem rule_yes {sg : List Int} {d : Rl} {n : Nat} (h1 : termOkB sg d.1 = true) (h2 : termOkB sg d.2 = true) (h0 : ¬ hd d.1 < 0) (hl : d.2.length = n) (h : ∀ j, j < n → newB d.1 (d.2.getD j 0) = false) : ruleOkB sg d = true := by
  unfold ruleOkB
  have : d.2.any (newB d.1) = false := by
    rw [List.any_eq_false]
    intro x hx
    obtain ⟨i, hi, rfl⟩ := List.getElem_of_mem hx
    have := h i (by omega)
    have e : d.2.getD i 0 = d.2[i] := by simp [List.getD, hi]
    rw [e] at this; simp [this]
  rw [this, h1, h2, decide_eq_false h0]; rfl

def HeadRu (w : World) (T : TypeId) (cs : Array Value) (n : Nat) (d : Rl) (i : Value) (wr : World) : Prop :=
  ∃ k : Nat, k ≤ n ∧ i = .int .i64 k ∧ (∀ j, j < k → newB d.1 (d.2.getD j 0) = false) ∧ Row wr (w.heap.size + 1) T cs ∧ Below w.heap.size w wr
theorem headRu_step {w wr : World} {T : TypeId} {cs : Array Value} {n k : Nat} {d : Rl} {x : Int} (hk : k < n) (hlow : ∀ j, j < k → newB d.1 (d.2.getD j 0) = false) (ex : Hid (d.2.getD k 0 = x)) (h : ¬ x < 0 ∨ x ∈ d.1) (hr : Row wr (w.heap.size + 1) T cs) (hb : Below w.heap.size w wr) : HeadRu w T cs n d (.int .i64 ((k : Int) + 1)) wr :=
  ⟨k + 1, hk, by simp, fun j hj => by
    by_cases e : j = k
    · subst e
      rw [ex.out]; unfold newB
      exact decide_eq_false fun hh => by rcases h with h | h; exact h hh.1; exact hh.2 h
    · exact hlow j (by omega), hr, hb⟩

set_option maxHeartbeats 4000000 in
theorem specRuleOk (a l r : Value) (sg : List Int) (d : Dat sRule) (w : World) (h : Rd w w.heap.size sI [a] sg) (h' : Rd w w.heap.size sRule [l, r] d) (hz : sz sI sg ≤ 1048576) (hz' : sz sRule d ≤ 1048576) :
    Calls Try.prog 99 #[.agg #[a], .agg #[l, r]] w (AnsB w (ruleOkB sg d)) := by
  obtain ⟨A, n, c, rfl, hs, hc⟩ := rd_ints.1 h
  have hn := len_ints hs.1 hz
  obtain ⟨A1, n1, c1, A2, n2, c2, rfl, rfl, s1, k1, s2, k2, hn1, hn2⟩ := rd_rule h' hz'
  obtain ⟨W, hW, rA, rR, bel⟩ := box2 w 32 100 #[.slice A n c] #[.slice A1 n1 c1, .slice A2 n2 c2]
  have HW := Lib.hid hW
  have HL1 := Lib.hid s1.1
  have HL2 := Lib.hid s2.1
  have L1 := Lib.hid (specTermOk A A1 n c n1 c1 sg d.1 W (hs.next bel) (s1.next bel) hn hn1)
  have L2 := Lib.hid (fun (w1 : World) (bb : Below w.heap.size w w1) => specTermOk A A2 n c n2 c2 sg d.2 w1 (hs.next bb) (s2.next bb) hn hn2)
  clear hW h h' hz hz' hs hc k1 k2
  cases ok1 : termOkB sg d.1 with
  | false =>
    have HS := Lib.hid ok1
    clear ok1 s1 s2
    go_enter Try.func99, Try.ntmps99
    go_wp2_with fail
    rw [← HW.out]
    refine L1.out.mono ?_
    rintro e w1 ⟨he, bb⟩
    rw [HS.out] at he
    subst he
    have F := Lib.hid (ansB (b := ruleOkB sg d) (a := false) (by rw [rule_noL HS.out]) (next_trans bel bb))
    clear bb bel rA rR
    go_wp2
    go_ret
    exact F.out
  | true =>
    have hp1 := (term_len ok1).1
    rw [s1.1] at hp1
    obtain ⟨b, off, x, rfl, hbB, hx, ex⟩ := s1.spot (k := 0) (by omega)
    have HS := Lib.hid ok1
    have EX := Lib.hid (show hd d.1 = x from ex.out)
    have i0 : (0 : Int) < (n1 : Int) := by omega
    clear ok1 ex
    go_enter Try.func99, Try.ntmps99
    go_wp2_with fail
    rw [← HW.out]
    refine L1.out.mono ?_
    rintro e w1 ⟨he, bb⟩
    rw [HS.out] at he
    subst he
    replace rA := rA.next bb
    replace rR := rR.next bb
    replace bel := next_trans bel bb
    have cA : w1.cell? ⟨w.heap.size, 0, none⟩ = some (.slice A n c) := rA.cell 0
    have cR : w1.cell? ⟨w.heap.size + 1, 1, none⟩ = some (.slice A2 n2 c2) := rR.cell 1
    clear bb L1
    go_wp2_with fail
    refine (L2.out w1 bel).mono ?_
    cases ok2 : termOkB sg d.2 with
    | false =>
      have HS2 := Lib.hid ok2
      clear ok2
      rintro e w2 ⟨he, bb⟩
      rw [HS2.out] at he
      subst he
      have F := Lib.hid (ansB (b := ruleOkB sg d) (a := false) (by rw [rule_noR HS2.out]) (next_trans bel bb))
      clear bb bel rA rR cA cR s1 s2
      go_wp2
      go_ret
      exact F.out
    | true =>
      have HS2 := Lib.hid ok2
      clear ok2
      rintro e w2 ⟨he, bb⟩
      rw [HS2.out] at he
      subst he
      replace rR := rR.next bb
      replace bel := next_trans bel bb
      have cR0 : w2.cell? ⟨w.heap.size + 1, 0, none⟩ = some (.slice (some ⟨b, off, none⟩) n1 c1) := rR.cell 0
      have cX : w2.cell? ⟨b, off, none⟩ = some (.int .i64 x) := by have := (bel.cell (p := ⟨b, off + 0, none⟩) hbB).trans hx; simpa using this
      clear bb rA cA cR L2
      by_cases hneg : x < 0
      · have F := Lib.hid (ansB (b := ruleOkB sg d) (a := false) (by rw [rule_var (by rw [EX.out]; exact hneg)]) bel)
        have hdx : decide (x < 0) = true := decide_eq_true hneg
        clear bel rR s1 s2
        go_wp2
        go_ret
        exact F.out
      · have hdx : decide (x < 0) = false := decide_eq_false hneg
        have H0 : Hid (HeadRu w 100 #[.slice (some ⟨b, off, none⟩) n1 c1, .slice A2 n2 c2] n2 d (.int .i64 0) w2) := Lib.hid ⟨0, Nat.zero_le _, rfl, fun j hj => absurd hj (Nat.not_lt_zero _), rR, bel⟩
        clear bel rR
        go_wp2_with fail
        go_loopw [5] (fun i wr => HeadRu w 100 #[.slice (some ⟨b, off, none⟩) n1 c1, .slice A2 n2 c2] n2 d i wr) (fun i _ => n2 - (intOf i).toNat)
        case atStart => exact H0.out
        case round =>
          obtain ⟨k, hk, rfl, hlow, rr, hb⟩ := hrel
          have HLOW := Lib.hid hlow
          clear hlow H0
          have cR0 : wr.cell? ⟨w.heap.size + 1, 0, none⟩ = some (.slice (some ⟨b, off, none⟩) n1 c1) := rr.cell 0
          have cR1 : wr.cell? ⟨w.heap.size + 1, 1, none⟩ = some (.slice A2 n2 c2) := rr.cell 1
          by_cases hlt : k < n2
          · obtain ⟨b2, off2, y, rfl, hbB2, hy, ey⟩ := s2.spot hlt
            have hy1 : wr.cell? ⟨b2, off2 + k, none⟩ = some (.int .i64 y) := (hb.cell (p := ⟨b2, off2 + k, none⟩) hbB2).trans hy
            have hmem := mem_of_get (by rw [HL2.out]; exact hlt) ey.out
            have j0 : (0 : Int) ≤ (k : Int) := by omega
            have j1 : (k : Int) < (n2 : Int) := by omega
            have LH := Lib.hid (fun d' : Nat => l1Has (some ⟨b, off, none⟩) n1 c1 d.1 y (wr.drewN d') (((s1.next hb).drewN d')) hn1)
            by_cases hyn : y < 0
            · have hdy : decide (y < 0) = true := decide_eq_true hyn
              by_cases hin : y ∈ d.1
              · have E := Lib.hid (decide_eq_true hin)
                have S := Lib.hid (fun d' : Nat => headRu_step (w := w) (wr := wr.drewN d') hlt HLOW.out ey (.inr hin) (rr.drewN d') (below_drewN hb d'))
                clear s1 s2 rr hb hmem hin hy ey
                go_wp2_with fail
                go_quiet ((go_at_call 112; exact Calls.quiet_of_same (v := .bool true) ((LH.out _).mono fun _ _ ⟨h1, h2⟩ => ⟨by rw [h2, E.out], h1.symm⟩)))
                go_wp2
                go_roundw
                case rel => exact S.out _
                case measure => simp [intOf]; omega
              · have E := Lib.hid (decide_eq_false hin)
                have F := Lib.hid (fun d' : Nat => ansB (w' := wr.drewN d') (b := ruleOkB sg d) (a := false) (by rw [rule_new hmem hyn hin]) (below_drewN hb d'))
                clear s1 s2 rr hb hmem hin hy ey
                go_wp2_with fail
                go_quiet ((go_at_call 112; exact Calls.quiet_of_same (v := .bool false) ((LH.out _).mono fun _ _ ⟨h1, h2⟩ => ⟨by rw [h2, E.out], h1.symm⟩)))
                go_wp2
                go_ret
                exact F.out _
            · have S := Lib.hid (fun d' : Nat => headRu_step (w := w) (wr := wr.drewN d') hlt HLOW.out ey (.inl hyn) (rr.drewN d') (below_drewN hb d'))
              have hdy : decide (y < 0) = false := decide_eq_false hyn
              clear s1 s2 rr hb hmem hy ey
              go_wp2_with fail
              go_quiet (fail)
              go_wp2
              go_roundw
              case rel => exact S.out _
              case measure => simp [intOf]; omega
          · have F := Lib.hid (ansB (b := ruleOkB sg d) (a := true) (by rw [rule_yes HS.out HS2.out (by rw [EX.out]; omega) HL2.out (fun j hj => HLOW.out j (by omega))]) hb)
            clear s1 s2 rr hb
            go_wp2
            go_ret
            exact F.out

def HeadSy (w : World) (T : TypeId) (cs : Array Value) (n : Nat) (f : Rl → Bool) (rs : List Rl) (i : Value) (wr : World) : Prop :=
  ∃ k : Nat, k ≤ n ∧ i = .int .i64 k ∧ (∀ j, j < k → f (rs.getD j ([], [])) = true) ∧ Row wr w.heap.size T cs ∧ Below w.heap.size w wr
theorem headSy_step {w wr : World} {T : TypeId} {cs : Array Value} {n k : Nat} {f : Rl → Bool} {rs : List Rl} {x : Rl} (hk : k < n) (hlow : ∀ j, j < k → f (rs.getD j ([], [])) = true) (ex : Hid (rs.getD k ([], []) = x)) (h : f x = true) (hr : Row wr w.heap.size T cs) (hb : Below w.heap.size w wr) : HeadSy w T cs n f rs (.int .i64 ((k : Int) + 1)) wr :=
  ⟨k + 1, hk, by simp, fun j hj => by
    by_cases e : j = k
    · subst e; rw [ex.out]; exact h
    · exact hlow j (by omega), hr, hb⟩

theorem rd_sys {w : World} {B : Nat} {a v : Value} {d : Dat sSystem} (h : Rd w B sSystem [a, v] d) (hz : sz sSystem d ≤ 1048576) : ∃ A n c A' n' c', a = .slice A n c ∧ v = .slice A' n' c' ∧ Seg w B A n d.1 ∧ Cap A n c ∧ Cap A' n' c' ∧ d.2.length = n' ∧ n ≤ 1048576 ∧ n' ≤ 1048576 ∧ Rd w B sRuleS [.slice A' n' c'] d.2 ∧ Rd w B sI [.slice A n c] d.1 ∧ (∀ j, j < n' → sz sRule (d.2.getD j ([], [])) ≤ 1048576) := by
  obtain ⟨g0, g1⟩ := parts_System h
  obtain ⟨z0, z1⟩ := sys_szs hz
  obtain ⟨A, n, c, e, h1, h2⟩ := rd_ints.1 g0
  obtain ⟨A', c', e', h3⟩ := g1.slice
  subst e e'
  exact ⟨A, n, c, A', d.2.length, c', rfl, rfl, h1, h2, h3, rfl, len_ints h1.1 z0, sz_len z1, g1, g0, fun j hj => sz_each z1 hj⟩
theorem rd_at {w wr : World} {B : Nat} {A : Option Addr} {n c : Nat} {rs : List Rl} {k : Nat} (h : Rd w B sRuleS [.slice A n c] rs) (hb : Below B w wr) (hl : rs.length = n) (hk : k < n) : ∃ b off l r x, A = some ⟨b, off, none⟩ ∧ b < B ∧ Hid (rs.getD k ([], []) = x) ∧ wr.cell? ⟨b, off + k * 2, none⟩ = some l ∧ wr.cell? ⟨b, off + k * 2 + 1, none⟩ = some r ∧ Rd wr B sRule [l, r] x := by
  obtain ⟨b, off, n2, c2, es, ev, -, -, hbB, hel, hp, hr⟩ := h.elem (j := k) (by omega)
  injection ev with e1 e2 e3
  subst e1 e2 e3
  obtain ⟨v0, v1, rfl⟩ := cells_Rule hr
  have hpw := hp.keep (w' := wr) (fun p hp => hb.cell (p := p) (by rw [hp]; exact hbB))
  exact ⟨b, off, v0, v1, _, rfl, hbB, Lib.hid rfl, hpw 0 (by simp), hpw 1 (by simp), hr.below hb⟩

set_option maxHeartbeats 4000000 in
theorem specSystemOk (a v : Value) (d : Dat sSystem) (w : World) (h : Rd w w.heap.size sSystem [a, v] d) (hz : sz sSystem d ≤ 1048576) :
    Calls Try.prog 84 #[.agg #[a, v]] w (AnsB w (sysOkB d.1 d.2)) := by
  have hzs := Lib.hid (sys_szs hz)
  obtain ⟨A, n, c, A', m, c', rfl, rfl, hs, hc, hc', hm, hn, hm1, hrs, hsg, hE⟩ := rd_sys h hz
  obtain ⟨W, hW, rA, bel⟩ := box1 w 35 #[.slice A n c, .slice A' m c']
  have HW := Lib.hid hW
  have HM := Lib.hid hm
  have HE := Lib.hid hE
  have HR := Lib.hid hrs
  have L1 := Lib.hid (specSigOk A n c d.1 W (hs.next bel) hn)
  have LR := Lib.hid (fun (w1 : World) (l r : Value) (x : Dat sRule) (bb : Below w.heap.size w w1) (hx : Rd w1 w1.heap.size sRule [l, r] x) (hzx : sz sRule x ≤ 1048576) => specRuleOk (.slice A n c) l r d.1 x w1 (hsg.next bb) hx hzs.out.1 hzx)
  clear hW h hz hs hc hc' hm hE hrs hsg
  cases ok1 : sigOkB d.1 with
  | false =>
    have HS := Lib.hid ok1
    clear ok1
    go_enter Try.func84, Try.ntmps84
    go_wp2_with fail
    rw [← HW.out]
    refine L1.out.mono ?_
    rintro e w1 ⟨he, bb⟩
    rw [HS.out] at he
    subst he
    have F := Lib.hid (ansB (b := sysOkB d.1 d.2) (a := false) (by rw [sys_sig HS.out]) (next_trans bel bb))
    clear bb bel rA
    go_wp2
    go_ret
    exact F.out
  | true =>
    have HS := Lib.hid ok1
    clear ok1
    go_enter Try.func84, Try.ntmps84
    go_wp2_with fail
    rw [← HW.out]
    refine L1.out.mono ?_
    rintro e w1 ⟨he, bb⟩
    rw [HS.out] at he
    subst he
    replace rA := rA.next bb
    replace bel := next_trans bel bb
    have cR : w1.cell? ⟨w.heap.size, 1, none⟩ = some (.slice A' m c') := rA.cell 1
    clear bb L1
    by_cases h12 : m ≤ 12
    · have H0 : Hid (HeadSy w 35 #[.slice A n c, .slice A' m c'] m (ruleOkB d.1) d.2 (.int .i64 0) w1) := Lib.hid ⟨0, Nat.zero_le _, rfl, fun j hj => absurd hj (Nat.not_lt_zero _), rA, bel⟩
      clear rA bel
      go_wp2_with fail
      go_loopw [3] (fun i wr => HeadSy w 35 #[.slice A n c, .slice A' m c'] m (ruleOkB d.1) d.2 i wr) (fun i _ => m - (intOf i).toNat)
      case atStart => exact H0.out
      case round =>
        obtain ⟨k, hk, rfl, hlow, rr, hb⟩ := hrel
        have HLOW := Lib.hid hlow
        clear hlow H0 cR
        by_cases hlt : k < m
        · obtain ⟨b, off, l, r, x, rfl, hbB, ex, hc0, hc1, hx⟩ := rd_at HR.out hb HM.out hlt
          have cA : wr.cell? ⟨w.heap.size, 0, none⟩ = some (.slice A n c) := rr.cell 0
          have cR : wr.cell? ⟨w.heap.size, 1, none⟩ = some (.slice (some ⟨b, off, none⟩) m c') := rr.cell 1
          have hzx : sz sRule x ≤ 1048576 := by have := HE.out k hlt; rw [ex.out] at this; exact this
          have L := Lib.hid (LR.out wr.drew l r x hb.drew ((hx.more hb.size).keep (fun _ _ => rfl)) hzx)
          have i0 : (0 : Int) ≤ (k : Int) := by omega
          have i1 : (k : Int) < (m : Int) := by omega
          have hbr : b < wr.drew.heap.size := Nat.lt_of_lt_of_le hbB hb.size
          have rd := rr.drew
          have hbd := hb.drew
          clear hx rr hb hzx
          cases ok : ruleOkB d.1 x with
          | false =>
            have HO := Lib.hid ok
            clear ok
            have BAD := Lib.hid (show sysOkB d.1 d.2 = false from sys_bad (k := k) (by rw [HM.out]; exact hlt) (by rw [ex.out]; exact HO.out))
            have bA := rd.lt
            go_wp2_with fail
            go_region_held3 (fun w' => w'.cell? ⟨w.heap.size, 0, none⟩ = some (.slice A n c) ∧ w'.cell? ⟨w.heap.size, 1, none⟩ = some (.slice (some ⟨b, off, none⟩) m c') ∧ w'.cell? ⟨b, off + k * 2, none⟩ = some l ∧ w'.cell? ⟨b, off + k * 2 + 1, none⟩ = some r)
              (go_keep)
              (first
                | (go_at_call 99; refine L.out.mono ?_; rintro e w2 ⟨he, bb⟩; rw [HO.out] at he; subst he; have c1 : w2.cell? ⟨w.heap.size, 0, none⟩ = some (.slice A n c) := (rd.next bb).cell 0; have c2 : w2.cell? ⟨w.heap.size, 1, none⟩ = some (.slice (some ⟨b, off, none⟩) m c') := (rd.next bb).cell 1; have c3 := (bb.cell (p := ⟨b, off + k * 2, none⟩) hbr).trans hc0; have c4 := (bb.cell (p := ⟨b, off + k * 2 + 1, none⟩) hbr).trans hc1))
            have F := Lib.hid (ansB (b := sysOkB d.1 d.2) (a := false) BAD.out.symm (next_trans hbd bb))
            clear bb rd hbd L c1 c2 c3 c4 cA cR hc0 hc1
            go_wp2
            go_ret
            exact F.out
          | true =>
            have HO := Lib.hid ok
            clear ok
            have bA := rd.lt
            go_wp2_with fail
            go_region_held3 (fun w' => w'.cell? ⟨w.heap.size, 0, none⟩ = some (.slice A n c) ∧ w'.cell? ⟨w.heap.size, 1, none⟩ = some (.slice (some ⟨b, off, none⟩) m c') ∧ w'.cell? ⟨b, off + k * 2, none⟩ = some l ∧ w'.cell? ⟨b, off + k * 2 + 1, none⟩ = some r)
              (go_keep)
              (first
                | (go_at_call 99; refine L.out.mono ?_; rintro e w2 ⟨he, bb⟩; rw [HO.out] at he; subst he; have c1 : w2.cell? ⟨w.heap.size, 0, none⟩ = some (.slice A n c) := (rd.next bb).cell 0; have c2 : w2.cell? ⟨w.heap.size, 1, none⟩ = some (.slice (some ⟨b, off, none⟩) m c') := (rd.next bb).cell 1; have c3 := (bb.cell (p := ⟨b, off + k * 2, none⟩) hbr).trans hc0; have c4 := (bb.cell (p := ⟨b, off + k * 2 + 1, none⟩) hbr).trans hc1))
            have F := Lib.hid (headSy_step (f := ruleOkB d.1) (w := w) hlt HLOW.out ex HO.out (rd.next bb) (next_trans hbd bb))
            clear bb rd hbd L c1 c2 c3 c4 cA cR hc0 hc1
            go_wp2
            go_roundw
            case rel => exact F.out
            case measure => simp [intOf]; omega
        · have cR : wr.cell? ⟨w.heap.size, 1, none⟩ = some (.slice A' m c') := rr.cell 1
          have F := Lib.hid (ansB (b := sysOkB d.1 d.2) (a := true) (by rw [sys_good HS.out (by rw [HM.out]; exact h12) (fun j hj => HLOW.out j (by rw [HM.out] at hj; omega))]) hb)
          clear rr hb
          go_wp2
          go_ret
          exact F.out
    · have i1 : (12 : Int) < (m : Int) := by omega
      have F := Lib.hid (ansB (b := sysOkB d.1 d.2) (a := false) (by rw [sys_long HM.out h12]) bel)
      clear bel rA
      go_wp2
      go_ret
      exact F.out
end Go.Proofs.Ytpcnjcgglonifaa.ruleSpec
end

section
namespace Go.Proofs.Ytpcnjcgglonifaa.inside
open Go.RowKit base ints sig term arity endOf cursor termOk endAt
set_option maxRecDepth 100000

structure Fr (w wr : World) (A : Option Addr) (n c : Nat) (sg : List Int) (A' : Option Addr) (m : Nat) (t : List Int) : Prop where
  r : Row wr w.heap.size 32 #[.slice A n c]
  s : Seg wr w.heap.size A n sg
  s' : Seg wr w.heap.size A' m t
  b : Below w.heap.size w wr
section
variable {w wr w' : World} {A : Option Addr} {n c : Nat} {sg : List Int} {A' : Option Addr} {m : Nat} {t : List Int}
theorem Fr.start (h : Seg w w.heap.size A n sg) (h' : Seg w w.heap.size A' m t) : Fr w (w.alloc (.cells #[.slice A n c] 32)) A n c sg A' m t :=
  have b : Below w.heap.size w (w.alloc (.cells #[.slice A n c] 32)) := (Below.refl _ _).alloc (Nat.le_refl _) _
  ⟨Row.new _ _ _, h.below b, h'.below b, b⟩
theorem Fr.next (f : Fr w wr A n c sg A' m t) (hb : Below wr.heap.size wr w') : Fr w w' A n c sg A' m t :=
  have b : Below w.heap.size wr w' := hb.mono (Nat.le_of_lt f.r.lt)
  ⟨f.r.next hb, f.s.below b, f.s'.below b, f.b.trans b⟩
theorem Fr.over (f : Fr w wr A n c sg A' m t) (hb : Below (w.heap.size + 1) wr w') : Fr w w' A n c sg A' m t :=
  have b : Below w.heap.size wr w' := hb.mono (Nat.le_succ _)
  ⟨f.r.below hb (Nat.lt_succ_self _), f.s.below b, f.s'.below b, f.b.trans b⟩
theorem Fr.alloc (f : Fr w wr A n c sg A' m t) (o : Obj) : Fr w (wr.alloc o) A n c sg A' m t := f.next ((Below.refl _ _).alloc (Nat.le_refl _) _)
theorem Fr.cell (f : Fr w wr A n c sg A' m t) : wr.cell? ⟨w.heap.size, 0, none⟩ = some (.slice A n c) := f.r.cell 0
theorem Fr.s1 (f : Fr w wr A n c sg A' m t) : Seg wr wr.heap.size A n sg := f.s.more (Nat.le_of_lt f.r.lt)
theorem Fr.t1 (f : Fr w wr A n c sg A' m t) : Seg wr wr.heap.size A' m t := f.s'.more (Nat.le_of_lt f.r.lt)
theorem Fr.size (f : Fr w wr A n c sg A' m t) : w.heap.size < wr.heap.size := f.r.lt
end

end Go.Proofs.Ytpcnjcgglonifaa.inside
end

section
namespace Go.Proofs.Ytpcnjcgglonifaa.plainMath
open fillMath

def strip : List (List Int) → List (List Int)
  | [] => []
  | x :: r => if strip r = [] then (if x = [] then [] else [x]) else x :: strip r
theorem strip_snoc : ∀ (l : List (List Int)) (x : List Int), strip (l ++ [x]) = if x = [] then strip l else l ++ [x]
  | [], x => by
    show strip [x] = _
    by_cases h : x = [] <;> simp [strip, h]
  | y :: r, x => by
    rw [List.cons_append, strip, strip_snoc r x]
    by_cases h : x = []
    · simp [h, strip]
    · simp [h]
theorem strip_len : ∀ l : List (List Int), (strip l).length ≤ l.length
  | [] => by simp [strip]
  | x :: r => by
    have h := strip_len r
    rw [strip]
    split
    · split <;> simp
    · simp; omega
theorem strip_pad : ∀ l : List (List Int), strip l ++ List.replicate (l.length - (strip l).length) [] = l
  | [] => by simp [strip]
  | x :: r => by
    have h := strip_pad r
    rw [strip]
    by_cases h1 : strip r = []
    · rw [h1] at h
      rw [if_pos h1]
      have h2 : List.replicate r.length ([] : List Int) = r := by simpa using h
      by_cases h3 : x = []
      · rw [if_pos h3]
        subst h3
        simp only [List.length_cons, List.length_nil, Nat.sub_zero, List.nil_append]
        rw [List.replicate_succ, h2]
      · rw [if_neg h3]
        simp only [List.length_cons, List.length_nil]
        rw [show r.length + 1 - (0 + 1) = r.length by omega, h2]
        rfl
    · rw [if_neg h1]
      simp only [List.length_cons, List.cons_append]
      rw [show r.length + 1 - ((strip r).length + 1) = r.length - (strip r).length by omega, h]
theorem strip_last {l : List (List Int)} {q : Nat} (hq : q < l.length) (h : l.getD q [] ≠ []) : strip (l.take (q + 1)) = l.take (q + 1) := by
  have e : l.take (q + 1) = l.take q ++ [l.getD q []] := by
    rw [List.take_succ_eq_append_getElem hq]
    simp [List.getD, hq]
  rw [e, strip_snoc, if_neg h]
theorem strip_drop {l : List (List Int)} {q : Nat} (hq : q < l.length) (h : l.getD q [] = []) : strip (l.take (q + 1)) = strip (l.take q) := by
  have e : l.take (q + 1) = l.take q ++ [l.getD q []] := by
    rw [List.take_succ_eq_append_getElem hq]
    simp [List.getD, hq]
  rw [e, strip_snoc, if_pos h]
def bare (L : Nat → List Int) (i : Nat) : List Int := if L i = vt i then [] else L i
def rowsL (L : Nat → List Int) (m : Nat) : List (List Int) := (List.range m).map (bare L)
def plainL (L : Nat → List Int) (m : Nat) : List (List Int) := strip (rowsL L m)
theorem rows_len (L : Nat → List Int) (m : Nat) : (rowsL L m).length = m := by simp [rowsL]
theorem rows_get {L : Nat → List Int} {m i : Nat} (h : i < m) : (rowsL L m).getD i [] = bare L i := by simp [rowsL, List.getD, h]
theorem rows_succ (L : Nat → List Int) (m : Nat) : rowsL L (m + 1) = rowsL L m ++ [bare L m] := by simp [rowsL, List.range_succ]
theorem plain_len (L : Nat → List Int) (m : Nat) : (plainL L m).length ≤ m := by have := strip_len (rowsL L m); rw [rows_len] at this; exact this
theorem plain_pad (L : Nat → List Int) (m : Nat) : plainL L m ++ List.replicate (m - (plainL L m).length) [] = rowsL L m := by
  have := strip_pad (rowsL L m)
  rw [rows_len] at this
  exact this
theorem plain_get (L : Nat → List Int) (m i : Nat) : (plainL L m).getD i [] = (rowsL L m).getD i [] := by
  have h := plain_pad L m
  rw [← h]
  by_cases hi : i < (plainL L m).length
  · simp [List.getD, List.getElem?_append_left hi]
  · have e1 : (plainL L m)[i]? = none := List.getElem?_eq_none (by omega)
    simp only [List.getD, e1, Option.getD_none]
    rw [List.getElem?_append_right (by omega)]
    by_cases h2 : i - (plainL L m).length < m - (plainL L m).length
    · simp [List.getElem?_replicate, h2]
    · simp [List.getElem?_replicate, h2]
theorem rows_each {L : Nat → List Int} {m M : Nat} (hM : ∀ i, (L i).length ≤ M) (i : Nat) : ((rowsL L m).getD i []).length ≤ M := by
  by_cases h : i < m
  · rw [rows_get h]
    unfold bare
    split
    · simp
    · exact hM i
  · rw [show (rowsL L m).getD i [] = [] by simp [List.getD, rows_len, h]]
    simp
theorem plain_each {L : Nat → List Int} {m M : Nat} (hM : ∀ i, (L i).length ≤ M) (i : Nat) : ((plainL L m).getD i []).length ≤ M := by rw [plain_get]; exact rows_each hM i
end Go.Proofs.Ytpcnjcgglonifaa.plainMath
end

section
namespace Go.Proofs.Ytpcnjcgglonifaa.plain
open Go.RowKit base ints cursor same marks app appAt sym sub segs segsHelp kinds fillMath Go.Proofs.Ytpcnjcgglonifaa.look plainMath
set_option maxRecDepth 100000

theorem inn_own {w : World} {lo : Nat} {A : Option Addr} {n c : Nat} {xs : List Int} (h : Own w lo (.slice A n c) xs) : Inn w lo w.heap.size (.slice A n c) xs := by
  have hl := Own.len h
  subst hl
  exact ⟨A, c, rfl, h, fun k hk => (World.ownsRow.lt h k (by rw [blk_own]; exact hk)).2⟩

set_option maxHeartbeats 1000000 in
theorem appS1 {w : World} {ops : Array Oper} {rest : List Oper} {o : Oper} {a : Act} {Q : Exit → Act → World → Prop} (hgd : o.guard = none) (s x : Operand)
    (ho : o.op = .call { callee := .builtin .append, args := #[s, x], argTypes := #[29, 29] })
    (lo mid : Nat) (A : Option Addr) (n c : Nat) (xss : List (List Int)) (hs : a.eval s = .slice A n c) (hown : Owns w lo mid A n c xss)
    (g c2 : Nat) (v : Value) (ys : List Int) (hx : a.eval x = .slice (some ⟨g, 0, none⟩) 1 c2) (hy : w.cell? ⟨g, 0, none⟩ = some v) (hv : Inn w mid w.heap.size v ys) (hn : n ≤ 1048576) (hlo : lo ≤ mid) (hmid : mid ≤ w.heap.size)
    (h : ∀ A' c' w', Owns w' lo w'.heap.size A' (n + 1) c' (xss ++ [ys]) → w.grownBy w' (blk A) → (blk A' = blk A ∨ blk A' = some w.heap.size) → Below lo w w' → wpList Try.prog ops Q rest (a.put o.dst (.slice A' (n + 1) c')) w') : wpList Try.prog ops Q (o :: rest) a w := by
  obtain ⟨i0, hi, hz0, hz1, hz2⟩ := info_parts info_list
  obtain ⟨hlen, ⟨vs, hr, hin, hap⟩, htop⟩ := hown
  have hvl : vs.length = n := by have := hr.1; omega
  have hvc : v.oneCell' = true := by obtain ⟨A1, c1, rfl, _⟩ := hv; rfl
  refine wpList_append_own_at w hgd s x 29 ho lo 22 i0 (.slice none 0 0) 1 24 Try.underlying29 hi hz0 hz1 hz2 rfl (by decide) (.slice A n c) n vs hs hr
    ⟨g, 0, none⟩ 1 c2 [v] hx rfl (fun j u hj => ?_) (fun u hu => ?_) (by unfold maxLen; omega) (by omega) (by omega) ?_
  · match j, hj with
    | 0, hj => simp at hj; subst hj; simpa [Addr.add] using hy
  · simp at hu; subst hu; exact hvc
  · intro v' w' hown' hg _ hat
    have hform : ∃ A' c', v' = .slice A' (n + 1) c' := by
      rcases hown'.2 with ⟨_, h0⟩ | ⟨g', cap, cur, e, _⟩
      · omega
      · exact ⟨_, _, e⟩
    obtain ⟨A', c', rfl⟩ := hform
    rw [blk_own] at hg
    rw [blk_own, blk_own] at hat
    have hsz := hg.size
    have hne : ∀ {u : Value} {zs : List Int} {l2 h2 : Nat}, Inn w l2 h2 u zs → u.ownBlock = none ∨ u.ownBlock ≠ blk A := fun {u zs l2 h2} hu => by
      rcases own_form hr with ⟨rfl, _⟩ | ⟨g', cur, rfl, _, hrow, _⟩
      · cases e : u.ownBlock with
        | none => exact .inl rfl
        | some z => exact .inr (fun e2 => by cases e2)
      · exact .inr (hu.ne hrow)
    have hget : ∀ j, j < n → (vs ++ [v]).getD j undef = vs.getD j undef := fun j hj => by simp [List.getD, List.getElem?_append_left (show j < vs.length by omega)]
    have hget2 : ∀ j, j < n → (xss ++ [ys]).getD j [] = xss.getD j [] := fun j hj => by simp [List.getD, List.getElem?_append_left (show j < xss.length by omega)]
    have hnew : (vs ++ [v]).getD n undef = v := by simp [List.getD, ← hvl]
    have hnew2 : (xss ++ [ys]).getD n [] = ys := by simp [List.getD, ← hlen]
    refine h A' c' w' ⟨by simp [hlen], ⟨vs ++ [v], hown', fun j hj => ?_, fun i j k hij hj e1 e2 => ?_⟩, fun k hk => (World.ownsRow.lt hown' k (by rw [blk_own]; exact hk)).2⟩ hg hat ?_
    · by_cases e : j = n
      · subst e
        rw [hnew, hnew2]
        exact (hv.kept hg (hne hv)).wider (by omega) (by omega)
      · rw [hget j (by omega), hget2 j (by omega)]
        exact ((hin j (by omega)).kept hg (hne (hin j (by omega)))).wider (Nat.le_refl _) (by omega)
    · by_cases e : j = n
      · subst e
        rw [hget i hij] at e1
        rw [hnew] at e2
        have h1 := ((hin i hij).blk k e1).2.1
        have h2 := (hv.blk k e2).1
        omega
      · rw [hget i (by omega)] at e1
        rw [hget j (by omega)] at e2
        exact hap i j k hij (by omega) e1 e2
    · refine (Below.refl lo w).grown hg (by omega) (fun k hk => ?_)
      exact (World.ownsRow.lt hr k (by rw [blk_own]; exact hk)).1

def AnsSubst (w : World) (xss : List (List Int)) (e : Ending) (w' : World) : Prop := ∃ A n c, e = .returned (.agg #[.slice A n c]) ∧ Owns w' w.heap.size w'.heap.size A n c xss ∧ Below w.heap.size w w'

end Go.Proofs.Ytpcnjcgglonifaa.plain
end

section
namespace Go.Proofs.Ytpcnjcgglonifaa.plainOf
open Go.RowKit base ints sig cursor marks app appAt sym sub segs segsHelp kinds varsOf fillMath Go.Proofs.Ytpcnjcgglonifaa.look substOk gives plainMath plain
set_option maxRecDepth 100000

theorem own_one {w : World} {base : Nat} {D : Option Addr} {c : Nat} {x : Int} (h : Own w base (.slice D 1 c) [x]) : ∃ g, D = some ⟨g, 0, none⟩ ∧ w.cell? ⟨g, 0, none⟩ = some (.int .i64 x) := by
  rcases own_form (n := 1) (vs := [x].map (Value.int .i64)) h with ⟨_, h1, _⟩ | ⟨g, cur, e, _, hr, _, _, _, _, hc⟩
  · omega
  · refine ⟨g, e, ?_⟩
    rw [hr.cell 0, hc 0 (by omega)]
    rfl
theorem Owns.shrink {w : World} {lo hi m n c : Nat} {A : Option Addr} {xss : List (List Int)} (h : Owns w lo hi A m c xss) (hn : n ≤ m) : Owns w lo hi A n c (xss.take n) := by
  obtain ⟨h1, ⟨vs, hr, hin, hap⟩, h3⟩ := h
  rcases own_form hr with ⟨rfl, h0, rfl, rfl⟩ | ⟨g, cur, rfl, hlo, hrow, hmc, hsz, hmax, hlen, hc⟩
  · obtain rfl : n = 0 := by omega
    simpa using Owns.nil w lo hi
  · have e1 : ∀ j, j < n → (cur.toList.take n).getD j undef = vs.getD j undef := fun j hj => by
      have := hc j (by omega)
      simp [List.getD, List.getElem?_take, hj, this]
    have e2 : ∀ j, j < n → (xss.take n).getD j [] = xss.getD j [] := fun j hj => by simp [List.getD, List.getElem?_take, hj]
    refine ⟨by rw [List.length_take, h1]; omega, ⟨_, rowsOf hrow hsz (by omega) hmax hlo, fun j hj => ?_, fun i j k hij hj a b => ?_⟩, h3⟩
    · rw [e1 j hj, e2 j hj]
      exact hin j (by omega)
    · rw [e1 i (by omega)] at a
      rw [e1 j hj] at b
      exact hap i j k hij (by omega) a b

def HeadL1 (w : World) (S : Option Addr) (m c : Nat) (ss : List (List Int)) (i : Value) (wr : World) : Prop :=
  ∃ (k : Nat) (A : Option Addr) (cA : Nat), k ≤ m ∧ i = .int .i64 k ∧ Owns wr (w.heap.size + 3) wr.heap.size A k cA (rowsL (givesL ss) k) ∧ Row wr w.heap.size 134 #[.slice S m c] ∧ Row wr (w.heap.size + 1) 134 #[.slice none 0 0] ∧
    Row wr (w.heap.size + 2) 134 #[.slice A k cA] ∧ Below w.heap.size w wr
theorem headL1_step {w wr w1 w5 w6 : World} {S A A' : Option Addr} {m c k cA c' : Nat} {ss : List (List Int)} (hk : k < m) (ho : Owns w6 (w.heap.size + 3) w6.heap.size A' (k + 1) c' (rowsL (givesL ss) (k + 1)))
    (r0 : Row wr w.heap.size 134 #[.slice S m c]) (r1 : Row wr (w.heap.size + 1) 134 #[.slice none 0 0]) (r2 : Row wr (w.heap.size + 2) 134 #[.slice A k cA]) (hb : Below w.heap.size w wr)
    (b1 : Below wr.heap.size wr w1) (b5 : Below w1.heap.size w1 w5) (hg : w5.grownBy w6 (blk A)) (hA : ∀ z, blk A = some z → w.heap.size + 3 ≤ z) :
    HeadL1 w S m c ss (.int .i64 ((k : Int) + 1)) (w6.setCell ⟨w.heap.size + 2, 0, none⟩ (.slice A' (k + 1) c')) := by
  have bb := next_trans b1 b5
  have q0 := Row.away (r0.next bb) hg (fun e => by have := hA _ e; omega)
  have q1 := Row.away (r1.next bb) hg (fun e => by have := hA _ e; omega)
  have q2 := Row.away (r2.next bb) hg (fun e => by have := hA _ e; omega)
  have hbb : Below w.heap.size w w6 := (hb.trans (bb.mono hb.size)).grown hg (by have := hb.size; have := bb.size; omega) (fun z hz => by have := hA z hz; omega)
  refine ⟨k + 1, A', c', hk, by simp, ?_, q0.far (by simp) _, q1.far (by simp) _, ?_, hbb.setCell (by simp) _⟩
  · have := owns_put ho q2 (by omega) 0 (.slice A' (k + 1) c')
    simpa using this
  · have := q2.put 0 (.slice A' (k + 1) c')
    simpa using this

def HeadL2 (w : World) (L : Nat → List Int) (m : Nat) (A : Option Addr) (cA : Nat) (p : Value) (wr : World) : Prop :=
  ∃ n : Nat, n ≤ m ∧ p = .pointer (some ⟨w.heap.size + 2, 0, none⟩) ∧ strip ((rowsL L m).take n) = plainL L m ∧ Owns wr (w.heap.size + 3) wr.heap.size A m cA (rowsL L m) ∧ Row wr (w.heap.size + 1) 134 #[.slice none 0 0] ∧
    Row wr (w.heap.size + 2) 134 #[.slice A n cA] ∧ Below w.heap.size w wr
def lenAt (w : World) (p : Addr) : Nat := match w.cell? p with
  | some (.slice _ n _) => n
  | _ => 0
theorem headL2_end {w wr : World} {L : Nat → List Int} {m n cA : Nat} {A : Option Addr} (hn : n ≤ m) (hs : strip ((rowsL L m).take n) = plainL L m) (ho : Owns wr (w.heap.size + 3) wr.heap.size A m cA (rowsL L m))
    (r1 : Row wr (w.heap.size + 1) 134 #[.slice none 0 0]) (hb : Below w.heap.size w wr) (hend : n = 0 ∨ (rowsL L m).getD (n - 1) [] ≠ []) :
    AnsSubst w (plainL L m) (.returned (.agg #[.slice A n cA])) (wr.setCell ⟨w.heap.size + 1, 0, none⟩ (.slice A n cA)) := by
  have e : (rowsL L m).take n = plainL L m := by
    rw [← hs]
    rcases hend with rfl | h
    · simp [strip]
    · by_cases h0 : n = 0
      · subst h0; simp [strip]
      · have := strip_last (l := rowsL L m) (q := n - 1) (by rw [rows_len]; omega) h
        rw [show n - 1 + 1 = n by omega] at this
        exact this.symm
  have h1 := Owns.shrink (owns_put ho r1 (by omega) 0 (.slice A n cA)) hn
  rw [e] at h1
  exact ⟨A, n, cA, rfl, h1.wider (by omega) (by simp), hb.setCell (by simp) _⟩

set_option maxHeartbeats 8000000 in
theorem l2Plain (S : Option Addr) (m c : Nat) (ss : List (List Int)) (w : World) (h : Segs w w.heap.size S m ss) (ht : tot ss ≤ 1048576) :
    Calls Try.prog 110 #[.agg #[.slice S m c]] w (AnsSubst w (plainL (givesL ss) m)) := by
  have HT := Lib.hid ht
  have hm : m ≤ 1048576 := tot_len h.1 ht
  have HE := Lib.hid (tot_each ht)
  clear ht
  go_enter Try.func110, Try.ntmps110
  go_wp2_with fail
  go_loopw [4] (fun i wr => HeadL1 w S m c ss i wr) (fun i _ => m - (intOf i).toNat)
  case atStart =>
    have b0 : Below w.heap.size w (((w.alloc (.cells #[.slice S m c] 134)).alloc (.cells #[.slice none 0 0] 134)).alloc (.cells #[.slice none 0 0] 134)) := (((Below.refl _ _).alloc (Nat.le_refl _) _).alloc (by simp) _).alloc (by simp; omega) _
    have q1 := Row.new (w.alloc (.cells #[.slice S m c] 134)) 134 #[.slice none 0 0]
    have q2 := Row.new ((w.alloc (.cells #[.slice S m c] 134)).alloc (.cells #[.slice none 0 0] 134)) 134 #[.slice none 0 0]
    refine ⟨0, none, 0, Nat.zero_le _, rfl, by simpa [rowsL] using Owns.nil _ _ _, ((Row.new w 134 #[.slice S m c]).alloc _).alloc _, ?_, ?_, b0⟩
    · have := q1.alloc (.cells #[.slice none 0 0] 134); simpa using this
    · simpa using q2
  case round =>
    obtain ⟨k, A, cA, hk, rfl, ho, r0, r1, r2, hb⟩ := hrel
    have c0 : wr.cell? ⟨w.heap.size, 0, none⟩ = some (.slice S m c) := r0.cell 0
    have cO : wr.cell? ⟨w.heap.size + 2, 0, none⟩ = some (.slice A k cA) := r2.cell 0
    have i0 : (0 : Int) ≤ (k : Int) := by omega
    by_cases hlt : k < m
    · have i1 : (k : Int) < (m : Int) := by omega
      have LG := Lib.hid (l2Gives S m c ss k wr ((h.below hb).more hb.size) HT.out (by omega))
      have HA : Hid (∀ z, blk A = some z → w.heap.size + 3 ≤ z) := Lib.hid (fun z hz => by
        obtain ⟨vs, hown, _⟩ := ho.row
        exact (World.ownsRow.lt hown z (by rw [blk_own]; exact hz)).1)
      have hw1 : IntKind.i64.wrap (-1 - (k : Int)) = -1 - (k : Int) := by rw [IntKind.wrap_i64]; omega
      have hrl := r2.lt
      obtain ⟨ys, hys⟩ : ∃ ys, givesL ss k = ys := ⟨_, rfl⟩
      rw [hys] at LG
      have hlen : ys.length ≤ 1048576 := by
        rw [← hys]
        unfold givesL
        split
        · simp [vt]
        · exact HE.out k
      have RS := Lib.hid (rows_succ (givesL ss) k)
      by_cases h1 : ys.length = 1
      · obtain ⟨x, rfl⟩ : ∃ x, ys = [x] := by
          match ys, h1 with
          | [x], _ => exact ⟨x, rfl⟩
        by_cases hx : x = -1 - (k : Int)
        · have RB := Lib.hid (show bare (givesL ss) k = [] by unfold bare; rw [if_pos (by rw [hys, hx]; rfl)])
          have DX : (x == -1 - (k : Int)) = true := by simp [hx]
          clear hx hys
          go_wp2_with (first
            | (go_at_call 114; go_must (refine LG.out.mono ?_; rintro e w1 ⟨D, dn, dc, rfl, od, bb⟩; obtain rfl : dn = 1 := Own.len od; obtain ⟨gD, rfl, cD⟩ := own_one od; have cO1 : w1.cell? ⟨w.heap.size + 2, 0, none⟩ = some (.slice A k cA) := (r2.next bb).cell 0; have e5 : ((w1.alloc (.cells #[] 2)).alloc (.cells #[.slice (some ⟨w1.heap.size, 0, none⟩) 0 0] 22)).cell? ⟨w1.heap.size + 1, 0, none⟩ = some (.slice (some ⟨w1.heap.size, 0, none⟩) 0 0) := (by simp); have c15 : (w1.alloc (.cells #[] 2)).cell? ⟨w.heap.size + 2, 0, none⟩ = some (.slice A k cA) := ((r2.next bb).alloc (.cells #[] 2)).cell 0; have B5 : Below w1.heap.size w1 ((w1.alloc (.cells #[] 2)).alloc (.cells #[.slice (some ⟨w1.heap.size, 0, none⟩) 0 0] 22)) := ((Below.refl _ _).alloc (Nat.le_refl _) _).alloc (by simp) _; have hz5 := B5.size; have hz1 := bb.size; have ho5 := (ho.next bb).next B5; have i5 : Inn ((w1.alloc (.cells #[] 2)).alloc (.cells #[.slice (some ⟨w1.heap.size, 0, none⟩) 0 0] 22)) wr.heap.size ((w1.alloc (.cells #[] 2)).alloc (.cells #[.slice (some ⟨w1.heap.size, 0, none⟩) 0 0] 22)).heap.size (.slice (some ⟨w1.heap.size, 0, none⟩) 0 0) [] := Inn.wider ((inn_own (own_empty w1 wr.heap.size bb.size)).next ((Below.refl _ _).alloc (Nat.le_refl _) _)) (Nat.le_refl _) (by simp); have r25 := (r2.next bb).next B5; have c25 : ((w1.alloc (.cells #[] 2)).alloc (.cells #[.slice (some ⟨w1.heap.size, 0, none⟩) 0 0] 22)).cell? ⟨w.heap.size + 2, 0, none⟩ = some (.slice A k cA) := r25.cell 0))
            | (at_builtin; go_must (refine appS1 rfl _ _ rfl (w.heap.size + 3) wr.heap.size A k cA (rowsL (givesL ss) k) rfl ho5 _ 1 (.slice (some ⟨w1.heap.size, 0, none⟩) 0 0) [] rfl e5 i5 (by omega) (by omega) (by omega) ?_; intro A' c' w6 ho6 hg6 hat6 b6; have q2 := Row.away r25 hg6 (fun e => by have := HA.out _ e; omega); have c26 : w6.cell? ⟨w.heap.size + 2, 0, none⟩ = some (.slice A k cA) := q2.cell 0; have f26 : w6.frozen? ⟨w.heap.size + 2, 0, none⟩ = false := q2.free 0)))
          have S := Lib.hid (headL1_step (ss := ss) hlt (by rw [RS.out, RB.out]; exact ho6) r0 r1 r2 hb bb B5 hg6 HA.out)
          clear ho6 hg6 hat6 b6 ho5 i5 r25 c25 c15 q2 od bb B5 r0 r1 r2 hb ho RS RB LG cO1
          go_wp2
          go_roundw
          case rel => exact S.out
          case measure => simp [intOf]; omega
        · have RB := Lib.hid (show bare (givesL ss) k = [x] by unfold bare; rw [if_neg (by rw [hys]; unfold vt; intro e; injection e with e; exact hx e), hys])
          have DX : (x == -1 - (k : Int)) = false := by simp [hx]
          clear hx hys
          go_wp2_with (first
            | (go_at_call 114; refine LG.out.mono ?_; rintro e w1 ⟨D, dn, dc, rfl, od, bb⟩; obtain rfl : dn = 1 := Own.len od; obtain ⟨gD, rfl, cD⟩ := own_one od; have cO1 : w1.cell? ⟨w.heap.size + 2, 0, none⟩ = some (.slice A k cA) := (r2.next bb).cell 0; have B5 : Below w1.heap.size w1 (w1.alloc (.cells #[.slice (some ⟨gD, 0, none⟩) 1 dc] 22)) := (Below.refl _ _).alloc (Nat.le_refl _) _; have hz5 := B5.size; have hz1 := bb.size; have ho5 := (ho.next bb).next B5; have i5 : Inn (w1.alloc (.cells #[.slice (some ⟨gD, 0, none⟩) 1 dc] 22)) wr.heap.size (w1.alloc (.cells #[.slice (some ⟨gD, 0, none⟩) 1 dc] 22)).heap.size (.slice (some ⟨gD, 0, none⟩) 1 dc) [x] := Inn.wider ((inn_own od).next ((Below.refl _ _).alloc (Nat.le_refl _) _)) (Nat.le_refl _) (by simp); have r25 := (r2.next bb).next B5; have c25 : (w1.alloc (.cells #[.slice (some ⟨gD, 0, none⟩) 1 dc] 22)).cell? ⟨w.heap.size + 2, 0, none⟩ = some (.slice A k cA) := r25.cell 0)
            | (at_builtin; refine appS1 rfl _ _ rfl (w.heap.size + 3) wr.heap.size A k cA (rowsL (givesL ss) k) rfl ho5 _ 1 (.slice (some ⟨gD, 0, none⟩) 1 dc) [x] rfl ((Row.new _ _ _).cell 0) i5 (by omega) (by omega) (by omega) ?_; intro A' c' w6 ho6 hg6 hat6 b6; have q2 := Row.away r25 hg6 (fun e => by have := HA.out _ e; omega); have c26 : w6.cell? ⟨w.heap.size + 2, 0, none⟩ = some (.slice A k cA) := q2.cell 0; have f26 : w6.frozen? ⟨w.heap.size + 2, 0, none⟩ = false := q2.free 0))
          have S := Lib.hid (headL1_step (ss := ss) hlt (by rw [RS.out, RB.out]; exact ho6) r0 r1 r2 hb bb B5 hg6 HA.out)
          clear ho6 hg6 hat6 b6 ho5 i5 r25 c25 q2 od bb B5 r0 r1 r2 hb ho RS RB LG cO1
          go_wp2
          go_roundw
          case rel => exact S.out
          case measure => simp [intOf]; omega
      · have RB := Lib.hid (show bare (givesL ss) k = ys by unfold bare; rw [if_neg (by rw [hys]; unfold vt; intro e; rw [e] at h1; exact h1 rfl), hys])
        clear hys
        go_wp2_with (first
          | (go_at_call 114; refine LG.out.mono ?_; rintro e w1 ⟨D, dn, dc, rfl, od, bb⟩; have hdn : ¬ dn = 1 := (by rw [Own.len od]; exact h1); have hdz : ¬ (dn : Int) = 1 := (by omega); have hdb : (((dn : Nat) : Int) == 1) = false := (by simp; omega); have cO1 : w1.cell? ⟨w.heap.size + 2, 0, none⟩ = some (.slice A k cA) := (r2.next bb).cell 0; have B5 : Below w1.heap.size w1 (w1.alloc (.cells #[.slice D dn dc] 22)) := (Below.refl _ _).alloc (Nat.le_refl _) _; have hz5 := B5.size; have hz1 := bb.size; have ho5 := (ho.next bb).next B5; have i5 : Inn (w1.alloc (.cells #[.slice D dn dc] 22)) wr.heap.size (w1.alloc (.cells #[.slice D dn dc] 22)).heap.size (.slice D dn dc) ys := Inn.wider ((inn_own od).next ((Below.refl _ _).alloc (Nat.le_refl _) _)) (Nat.le_refl _) (by simp); have r25 := (r2.next bb).next B5; have c25 : (w1.alloc (.cells #[.slice D dn dc] 22)).cell? ⟨w.heap.size + 2, 0, none⟩ = some (.slice A k cA) := r25.cell 0)
          | (at_builtin; refine appS1 rfl _ _ rfl (w.heap.size + 3) wr.heap.size A k cA (rowsL (givesL ss) k) rfl ho5 _ 1 (.slice D dn dc) ys rfl ((Row.new _ _ _).cell 0) i5 (by omega) (by omega) (by omega) ?_; intro A' c' w6 ho6 hg6 hat6 b6; have q2 := Row.away r25 hg6 (fun e => by have := HA.out _ e; omega); have c26 : w6.cell? ⟨w.heap.size + 2, 0, none⟩ = some (.slice A k cA) := q2.cell 0; have f26 : w6.frozen? ⟨w.heap.size + 2, 0, none⟩ = false := q2.free 0))
        have S := Lib.hid (headL1_step (ss := ss) hlt (by rw [RS.out, RB.out]; exact ho6) r0 r1 r2 hb bb B5 hg6 HA.out)
        clear ho6 hg6 hat6 b6 ho5 i5 r25 c25 q2 od bb B5 r0 r1 r2 hb ho RS RB LG cO1
        go_wp2
        go_roundw
        case rel => exact S.out
        case measure => simp [intOf]; omega
    · obtain rfl : k = m := by omega
      have HC := Lib.hid ho.cap
      have H2 : HeadL2 w (givesL ss) k A cA (.pointer (some ⟨w.heap.size + 2, 0, none⟩)) wr := ⟨k, Nat.le_refl _, rfl, by rw [List.take_of_length_le (by rw [rows_len]; exact Nat.le_refl _)]; rfl, ho, r1, r2, hb⟩
      have HH2 := Lib.hid H2
      have hc1 : cA ≤ 9223372036854775807 := ho.cap.2.1
      have hc0 : k ≤ cA := ho.cap.1
      clear H2 ho r0 r1 r2 hb cO h
      go_wp2_with fail
      go_loopw [] (fun wr => HeadL2 w (givesL ss) k A cA (.pointer (some ⟨w.heap.size + 2, 0, none⟩)) wr) (fun wr => lenAt wr ⟨w.heap.size + 2, 0, none⟩)
      case atStart => exact HH2.out
      case round =>
        obtain ⟨n, hn, -, hs, ho, r1, r2, hb⟩ := hrel
        clear HH2
        have cO : wr.cell? ⟨w.heap.size + 2, 0, none⟩ = some (.slice A n cA) := r2.cell 0
        have fO : wr.frozen? ⟨w.heap.size + 2, 0, none⟩ = false := r2.free 0
        have cR : wr.cell? ⟨w.heap.size + 1, 0, none⟩ = some (.slice none 0 0) := r1.cell 0
        have fR : wr.frozen? ⟨w.heap.size + 1, 0, none⟩ = false := r1.free 0
        by_cases h0 : n = 0
        · subst h0
          have F := Lib.hid (headL2_end hn hs ho r1 hb (.inl rfl))
          clear hs ho r1 r2 hb
          go_wp2
          exact bodyPost_ret (v := .agg #[.slice A 0 cA]) (by simp [results, Try.results110, go_sem, cR]) rfl F.out
        · obtain ⟨p, rfl⟩ : ∃ p, n = p + 1 := ⟨n - 1, by omega⟩
          obtain ⟨b, off, A', q, cq, rfl, hbb, hx, hseg, hcap⟩ := ho.segs.spot (k := p) (by omega)
          have p0 : (0 : Int) ≤ (p : Int) := by omega
          have p1 : ((p + 1 : Nat) : Int) - 1 = (p : Int) := by omega
          have p2 : (p : Int) ≤ (cA : Int) := by omega
          have p3 : (p : Int) < ((p + 1 : Nat) : Int) := by omega
          have p4 : (0 : Int) < ((p + 1 : Nat) : Int) := by omega
          have hw2 : IntKind.i64.wrap (p : Int) = (p : Int) := by rw [IntKind.wrap_i64]; omega
          by_cases hq : q = 0
          · subst hq
            have hnil : (rowsL (givesL ss) k).getD p [] = [] := List.eq_nil_of_length_eq_zero hseg.1
            have S1 : HeadL2 w (givesL ss) k (some ⟨b, off, none⟩) cA (.pointer (some ⟨w.heap.size + 2, 0, none⟩)) (wr.setCell ⟨w.heap.size + 2, 0, none⟩ (.slice (some ⟨b, off, none⟩) p cA)) := by
              refine ⟨p, by omega, rfl, by rw [← strip_drop (by rw [rows_len]; omega) hnil]; exact hs, ?_, r1.far (by simp) _, ?_, hb.setCell (by simp) _⟩
              · have := owns_put ho r2 (by omega) 0 (.slice (some ⟨b, off, none⟩) p cA)
                simpa using this
              · have := r2.put 0 (.slice (some ⟨b, off, none⟩) p cA)
                simpa using this
            have HS1 := Lib.hid S1
            have E1 : (wr.setCell ⟨w.heap.size + 2, 0, none⟩ (.slice (some ⟨b, off, none⟩) p cA)).cell? ⟨w.heap.size + 2, 0, none⟩ = some (.slice (some ⟨b, off, none⟩) p cA) := by have := (r2.put 0 (.slice (some ⟨b, off, none⟩) p cA)).cell 0; simpa using this
            have HLT := Lib.hid (show lenAt (wr.setCell ⟨w.heap.size + 2, 0, none⟩ (.slice (some ⟨b, off, none⟩) p cA)) ⟨w.heap.size + 2, 0, none⟩ < lenAt wr ⟨w.heap.size + 2, 0, none⟩ by simp only [lenAt, E1, cO]; omega)
            clear S1 E1 hs ho r1 r2 hb hseg hcap hnil
            go_wp2
            go_roundw
            case rel => exact HS1.out
            case measure => exact HLT.out
          · have hq1 : (0 : Int) < (q : Int) := by omega
            have F := Lib.hid (headL2_end hn hs ho r1 hb (.inr (fun e => by rw [show p + 1 - 1 = p by omega] at e; rw [e] at hseg; exact hq hseg.1.symm)))
            clear hs ho r1 r2 hb hseg hcap
            go_wp2
            exact bodyPost_ret (v := .agg #[.slice (some ⟨b, off, none⟩) (p + 1) cA]) (by simp [results, Try.results110, go_sem, cR]) rfl F.out

theorem tot_le {xss : List (List Int)} {M : Nat} (h : ∀ j, (xss.getD j []).length ≤ M) : tot xss ≤ xss.length + xss.length * M := by
  have : ∀ k, k ≤ xss.length → sumL xss k ≤ k * M := fun k => by
    induction k with
    | zero => intro _; simp [sumL]
    | succ k ih =>
      intro hk
      rw [sumL_succ (by omega)]
      have h1 := ih (by omega)
      have h2 := h k
      rw [Nat.succ_mul]
      omega
  unfold tot
  have := this xss.length (Nat.le_refl _)
  omega
end Go.Proofs.Ytpcnjcgglonifaa.plainOf
end
