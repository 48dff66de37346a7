/-
  MERGED: my texts PosMath, MatchMath, PutMath, SegsHelp, SegsMark, Kinds, Look, SubstOk, Gives, StepMath, WalkMath, StepsMath, OrderMath, ByMath, ReachMath, Known, Shape, one behind the other, as they are. By an AI agent.
-/
import Derived.Test.YtblhmplpcdcejaaMFnExactWalkTo1
import Derived.Deep.QuietTactic
import Derived.BigQuiet
import Derived.Shelf.Abstract
import Derived.Deep.RegionHeld3
import Derived.Laws.BytesArg
import Derived.StringKeys
import Derived.Maps.Own
import Derived.Maps.OwnOps
import Derived.Maps.OwnSet
import Derived.Maps.Views
import Derived.Deep.LoopGhost
namespace Go.Proofs.Ytblhmplpcdcejaa
section
namespace posMath
open sig term termOk termFacts endAt sub args depth termMath
theorem scan_cat {sg : List Int} : ∀ {l l' : List Int} {q q' j : Nat}, scan sg q l = some l.length → scan sg q' l' = some j → scan sg (q + q') (l ++ l') = some (l.length + j)
 | [], l', q, q', j, h, h' => by
  cases q with
  | zero => simpa using h'
  | succ q => rw [scan_nil] at h; cases h
 | x :: r, l', q, q', j, h, h' => by
  cases q with
  | zero => rw [scan_zero] at h; simp at h
  | succ q =>
   by_cases ha : ar sg x < 0
   ·rw [scan_bad ha] at h; cases h
   ·rw [scan_step ha] at h
    obtain ⟨i, hi, e⟩ := Option.map_eq_some_iff.1 h
    have e2 : i = r.length := by simp at e; omega
    subst e2
    have h2 := scan_cat hi h'
    rw [show q + 1 + q' = (q + q') + 1 by omega, List.cons_append, scan_step ha, show q + q' + (ar sg x).toNat = q + (ar sg x).toNat + q' by omega, h2]
    simp
    omega
theorem term_at {sg t : List Int} (h : termOkB sg t = true) {a : Nat} (ha : a < t.length) : scan sg 1 (t.drop a) = some (len1 sg t a) ∧ 1 ≤ len1 sg t a ∧ a + len1 sg t a ≤ t.length := by
 obtain ⟨j, e, h1, h2⟩ := scan_at (term_parts h).2.2 ha
 rw [len1_eq e]
 exact ⟨e, h1, h2⟩
theorem end_at {sg t : List Int} (h : termOkB sg t = true) {a : Nat} (ha : a < t.length) : endI sg t a = ((a + len1 sg t a : Nat) : Int) := by
 rw [endI_some (term_at h ha).1]; omega
theorem nest {sg t : List Int} {q a i : Nat} (h : scan sg q (t.drop a) = some i) {p : Nat} (h1 : a ≤ p) (h2 : p < a + i) : p + len1 sg t p ≤ a + i ∧ scan sg 1 (t.drop p) = some (len1 sg t p) ∧ 1 ≤ len1 sg t p := by
 obtain ⟨q', hq⟩ := scan_tail h (show p - a < i by omega)
 rw [List.drop_drop, show a + (p - a) = p by omega] at hq
 obtain ⟨j, e, j1, j2, _⟩ := scan_first hq
 rw [len1_eq e]
 exact ⟨by omega, e, j1⟩
def argP (sg t : List Int) : Nat → Nat → Nat
 | 0, p => p
 | k + 1, p => argP sg t k (p + len1 sg t p)
theorem argP_succ {sg t : List Int} : ∀ k p, argP sg t (k + 1) p = argP sg t k p + len1 sg t (argP sg t k p)
 | 0, _ => rfl
 | k + 1, p => by
  show argP sg t (k + 1) (p + len1 sg t p) = _
  rw [argP_succ k]
  rfl
theorem argP_mono {sg t : List Int} {p k : Nat} : ∀ {k' : Nat}, k ≤ k' → argP sg t k p ≤ argP sg t k' p := by
 intro k' h
 induction k' with
 | zero => rw [Nat.le_zero.1 h]; exact Nat.le_refl _
 | succ k' ih =>
  by_cases e : k = k' + 1
  ·rw [e]; exact Nat.le_refl _
  ·have := ih (by omega)
   rw [argP_succ]
   omega
theorem argP_scan {sg t : List Int} : ∀ {k q p i : Nat}, scan sg q (t.drop p) = some i → k ≤ q → scan sg k (t.drop p) = some (argP sg t k p - p) ∧ p ≤ argP sg t k p ∧ argP sg t k p ≤ p + i := by
 intro k
 induction k with
 | zero => intro q p i _ _; exact ⟨by rw [scan_zero]; simp [argP], Nat.le_refl _, by simp [argP]⟩
 | succ k ih =>
  intro q p i h hk
  obtain ⟨q, rfl⟩ : ∃ q', q = q' + 1 := ⟨q - 1, by omega⟩
  obtain ⟨j, e1, e2, e3, e4⟩ := scan_first h
  have hj := len1_eq e1
  obtain ⟨a1, a2, a3⟩ := ih e4 (show k ≤ q by omega)
  have ea : argP sg t (k + 1) p = argP sg t k (p + j) := by show argP sg t k (p + len1 sg t p) = _; rw [hj]
  have hsc : scan sg (k + 1) (t.drop p) = some (argP sg t (k + 1) p - p) := by
   have hx := scan_cat (l := (t.drop p).take j) (l' := t.drop (p + j)) (q := 1) (q' := k) (j := argP sg t k (p + j) - (p + j))
    (by have := scan_take e1; rw [this]; have hl := scan_le this; have hl2 := scan_le e1; rw [List.length_take, Nat.min_eq_left hl2]) a1
   have hl2 := scan_le e1
   rw [← List.drop_drop, List.take_append_drop, List.length_take, Nat.min_eq_left hl2, Nat.add_comm 1 k] at hx
   rw [hx, ea]
   congr 1
   omega
  rw [ea] at hsc ⊢
  exact ⟨hsc, by omega, by omega⟩
def arN (sg t : List Int) (p : Nat) : Nat := (ar sg (t.getD p 0)).toNat
inductive Trail (sg t : List Int) (at_ : Nat) : Nat → List Int → List Int → Prop
 | here : Trail sg t at_ at_ [] []
 | down {p k : Nat} {ab pa : List Int} (h1 : p < at_) (h2 : k < arN sg t p) (h3 : argP sg t k (p + 1) ≤ at_) (h4 : at_ < argP sg t k (p + 1) + len1 sg t (argP sg t k (p + 1))) (h5 : p < argP sg t k (p + 1)) (h6 : at_ < p + len1 sg t p) (hw : Trail sg t at_ (argP sg t k (p + 1)) ab pa) : Trail sg t at_ p ((p : Int) :: ab) ((k : Int) :: pa)
theorem head_scan {sg t : List Int} (h : termOkB sg t = true) {p : Nat} (hp : p < t.length) : ¬ ar sg (t.getD p 0) < 0 ∧ ∃ i, len1 sg t p = i + 1 ∧ scan sg (arN sg t p) (t.drop (p + 1)) = some i := by
 obtain ⟨i, e, _, h1, h2⟩ := scan_args (term_at h hp).1
 exact ⟨h1, i, e, h2⟩
theorem Trail.here_eq {sg t : List Int} {at_ : Nat} {ab pa : List Int} (h : Trail sg t at_ at_ ab pa) : ab = [] ∧ pa = [] := by
 cases h with
 | here => exact ⟨rfl, rfl⟩
 | down h1 => omega
theorem arg_one {sg t : List Int} {p at_ k k' : Nat} (h3 : argP sg t k p ≤ at_) (h4 : at_ < argP sg t k p + len1 sg t (argP sg t k p)) (h3' : argP sg t k' p ≤ at_) (h4' : at_ < argP sg t k' p + len1 sg t (argP sg t k' p)) : k = k' := by
 rcases Nat.lt_trichotomy k k' with h | h | h
 ·have := argP_mono (sg := sg) (t := t) (p := p) (show k + 1 ≤ k' by omega)
  rw [argP_succ] at this
  omega
 ·exact h
 ·have := argP_mono (sg := sg) (t := t) (p := p) (show k' + 1 ≤ k by omega)
  rw [argP_succ] at this
  omega
theorem Trail.one {sg t : List Int} {at_ p : Nat} {ab pa : List Int} (h : Trail sg t at_ p ab pa) : ∀ {ab' pa' : List Int}, Trail sg t at_ p ab' pa' → ab = ab' ∧ pa = pa' := by
 induction h with
 | here => intro ab' pa' h'; obtain ⟨rfl, rfl⟩ := h'.here_eq; exact ⟨rfl, rfl⟩
 | @down p k ab pa h1 h2 h3 h4 h5 h6 hw ih =>
  intro ab' pa' h'
  cases h' with
  | here => omega
  | @down _ k' ab' pa' g1 g2 g3 g4 g5 g6 gw =>
   obtain rfl := arg_one h3 h4 g3 g4
   obtain ⟨rfl, rfl⟩ := ih gw
   exact ⟨rfl, rfl⟩
theorem Trail.len {sg t : List Int} {at_ p : Nat} {ab pa : List Int} (h : Trail sg t at_ p ab pa) : ab.length = pa.length := by
 induction h with
 | here => rfl
 | down _ _ _ _ _ _ _ ih => simp [ih]
theorem Trail.le {sg t : List Int} {at_ p : Nat} {ab pa : List Int} (h : Trail sg t at_ p ab pa) : p ≤ at_ ∧ pa.length ≤ at_ - p := by
 induction h with
 | here => simp
 | down h1 _ _ _ h5 _ _ ih => simp only [List.length_cons]; omega
def upTo (sg t : List Int) (at_ : Nat) : Nat → Nat → List Int
 | _, 0 => []
 | p, n + 1 => (if at_ < p + len1 sg t p then [(p : Int)] else []) ++ upTo sg t at_ (p + 1) n
theorem upTo_add {sg t : List Int} {at_ : Nat} : ∀ n p m, upTo sg t at_ p (n + m) = upTo sg t at_ p n ++ upTo sg t at_ (p + n) m
 | 0, p, m => by simp [upTo]
 | n + 1, p, m => by
  rw [show n + 1 + m = (n + m) + 1 by omega]
  simp only [upTo]
  rw [upTo_add n (p + 1) m, List.append_assoc, show p + 1 + n = p + (n + 1) by omega]
theorem upTo_skip {sg t : List Int} {at_ : Nat} : ∀ n p, (∀ r, p ≤ r → r < p + n → ¬ at_ < r + len1 sg t r) → upTo sg t at_ p n = []
 | 0, _, _ => rfl
 | n + 1, p, h => by
  simp only [upTo]
  rw [if_neg (h p (by omega) (by omega)), upTo_skip n (p + 1) (fun r h1 h2 => h r (by omega) (by omega))]
  rfl
def aboveL (sg t : List Int) (at_ : Nat) : List Int := upTo sg t at_ 0 at_
theorem Trail.above {sg t : List Int} (hok : termOkB sg t = true) {at_ p : Nat} (hat : at_ < t.length) {ab pa : List Int} (h : Trail sg t at_ p ab pa) : upTo sg t at_ p (at_ - p) = ab := by
 induction h with
 | here => simp [upTo]
 | @down p k ab pa h1 h2 h3 h4 h5 h6 hw ih =>
  obtain ⟨_, i, e, hs⟩ := head_scan hok (show p < t.length by omega)
  obtain ⟨s1, s2, s3⟩ := argP_scan hs (Nat.le_of_lt h2)
  rw [show at_ - p = (argP sg t k (p + 1) - (p + 1)) + (at_ - argP sg t k (p + 1)) + 1 by omega]
  simp only [upTo]
  rw [if_pos h6, upTo_add, upTo_skip (argP sg t k (p + 1) - (p + 1)), show p + 1 + (argP sg t k (p + 1) - (p + 1)) = argP sg t k (p + 1) by omega, ih]
  ·rfl
  ·intro r r1 r2 r3
   have := (nest s1 r1 (by omega)).1
   omega
theorem Trail.aboveL {sg t : List Int} (hok : termOkB sg t = true) {at_ : Nat} (hat : at_ < t.length) {ab pa : List Int} (h : Trail sg t at_ 0 ab pa) : aboveL sg t at_ = ab := h.above hok hat
def pl (sg t : List Int) (at_ : Nat) : Nat := (aboveL sg t at_).length
end posMath
end
section
namespace matchMath
open sig term termOk termFacts endAt sub termMath fillMath posMath renMath
def vr (x : Int) : Nat := (-1 - x).toNat
def mst (sg t : List Int) : List Int → Nat → List (List Int) → Option (List (List Int))
 | [], _, s => some s
 | x :: r, k, s =>
  if t.length ≤ k then none
  else if 0 ≤ x then (if x = t.getD k 0 then mst sg t r (k + 1) s else none)
  else if (s.getD (vr x) []).length ≠ 0 ∧ s.getD (vr x) [] ≠ subL sg t k then none
  else mst sg t r (k + (subL sg t k).length) (s.set (vr x) (subL sg t k))
section
variable {sg t : List Int} {r : List Int} {x : Int} {k : Nat} {s : List (List Int)}
theorem mst_out (h : t.length ≤ k) : mst sg t (x :: r) k s = none := by simp only [mst]; rw [if_pos h]
theorem mst_sym (h : ¬ t.length ≤ k) (hx : 0 ≤ x) (he : x = t.getD k 0) : mst sg t (x :: r) k s = mst sg t r (k + 1) s := by simp only [mst]; rw [if_neg h, if_pos hx, if_pos he]
theorem mst_symNo (h : ¬ t.length ≤ k) (hx : 0 ≤ x) (he : ¬ x = t.getD k 0) : mst sg t (x :: r) k s = none := by simp only [mst]; rw [if_neg h, if_pos hx, if_neg he]
theorem mst_var (h : ¬ t.length ≤ k) (hx : ¬ 0 ≤ x) (he : ¬ ((s.getD (vr x) []).length ≠ 0 ∧ s.getD (vr x) [] ≠ subL sg t k)) : mst sg t (x :: r) k s = mst sg t r (k + (subL sg t k).length) (s.set (vr x) (subL sg t k)) := by simp only [mst]; rw [if_neg h, if_neg hx, if_neg he]
theorem mst_varNo (h : ¬ t.length ≤ k) (hx : ¬ 0 ≤ x) (he : (s.getD (vr x) []).length ≠ 0 ∧ s.getD (vr x) [] ≠ subL sg t k) : mst sg t (x :: r) k s = none := by simp only [mst]; rw [if_neg h, if_neg hx, if_pos he]
end
theorem set_get {s : List (List Int)} {i j : Nat} {v : List Int} : (s.set i v).getD j [] = if i = j ∧ i < s.length then v else s.getD j [] := by
 simp only [List.getD_eq_getElem?_getD, List.getElem?_set]
 by_cases h : i = j
 ·subst h
  by_cases h2 : i < s.length
  ·simp [h2]
  ·simp [h2]
 ·simp [h]
theorem vr_lt {x : Int} (h0 : ¬ 0 ≤ x) (h : -24 ≤ x) : vr x < 24 := by unfold vr; omega
theorem mst_ext {sg t : List Int} : ∀ {p : List Int} {k : Nat} {s s' : List (List Int)}, mst sg t p k s = some s' → s.length = 24 → (∀ x ∈ p, -24 ≤ x) → s'.length = 24 ∧ ∀ i, (s.getD i []).length ≠ 0 → s'.getD i [] = s.getD i [] := by
 intro p
 induction p with
 | nil => intro k s s' h hl _; injection h with h; subst h; exact ⟨hl, fun _ _ => rfl⟩
 | cons x r ih =>
  intro k s s' h hl hx
  have hr : ∀ y ∈ r, -24 ≤ y := fun y hy => hx y (List.mem_cons_of_mem _ hy)
  by_cases h1 : t.length ≤ k
  ·rw [mst_out h1] at h; cases h
  ·by_cases h2 : 0 ≤ x
   ·by_cases h3 : x = t.getD k 0
    ·rw [mst_sym h1 h2 h3] at h; exact ih h hl hr
    ·rw [mst_symNo h1 h2 h3] at h; cases h
   ·by_cases h3 : (s.getD (vr x) []).length ≠ 0 ∧ s.getD (vr x) [] ≠ subL sg t k
    ·rw [mst_varNo h1 h2 h3] at h; cases h
    ·rw [mst_var h1 h2 h3] at h
     obtain ⟨e1, e2⟩ := ih h (by rw [List.length_set]; exact hl) hr
     refine ⟨e1, fun i hi => ?_⟩
     have hs : (s.set (vr x) (subL sg t k)).getD i [] = s.getD i [] := by
      rw [set_get]
      split
      ·rename_i hc
       obtain ⟨rfl, _⟩ := hc
       by_cases e : s.getD (vr x) [] = subL sg t k
       ·exact e.symm
       ·exact absurd ⟨hi, e⟩ h3
      ·rfl
     rw [← hs] at hi ⊢
     exact e2 i hi
theorem sub_len1 {sg t : List Int} (hok : termOkB sg t = true) {k : Nat} (hk : k < t.length) : (subL sg t k).length = len1 sg t k ∧ t.drop k = subL sg t k ++ t.drop (k + (subL sg t k).length) ∧ scan sg 1 (subL sg t k) = some (subL sg t k).length := by
 have h := term_at hok hk
 have hl : (subL sg t k).length = len1 sg t k := by unfold subL; rw [List.length_take, List.length_drop]; omega
 refine ⟨hl, ?_, (term_parts (sub_term hok hk).1).2.2⟩
 rw [hl, ← List.drop_drop]
 exact (List.take_append_drop _ _).symm
theorem mst_sound {sg t : List Int} (hok : termOkB sg t = true) : ∀ {p : List Int} {k : Nat} {s s' : List (List Int)}, mst sg t p k s = some s' → s.length = 24 → (∀ x ∈ p, -24 ≤ x) →
  (∃ rest, t.drop k = fillL (fun i => s'.getD i []) p ++ rest) ∧ ∀ x ∈ p, x < 0 → scan sg 1 (s'.getD (vr x) []) = some (s'.getD (vr x) []).length := by
 intro p
 induction p with
 | nil => intro k s s' _ _ _; exact ⟨⟨t.drop k, by rw [fill_nil, List.nil_append]⟩, fun x hx => absurd hx (List.not_mem_nil)⟩
 | cons x r ih =>
  intro k s s' h hl hx
  have hr : ∀ y ∈ r, -24 ≤ y := fun y hy => hx y (List.mem_cons_of_mem _ hy)
  have hx0 : -24 ≤ x := hx x (List.mem_cons_self ..)
  by_cases h1 : t.length ≤ k
  ·rw [mst_out h1] at h; cases h
  ·by_cases h2 : 0 ≤ x
   ·by_cases h3 : x = t.getD k 0
    ·rw [mst_sym h1 h2 h3] at h
     obtain ⟨⟨rest, e⟩, hv⟩ := ih h hl hr
     refine ⟨⟨rest, ?_⟩, fun y hy h0 => ?_⟩
     ·rw [drop_cons (by omega), e, ← h3, fill_cons, rep_sym h2]; rfl
     ·rcases List.mem_cons.1 hy with rfl | hy
      ·omega
      ·exact hv y hy h0
    ·rw [mst_symNo h1 h2 h3] at h; cases h
   ·by_cases h3 : (s.getD (vr x) []).length ≠ 0 ∧ s.getD (vr x) [] ≠ subL sg t k
    ·rw [mst_varNo h1 h2 h3] at h; cases h
    ·rw [mst_var h1 h2 h3] at h
     have hl' : (s.set (vr x) (subL sg t k)).length = 24 := by rw [List.length_set]; exact hl
     obtain ⟨⟨rest, e⟩, hv⟩ := ih h hl' hr
     obtain ⟨_, e2⟩ := mst_ext h hl' hr
     obtain ⟨l1, l2, l3⟩ := sub_len1 hok (show k < t.length by omega)
     have hpos := (sub_term hok (show k < t.length by omega)).2.2.2
     have hg : (s.set (vr x) (subL sg t k)).getD (vr x) [] = subL sg t k := by rw [set_get, if_pos ⟨rfl, by rw [hl]; exact vr_lt h2 hx0⟩]
     have hgx : s'.getD (vr x) [] = subL sg t k := by rw [e2 (vr x) (by rw [hg]; omega), hg]
     refine ⟨⟨rest, ?_⟩, fun y hy h0 => ?_⟩
     ·rw [l2, e, fill_cons, rep_var (by omega), List.append_assoc]
      congr 1
      exact hgx.symm
     ·rcases List.mem_cons.1 hy with rfl | hy
      ·rw [hgx]; exact l3
      ·exact hv y hy h0
theorem mst_full {sg t : List Int} {L : Nat → List Int} : ∀ {p : List Int} {k : Nat} {s : List (List Int)} {rest : List Int}, t.drop k = fillL L p ++ rest → s.length = 24 → (∀ x ∈ p, -24 ≤ x) → (∀ x ∈ p, x < 0 → scan sg 1 (L (vr x)) = some (L (vr x)).length) → (∀ i, (s.getD i []).length ≠ 0 → s.getD i [] = L i) →
  ∃ s', mst sg t p k s = some s' ∧ (∀ i, (s'.getD i []).length ≠ 0 → s'.getD i [] = L i) ∧ ∀ x ∈ p, x < 0 → s'.getD (vr x) [] = L (vr x) := by
 intro p
 induction p with
 | nil => intro k s rest _ _ _ _ hc; exact ⟨s, rfl, hc, fun x hx => absurd hx (List.not_mem_nil)⟩
 | cons x r ih =>
  intro k s rest h hl hx hL hc
  have hr : ∀ y ∈ r, -24 ≤ y := fun y hy => hx y (List.mem_cons_of_mem _ hy)
  have hLr : ∀ y ∈ r, y < 0 → scan sg 1 (L (vr y)) = some (L (vr y)).length := fun y hy => hL y (List.mem_cons_of_mem _ hy)
  have hx0 : -24 ≤ x := hx x (List.mem_cons_self ..)
  rw [fill_cons, List.append_assoc] at h
  by_cases h2 : 0 ≤ x
  ·rw [rep_sym h2] at h
   have hk : k < t.length := by
    by_cases hk : k < t.length
    ·exact hk
    ·rw [List.drop_eq_nil_of_le (by omega)] at h; cases h
   rw [drop_cons hk] at h
   injection h with e1 e2
   obtain ⟨s', m1, m2, m3⟩ := ih e2 hl hr hLr hc
   exact ⟨s', by rw [mst_sym (by omega) h2 e1.symm]; exact m1, m2, fun y hy h0 => by
    rcases List.mem_cons.1 hy with rfl | hy
    ·omega
    ·exact m3 y hy h0⟩
  ·rw [rep_var (by omega)] at h
   change t.drop k = L (vr x) ++ (fillL L r ++ rest) at h
   have hsc := hL x (List.mem_cons_self ..) (by omega)
   have hpos := scan_pos (q := 0) hsc
   have hk : k < t.length := by
    by_cases hk : k < t.length
    ·exact hk
    ·rw [List.drop_eq_nil_of_le (by omega)] at h
     have := congrArg List.length h
     simp only [List.length_nil, List.length_append] at this
     omega
   have hsub : subL sg t k = L (vr x) := by
    unfold subL
    have e : len1 sg t k = (L (vr x)).length := len1_eq (by rw [h]; exact scan_append hsc)
    rw [e, h, List.take_left' rfl]
   have hnext : t.drop (k + (subL sg t k).length) = fillL L r ++ rest := by rw [← List.drop_drop, h, hsub, List.drop_left' rfl]
   have hno : ¬ ((s.getD (vr x) []).length ≠ 0 ∧ s.getD (vr x) [] ≠ subL sg t k) := fun ⟨g1, g2⟩ => g2 (by rw [hsub]; exact hc _ g1)
   have hl' : (s.set (vr x) (subL sg t k)).length = 24 := by rw [List.length_set]; exact hl
   obtain ⟨s', m1, m2, m3⟩ := ih hnext hl' hr hLr (fun i hi => by
    rw [set_get] at hi ⊢
    split
    ·rename_i hcc; rw [hsub, ← hcc.1]
    ·rename_i hcc; rw [if_neg hcc] at hi; exact hc i hi)
   refine ⟨s', by rw [mst_var (by omega) h2 hno]; exact m1, m2, fun y hy h0 => ?_⟩
   rcases List.mem_cons.1 hy with rfl | hy
   ·have hg : (s.set (vr y) (subL sg t k)).getD (vr y) [] = L (vr y) := by rw [set_get, if_pos ⟨rfl, by rw [hl]; exact vr_lt h2 hx0⟩, hsub]
    rw [(mst_ext m1 hl' hr).2 (vr y) (by rw [hg]; omega), hg]
   ·exact m3 y hy h0
def s0 : List (List Int) := List.replicate 24 []
theorem s0_get (i : Nat) : s0.getD i [] = [] := by
 unfold s0
 rw [List.getD_eq_getElem?_getD, List.getElem?_replicate]
 split <;> rfl
def matchO (sg p t : List Int) : Option (List (List Int)) := if (termOkB sg p && termOkB sg t) = true then mst sg t p 0 s0 else none
def instB (sg p t : List Int) : Bool := (matchO sg p t).isSome
theorem match_yes {sg p t : List Int} (h1 : termOkB sg p = true) (h2 : termOkB sg t = true) : matchO sg p t = mst sg t p 0 s0 := by unfold matchO; rw [if_pos (by rw [h1, h2]; rfl)]
theorem match_no {sg p t : List Int} (h : termOkB sg p = false ∨ termOkB sg t = false) : matchO sg p t = none := by
 unfold matchO
 rw [if_neg]
 rcases h with h | h <;> rw [h] <;> simp
theorem inst_no {sg p t : List Int} (h : termOkB sg p = false ∨ termOkB sg t = false) : instB sg p t = false := by unfold instB; rw [match_no h]; rfl
theorem inst_ok {sg p t : List Int} (h : instB sg p t = true) : termOkB sg p = true ∧ termOkB sg t = true := by
 cases h1 : termOkB sg p with
 | false => rw [inst_no (.inl h1)] at h; cases h
 | true =>
  cases h2 : termOkB sg t with
  | false => rw [inst_no (.inr h2)] at h; cases h
  | true => exact ⟨rfl, rfl⟩
def Turns (sg p t : List Int) (L : Nat → List Int) : Prop := fillL L p = t ∧ ∀ x ∈ p, x < 0 → scan sg 1 (L (vr x)) = some (L (vr x)).length
theorem match_turns {sg p t : List Int} {s' : List (List Int)} (h : matchO sg p t = some s') : s'.length = 24 ∧ Turns sg p t (fun i => s'.getD i []) := by
 have h12 : termOkB sg p = true ∧ termOkB sg t = true := inst_ok (by unfold instB; rw [h]; rfl)
 obtain ⟨h1, h2⟩ := h12
 rw [match_yes h1 h2] at h
 have hx : ∀ x ∈ p, -24 ≤ x := fun x hx => (term_mem h1 hx).1
 obtain ⟨⟨rest, e⟩, hv⟩ := mst_sound h2 h (by rfl) hx
 refine ⟨(mst_ext h (by rfl) hx).1, ?_, hv⟩
 rw [List.drop_zero] at e
 have hs := scan_fill (L := fun i => s'.getD i []) (term_parts h1).2.2 hv
 have hs2 := scan_append (r := rest) hs
 rw [← e, (term_parts h2).2.2] at hs2
 injection hs2 with hs2
 have hl := congrArg List.length e
 rw [List.length_append] at hl
 have hr : rest = [] := List.eq_nil_of_length_eq_zero (by omega)
 rw [e, hr, List.append_nil]
theorem turns_match {sg p t : List Int} {L : Nat → List Int} (h1 : termOkB sg p = true) (h2 : termOkB sg t = true) (h : Turns sg p t L) : ∃ s', matchO sg p t = some s' ∧ ∀ x ∈ p, x < 0 → s'.getD (vr x) [] = L (vr x) := by
 rw [match_yes h1 h2]
 obtain ⟨s', m1, _, m3⟩ := mst_full (sg := sg) (t := t) (L := L) (p := p) (k := 0) (s := s0) (rest := []) (by rw [List.drop_zero, List.append_nil, h.1]) (by rfl) (fun x hx => (term_mem h1 hx).1) h.2 (fun i hi => by rw [s0_get] at hi; exact absurd rfl hi)
 exact ⟨s', m1, m3⟩
theorem inst_iff {sg p t : List Int} (h1 : termOkB sg p = true) (h2 : termOkB sg t = true) : instB sg p t = true ↔ ∃ L, Turns sg p t L := by
 constructor
 ·intro h
  unfold instB at h
  obtain ⟨s', hs⟩ := Option.isSome_iff_exists.1 h
  exact ⟨_, (match_turns hs).2⟩
 ·rintro ⟨L, h⟩
  obtain ⟨s', hs, _⟩ := turns_match h1 h2 h
  unfold instB
  rw [hs]; rfl
end matchMath
end
section
namespace putMath
open sig term termOk termFacts endAt sub args depth termMath posMath
def putL (t : List Int) (a i : Nat) (u : List Int) : List Int := t.take a ++ (u ++ t.drop (a + i))
theorem scan_put {sg u : List Int} (hu : scan sg 1 u = some u.length) : ∀ {a q j i : Nat} {l : List Int}, scan sg q l = some j → a < j → scan sg 1 (l.drop a) = some i → i ≤ j - a ∧ scan sg q (putL l a i u) = some (j - i + u.length) := by
 intro a
 induction a with
 | zero =>
  intro q j i l h ha hi
  cases q with
  | zero => rw [scan_zero] at h; injection h; omega
  | succ q =>
   obtain ⟨i', _, s1, s2⟩ := scan_split (p := 1) (q := q) (by rw [Nat.add_comm]; exact h)
   rw [List.drop_zero] at hi
   rw [hi] at s1
   injection s1 with s1
   subst s1
   have hx := scan_cat hu s2
   refine ⟨by omega, ?_⟩
   unfold putL
   rw [List.take_zero, List.nil_append, Nat.zero_add, Nat.add_comm q 1, hx]
   congr 1
   omega
 | succ a ih =>
  intro q j i l h ha hi
  cases q with
  | zero => rw [scan_zero] at h; injection h; omega
  | succ q =>
   cases l with
   | nil => rw [scan_nil] at h; cases h
   | cons x l =>
    by_cases hx : ar sg x < 0
    ·rw [scan_bad hx] at h; cases h
    ·rw [scan_step hx] at h
     obtain ⟨j', hj', rfl⟩ := Option.map_eq_some_iff.1 h
     rw [List.drop_succ_cons] at hi
     obtain ⟨e1, e2⟩ := ih hj' (by omega) hi
     refine ⟨by omega, ?_⟩
     have e3 : putL (x :: l) (a + 1) i u = x :: putL l a i u := by
      unfold putL
      rw [List.take_succ_cons, show a + 1 + i = (a + i) + 1 by omega, List.drop_succ_cons]
      rfl
     rw [e3, scan_step hx, e2]
     simp only [Option.map_some]
     congr 1
     omega
section
variable {sg t u : List Int} {a : Nat}
theorem put_len (hok : termOkB sg t = true) (ha : a < t.length) : (putL t a (len1 sg t a) u).length = t.length - len1 sg t a + u.length := by
 have := term_at hok ha
 unfold putL
 simp only [List.length_append, List.length_take, List.length_drop]
 omega
theorem put_term (hok : termOkB sg t = true) (hu : termOkB sg u = true) (ha : a < t.length) (h60 : (putL t a (len1 sg t a) u).length ≤ 60) : termOkB sg (putL t a (len1 sg t a) u) = true := by
 obtain ⟨h1, h2, h3⟩ := term_parts hok
 refine term_mk h1 h60 ?_
 have := (scan_put (term_parts hu).2.2 h3 ha (term_at hok ha).1).2
 rw [this, put_len hok ha]
def Out (sg t : List Int) (a r : Nat) : Prop := r ≤ a ∨ a + len1 sg t a ≤ r
end
end putMath
end
section
namespace segsHelp
open Go.RowKit base ints sig cursor marks app sym appAt segs
set_option maxRecDepth 100000
theorem info_list : (Try.prog.info? 22).map (fun i => (i.zero, i.size, i.bytes)) = some (some (.slice none 0 0), 1, 24) := by kernel_rfl
theorem run_make_lists (n : Nat) (hn : n ≤ 1048576) (W : World) : (Instr.makeSlice 77 (.int .i64 (n : Int)) (.int .i64 (n : Int))).run Try.prog W =
  .ok (.slice (some ⟨W.heap.size, 0, none⟩) n n) (W.alloc (.cells (madeCells #[.slice none 0 0] n) 22)) := by
 obtain ⟨i0, hi, hz0, hz1, hz2⟩ := info_parts info_list
 have hr := run_make (P := Try.prog) W 77 22 i0 _ Try.underlying77 hi hz0 .i64 .i64 n n (by omega) (by omega) (by rw [hz2]; omega) (by omega)
 simpa [hz1, Value.cells] using hr
def sumL (xss : List (List Int)) (k : Nat) : Nat := ((xss.take k).map List.length).sum
def tot (xss : List (List Int)) : Nat := xss.length + sumL xss xss.length
theorem sumL_succ {xss : List (List Int)} {k : Nat} (h : k < xss.length) : sumL xss (k + 1) = sumL xss k + (xss.getD k []).length := by
 unfold sumL
 rw [List.take_succ_eq_append_getElem h, List.map_append, List.sum_append]
 simp [List.getD, h]
theorem sumL_mono {xss : List (List Int)} : ∀ {k m : Nat}, k ≤ m → m ≤ xss.length → sumL xss k ≤ sumL xss m
 | k, 0, h, _ => by rw [show k = 0 by omega]; exact Nat.le_refl _
 | k, m + 1, h, hm => by
  by_cases e : k = m + 1
  ·rw [e]; exact Nat.le_refl _
  ·have := sumL_mono (xss := xss) (show k ≤ m by omega) (by omega)
   rw [sumL_succ (by omega)]
   omega
theorem tot_each {xss : List (List Int)} {L : Nat} (h : tot xss ≤ L) : ∀ j, (xss.getD j []).length ≤ L := fun j => by
 by_cases hj : j < xss.length
 ·have h1 := sumL_succ hj
  have h2 := sumL_mono (xss := xss) (show j + 1 ≤ xss.length by omega) (Nat.le_refl _)
  unfold tot at h
  omega
 ·rw [show xss.getD j [] = [] by simp [List.getD, hj]]
  simp
theorem tot_len {xss : List (List Int)} {L n : Nat} (hl : xss.length = n) (h : tot xss ≤ L) : n ≤ L := by unfold tot at h; omega
end segsHelp
end
section
namespace segsMark
open Go.RowKit base ints sig cursor marks app sym appAt segs segsHelp
set_option maxRecDepth 100000
def AnsMarkO (w : World) (base : Nat) (A : Option Addr) (n c : Nat) (k : Int) (e : Ending) (w' : World) : Prop :=
 e = .returned (.int .i64 (k + (n : Int))) ∧ w.grownBy w' (blk A) ∧ Own w' base (.slice A n c) (marks k n)
set_option maxHeartbeats 1000000 in
theorem markOwn (base : Nat) (A : Option Addr) (n c : Nat) (xs : List Int) (k : Int) (w : World) (h : Own w base (.slice A n c) xs) (hn : n ≤ 1048576) (hk0 : 0 ≤ k) (hk : k ≤ 1099511627776) :
  Calls Try.prog 19 #[.slice A n c, .int .i64 k] w (AnsMarkO w base A n c k) := by
 have hl := Own.len h
 by_cases h0 : n = 0
 ·subst h0
  have hx : xs = [] := List.eq_nil_of_length_eq_zero hl.symm
  subst hx
  have HO := Lib.hid h
  clear h hl
  go_enter Try.func19, Try.ntmps19
  go_wp2
  go_loop [1, 5] (fun kk i => kk = .int .i64 k ∧ i = .int .i64 0) (fun _ _ => 0)
  case atStart => exact ⟨rfl, rfl⟩
  case round =>
   obtain ⟨rfl, rfl⟩ := hrel
   go_wp2
   go_ret
   exact ⟨by simp, World.grownBy.refl _ _, by simpa [marks] using HO.out⟩
 ·rcases own_form (n := n) (vs := xs.map (Value.int .i64)) (by rw [hl]; rw [hl] at h; exact h) with ⟨_, e, _⟩ | ⟨g, cs0, rfl, hb, hr0, hnc, hz0, hmax, _, _⟩
  ·exact absurd e h0
  have S0 : HeadMark w g n k c (.int .i64 k) (.int .i64 0) w := ⟨0, cs0, Nat.zero_le _, rfl, by simp, hr0, hz0, fun q hq => absurd hq (Nat.not_lt_zero _), World.grownBy.refl _ _⟩
  have HS0 := Lib.hid S0
  clear S0 hz0 hr0 hl h
  go_enter Try.func19, Try.ntmps19
  go_wp2
  go_loopw [1, 5] (fun kk i wr => HeadMark w g n k c kk i wr) (fun _ i _ => n - (intOf i).toNat)
  case atStart => exact HS0.out
  case round =>
   obtain ⟨j, cs, hj, rfl, rfl, hr, hs, hc, hg⟩ := hrel
   clear HS0
   by_cases hlt : j < n
   ·have S := Lib.hid (headMark_step (k := k) hlt hnc hr hs hc hg)
    obtain ⟨u, hu⟩ : ∃ u, wr.cell? ⟨g, j, none⟩ = some u := ⟨_, (hr.cell j).trans (Array.getElem?_eq_getElem (by omega))⟩
    have hf : wr.frozen? ⟨g, j, none⟩ = false := hr.free j
    clear hr hs hc hg
    go_wp2
    go_roundw
    case rel => exact S.out
    case measure => simp [intOf]; omega
   ·have e : j = n := by omega
    subst e
    have F : AnsMarkO w base (some ⟨g, 0, none⟩) j c k (.returned (.int .i64 (k + (j : Int)))) wr :=
     ⟨rfl, hg, Own.of_row hr (marks_len _ _) hs hnc hmax hb (fun q hq => by rw [marks_get hq]; exact hc q hq)⟩
    have HF := Lib.hid F
    clear F hr hs hc hg
    go_wp2
    go_ret
    exact HF.out
end segsMark
end
section
namespace kinds
open Go.RowKit base ints sig cursor marks app sym appAt segs segsHelp segsMark
set_option maxRecDepth 100000
def Ownd (w : World) (lo hi : Nat) (A : Option Addr) (n c : Nat) (xs : List Int) : Prop := Own w lo (.slice A n c) xs ∧ ∀ k, blk A = some k → k < hi
section
variable {w w' : World} {lo hi n c : Nat} {A : Option Addr} {xs : List Int}
theorem Ownd.rd (h : Ownd w lo hi A n c xs) : Seg w w.heap.size A n xs := Own.seg h.1
theorem Ownd.next (h : Ownd w lo hi A n c xs) (hb : Below w.heap.size w w') : Ownd w' lo hi A n c xs := ⟨h.1.next hb, h.2⟩
theorem Ownd.wider {lo' hi' : Nat} (h : Ownd w lo hi A n c xs) (h1 : lo' ≤ lo) (h2 : hi ≤ hi') : Ownd w lo' hi' A n c xs := ⟨Own.lower h.1 h1, fun k hk => Nat.lt_of_lt_of_le (h.2 k hk) h2⟩
theorem Ownd.btw {lo' hi' : Nat} (h : Ownd w lo hi A n c xs) (hb : Btw lo' hi' w w') (ho : hi ≤ lo' ∨ hi' ≤ lo) : Ownd w' lo hi A n c xs := by
 obtain ⟨⟨q1, q2⟩, ht⟩ := h
 refine ⟨⟨q1, ?_⟩, ht⟩
 rcases q2 with q2 | ⟨g, cap, cur, hv, hg, hh, r⟩
 ·exact .inl q2
 ·have h5 := ht g (by rw [← blk_own A n c, hv]; rfl)
  refine .inr ⟨g, cap, cur, hv, hg, ?_, r⟩
  have hlt : g < w.heap.size := (Array.getElem?_eq_some_iff.1 hh).1
  exact (hb.block g hlt (by omega)).trans hh
theorem Ownd.of_own (h : Own w lo (.slice A n c) xs) : Ownd w lo w.heap.size A n c xs := ⟨h, fun k hk => (World.ownsRow.lt h k (by rw [blk_own]; exact hk)).2⟩
theorem Ownd.cap (h : Ownd w lo hi A n c xs) : Cap A n c := by
 have hl := Own.len h.1
 rcases own_form (n := n) (vs := xs.map (Value.int .i64)) (by rw [hl]; have := h.1; rw [hl] at this; exact this) with ⟨rfl, h1, rfl, _⟩ | ⟨g, cur, rfl, _, _, h1, h2, h3, _⟩
 ·exact ⟨by omega, by omega, fun _ => rfl⟩
 ·exact ⟨h1, h3, fun e => by cases e⟩
theorem drew_below (w : World) : Below w.heap.size w w.drew := ⟨rfl, rfl, rfl, Nat.le_refl _, fun _ _ => rfl⟩
theorem drewN_below (w : World) (d : Nat) : Below w.heap.size w (w.drewN d) := ⟨rfl, rfl, rfl, Nat.le_refl _, fun _ _ => rfl⟩
end
def CopyInts (w : World) (n : Nat) (xs : List Int) (e : Ending) (w' : World) : Prop := ∃ g, e = .returned (.slice (some ⟨g, 0, none⟩) n n) ∧ Ownd w' w.heap.size w'.heap.size (some ⟨g, 0, none⟩) n n xs ∧ w.heap.size < w'.heap.size ∧ Below w.heap.size w w'
theorem intsTo (A : Option Addr) (n c : Nat) (xs : List Int) (w : World) (h : Seg w w.heap.size A n xs) (hn : n ≤ 1048576) :
  Calls Try.prog 12 #[.slice A n c] w (CopyInts w n xs) :=
 (toInts A n c xs w h hn).mono fun _ _ ⟨cs, he, hr, hs, hc, hz, hb⟩ => ⟨w.heap.size, he, Ownd.of_own (Own.of_row hr h.1 hs (Nat.le_refl _) (by omega) (Nat.le_refl _) hc), by omega, hb⟩
theorem intsEq (A A' : Option Addr) (n n' c c' : Nat) (xs : List Int) (w : World) (h : Seg w w.heap.size A n xs) (h' : Seg w w.heap.size A' n' xs) (hn : n ≤ 1048576) :
  Calls Try.prog 15 #[.slice A n c, .slice A' n' c'] w fun e w' => e = .returned (.bool true) ∧ Below w.heap.size w w' := by
 obtain rfl : n = n' := by rw [← h.1, ← h'.1]
 exact (eqYes A A' n c c' xs w h h' hn).mono fun _ _ ⟨he, d, hd⟩ => ⟨he, by rw [hd]; exact drewN_below _ _⟩
theorem owns_put {w : World} {lo hi n c b : Nat} {A : Option Addr} {xss : List (List Int)} {t : TypeId} {cs : Array Value} (h : Owns w lo hi A n c xss) (hr : Row w b t cs) (hb : b < lo) (i : Nat) (u : Value) : Owns (w.setCell ⟨b, i, none⟩ u) lo hi A n c xss :=
 h.btw (lo' := b) (hi' := b + 1) (Btw.of_grown (grown_put (World.grownBy.refl _ _) _ _) (fun k hk => by injection hk; omega)) (.inr (by omega))
end kinds
end
section
open Go.Lib (hid)
namespace look
open Go.RowKit base ints marks app sym segs fillMath
set_option maxRecDepth 100000
theorem varTerm (i : Int) (w : World) (h0 : 0 ≤ i) (h1 : i ≤ 1000) :
  Calls Try.prog 136 #[.int .i64 i] w (AnsList w [-1 - i]) := by
 have F : AnsList w [-1 - i] (.returned (.slice (some ⟨w.heap.size, 0, none⟩) 1 1)) (w.alloc (.cells #[.int .i64 (-1 - i)] 2)) :=
  ⟨_, 1, 1, rfl, Own.of_row (Row.new _ _ _) rfl rfl (Nat.le_refl _) (by omega) (Nat.le_refl _) (fun j hj => by
   have e : j = 0 := by omega
   subst e
   rfl), (Below.refl _ _).alloc (Nat.le_refl _) _⟩
 have HF := hid F
 clear F
 go_enter Try.func136, Try.ntmps136
 go_wp2
 go_ret
 exact HF.out
def AnsLook (B : Nat) (w : World) (ys : List Int) (e : Ending) (w' : World) : Prop := ∃ A n c, e = .returned (.slice A n c) ∧ Seg w' w'.heap.size A n ys ∧ Cap A n c ∧ (∀ k, blk A = some k → k < B ∨ w.heap.size ≤ k) ∧ Below w.heap.size w w'
def Looks (g : Nat) (lb : Array Value) (w : World) (L : Nat → List Int) (N : Nat) : Prop :=
 ∀ (W : World) (i : Nat), Below w.heap.size w W → i < N → Calls Try.prog g (#[.int .i64 (i : Int)] ++ lb) W (AnsLook w.heap.size W (L i))
theorem Looks.next {g : Nat} {lb : Array Value} {w w' : World} {L : Nat → List Int} {N : Nat} (h : Looks g lb w L N) (hb : Below w.heap.size w w') : Looks g lb w' L N :=
 fun W i hW hi => (h W i (next_trans hb hW) hi).mono fun _ _ ⟨A, n, c, he, h1, h2, h3, h4⟩ => ⟨A, n, c, he, h1, h2, fun k hk => by have := h3 k hk; have := hb.size; omega, h4⟩
theorem own_cap {w : World} {base : Nat} {A : Option Addr} {n c : Nat} {xs : List Int} (h : Own w base (.slice A n c) xs) : Cap A n c := by
 have hl := Own.len h
 rcases own_form (n := n) (vs := xs.map (Value.int .i64)) (by rw [hl]; rw [hl] at h; exact h) with ⟨rfl, h1, rfl, _⟩ | ⟨g, cur, rfl, _, _, h1, h2, h3, _⟩
 ·exact ⟨by omega, by omega, fun _ => rfl⟩
 ·exact ⟨h1, h3, fun e => by cases e⟩
theorem look_new {w w' : World} {B : Nat} {ys : List Int} {A : Option Addr} {n c : Nat} (ho : Own w' w.heap.size (.slice A n c) ys) (hb : Below w.heap.size w w') : AnsLook B w ys (.returned (.slice A n c)) w' :=
 ⟨A, n, c, rfl, Own.seg ho, own_cap ho, fun k hk => .inr (World.ownsRow.lt ho k (by cases A with | none => cases hk | some a => exact hk)).1, hb⟩
def HeadFill (w : World) (m : Nat) (t : List Int) (L : Nat → List Int) (out i : Value) (wr : World) : Prop :=
 ∃ (k : Nat) (O : Option Addr) (on oc : Nat), k ≤ m ∧ i = .int .i64 k ∧ out = .slice O on oc ∧ Own wr w.heap.size (.slice O on oc) (fillL L (t.take k)) ∧ Below w.heap.size w wr
theorem fill_bound {L : Nat → List Int} {t : List Int} {m k : Nat} (hM : ∀ i, (L i).length ≤ 4096) (hm : t.length = m) (h60 : m ≤ 60) : (fillL L (t.take k)).length ≤ 245760 := by
 have h := fill_len (M := 4096) (by omega) hM (t.take k)
 have h2 : (t.take k).length ≤ 60 := by simp; omega
 have h3 : (t.take k).length * 4096 ≤ 60 * 4096 := Nat.mul_le_mul_right _ h2
 omega
set_option maxHeartbeats 2000000 in
theorem fill (g : Nat) (lb : Array Value) (eg : ∀ args w, (callFunc g args).run Try.prog w = .ok (.enter g args) w) (A : Option Addr) (m c : Nat) (t : List Int) (L : Nat → List Int) (w : World)
  (hL : Looks g lb w L 24) (h : Seg w w.heap.size A m t) (hm : m ≤ 60) (hv : ∀ x ∈ t, -24 ≤ x) (hM : ∀ i, (L i).length ≤ 4096) :
  Calls Try.prog 121 #[.func (.func g) #[] lb, .slice A m c] w (AnsList w (fillL L t)) := by
 have HL := hid h.1
 have HV := hid hv
 have HM := hid hM
 have HK := hid hL
 have S0 : HeadFill w m t L (.slice none 0 0) (.int .i64 0) w := ⟨0, _, _, _, Nat.zero_le _, rfl, rfl, by simpa [fillL] using Own.nil w w.heap.size, Below.refl _ _⟩
 have HS0 := hid S0
 clear S0 hv hM hL
 go_enter Try.func121, Try.ntmps121
 go_wp2
 go_loopw [5, 10] (fun out i wr => HeadFill w m t L out i wr) (fun _ i _ => m - (intOf i).toNat)
 case atStart => exact HS0.out
 case round =>
  obtain ⟨k, O, on, oc, hk, rfl, rfl, ho, hb⟩ := hrel
  clear HS0
  have hon : on ≤ 245760 := by rw [Own.len ho]; exact fill_bound HM.out HL.out hm
  by_cases hlt : k < m
  ·obtain ⟨b, off, x, rfl, hbb, hx, ex⟩ := h.spot hlt
   have hx1 : wr.cell? ⟨b, off + k, none⟩ = some (.int .i64 x) := (hb.cell (p := ⟨b, off + k, none⟩) hbb).trans hx
   have hmem : x ∈ t := by
    have hkl : k < t.length := by rw [HL.out]; exact hlt
    have := ex.out
    rw [← this]
    simp [List.getD, hkl]
   have hx24 : -24 ≤ x := HV.out x hmem
   have E := hid (fill_take (L := L) (t := t) (k := k) (by rw [HL.out]; exact hlt) ex.out)
   have hsz := hb.size
   clear hmem hx h ex
   by_cases hpos : 0 ≤ x
   ·have R := hid (rep_sym (L := L) hpos)
    go_wp2_with (at_builtin; refine app1 rfl _ _ rfl w.heap.size O on oc (fillL L (t.take k)) rfl (Own.alloc ho _) wr.heap.size 1 x rfl ((Row.new _ _ _).cell 0) (by omega) (by simp; omega) ?_; intro O' oc' w2 ho2 b2)
    have S : HeadFill w m t L (.slice O' (on + 1) oc') (.int .i64 ((k : Int) + 1)) w2 := ⟨k + 1, O', on + 1, oc', hlt, by simp, rfl, by rw [E.out, R.out]; exact ho2, (hb.alloc hsz _).trans b2⟩
    replace S := hid S
    clear ho2 b2 ho hb R E
    go_wp2
    go_roundw
    case rel => exact S.out
    case measure => simp [intOf]; omega
   ·have hneg : x < 0 := by omega
    have R := hid (rep_var (L := L) hneg)
    have hcall := HK.out wr (-1 - x).toNat hb (by omega)
    rw [show (((-1 - x).toNat : Nat) : Int) = -1 - x by omega] at hcall
    have hLM : (L (-1 - x).toNat).length ≤ 4096 := HM.out _
    generalize hys : L (-1 - x).toNat = ys at hcall R hLM
    replace hcall := hid hcall
    clear hys
    go_wp2_with (first
     | (go_at_fn g; refine hcall.out.mono ?_; rintro e w1 ⟨A', n', c', rfl, s', cap', -, bb⟩; have hn' : n' ≤ 4096 := (by rw [← s'.1]; exact hLM); have ho1 := ho.next bb; have hb1 := hb.trans (bb.mono hb.size))
     | (at_builtin; refine appAll rfl _ _ rfl w.heap.size O on oc (fillL L (t.take k)) rfl ho1 A' n' c' w1.heap.size ys rfl s' cap'.2.2 (by omega) (by omega) hb1.size ?_; intro O' oc' w2 ho2 b2))
    have S : HeadFill w m t L (.slice O' (on + n') oc') (.int .i64 ((k : Int) + 1)) w2 := ⟨k + 1, O', on + n', oc', hlt, by simp, rfl, by rw [E.out, R.out]; exact ho2, hb1.trans b2⟩
    replace S := hid S
    clear ho2 b2 ho hb R E ho1 hb1 s' cap' bb hcall
    go_wp2
    go_roundw
    case rel => exact S.out
    case measure => simp [intOf]; omega
  ·have F : AnsList w (fillL L t) (.returned (.slice O on oc)) wr := by
    rw [List.take_of_length_le (by rw [HL.out]; omega)] at ho
    exact ⟨O, on, oc, rfl, ho, hb⟩
   have HF := hid F
   clear F ho hb h
   go_wp2
   go_ret
   exact HF.out
end look
end
section
namespace substOk
open Go.RowKit base ints sig term termOk marks app sym sub segs segsHelp termFacts varsMath varsOf fillMath Go.Proofs.Ytblhmplpcdcejaa.look
set_option maxRecDepth 100000
def goodB (sg t : List Int) : Bool := decide (t.length = 0) || termOkB sg t
def HeadSO (w : World) (A : Option Addr) (n c : Nat) (S : Option Addr) (m c' : Nat) (sg : List Int) (ss : List (List Int)) (i : Value) (wr : World) : Prop :=
 ∃ k : Nat, k ≤ m ∧ i = .int .i64 k ∧ (∀ j, j < k → goodB sg (ss.getD j []) = true) ∧ Row wr w.heap.size 31 #[.slice A n c] ∧ Row wr (w.heap.size + 1) 106 #[.slice S m c'] ∧ Below w.heap.size w wr
theorem headSO_step {w wr : World} {A : Option Addr} {n c : Nat} {S : Option Addr} {m c' : Nat} {sg : List Int} {ss : List (List Int)} {k : Nat} (hk : k < m) (hlow : ∀ j, j < k → goodB sg (ss.getD j []) = true) (hg : goodB sg (ss.getD k []) = true)
  (r1 : Row wr w.heap.size 31 #[.slice A n c]) (r2 : Row wr (w.heap.size + 1) 106 #[.slice S m c']) (hb : Below w.heap.size w wr) : HeadSO w A n c S m c' sg ss (.int .i64 ((k : Int) + 1)) wr :=
 ⟨k + 1, hk, by simp, fun j hj => by
  by_cases e : j = k
  ·subst e; exact hg
  ·exact hlow j (by omega), r1, r2, hb⟩
end substOk
end
section
open Go.Lib (hid)
namespace gives
open Go.RowKit base ints sig term termOk marks app sym sub segs segsHelp termFacts varsMath varsOf fillMath Go.Proofs.Ytblhmplpcdcejaa.look substOk
set_option maxRecDepth 100000
def givesL (ss : List (List Int)) (i : Nat) : List Int := if (ss.getD i []).length = 0 then vt i else ss.getD i []
theorem gives_var {ss : List (List Int)} {i : Nat} (h : (ss.getD i []).length = 0) : givesL ss i = vt i := by unfold givesL; rw [if_pos h]
theorem gives_term {ss : List (List Int)} {i : Nat} (h : ¬ (ss.getD i []).length = 0) : givesL ss i = ss.getD i [] := by unfold givesL; rw [if_neg h]
theorem gives_out {ss : List (List Int)} {i : Nat} (h : ¬ i < ss.length) : givesL ss i = vt i := gives_var (by simp [List.getD, h])
theorem gives_pos (ss : List (List Int)) (i : Nat) : 1 ≤ (givesL ss i).length := by
 unfold givesL
 split
 ·simp [vt]
 ·omega
set_option maxHeartbeats 2000000 in
theorem l2Gives (S : Option Addr) (m c : Nat) (ss : List (List Int)) (i : Nat) (w : World) (h : Segs w w.heap.size S m ss) (ht : tot ss ≤ 1048576) (hi : i ≤ 1048576) :
  Calls Try.prog 109 #[.agg #[.slice S m c], .int .i64 (i : Int)] w (AnsList w (givesL ss i)) := by
 have hm : m ≤ 1048576 := tot_len h.1 ht
 have HT := hid (tot_each ht)
 have HL := hid h.1
 clear ht
 have bel : Below w.heap.size w (w.alloc (.cells #[.slice S m c] 106)) := (Below.refl _ _).alloc (Nat.le_refl _) _
 have i0 : (0 : Int) ≤ (i : Int) := by omega
 have var : ∀ (hv : givesL ss i = vt i), AnsList w (givesL ss i) (.returned (.slice (some ⟨w.heap.size + 1, 0, none⟩) 1 1)) ((w.alloc (.cells #[.slice S m c] 106)).alloc (.cells #[.int .i64 (-1 - (i : Int))] 2)) := fun hv => by
  refine ⟨_, 1, 1, rfl, ?_, bel.alloc (by simp) _⟩
  rw [hv]
  have := Own.of_row (base := w.heap.size) (n := 1) (c := 1) (xs := vt i) (Row.new (w.alloc (.cells #[.slice S m c] 106)) 2 #[.int .i64 (-1 - (i : Int))]) rfl rfl (Nat.le_refl _) (by omega) (by simp) (fun j hj => by
   have e : j = 0 := by omega
   subst e
   rfl)
  simpa using this
 have VAR := hid var
 clear var
 by_cases hlt : i < m
 ·obtain ⟨b, off, A', n', cc, rfl, hbB, hx, hseg, hcap⟩ := h.spot hlt
  have hx1 : (w.alloc (.cells #[.slice (some ⟨b, off, none⟩) m c] 106)).cell? ⟨b, off + i, none⟩ = some (.slice A' n' cc) := (bel.cell (p := ⟨b, off + i, none⟩) hbB).trans hx
  by_cases hz : n' = 0
  ·subst hz
   have F := hid (VAR.out (gives_var hseg.1))
   clear h hseg hcap hx bel VAR
   go_enter Try.func109, Try.ntmps109
   go_wp2
   go_ret
   exact F.out
  ·have hpos : 0 < n' := by omega
   have E := hid (gives_term (ss := ss) (i := i) (by rw [hseg.1]; exact hz))
   have L := hid (copyInts A' n' cc _ _ ((hseg.below bel).more bel.size) hcap.2.2 (by rw [← hseg.1]; exact HT.out i))
   clear h hseg hcap hx VAR
   go_enter Try.func109, Try.ntmps109
   go_wp2_with fail
   refine L.out.mono ?_
   rintro e w1 ⟨D, dn, dc, rfl, o1, b1⟩
   have F : AnsList w (givesL ss i) (.returned (.slice D dn dc)) w1 := ⟨D, dn, dc, rfl, by rw [E.out]; exact Own.lower o1 bel.size, next_trans bel b1⟩
   have HF := hid F
   clear F o1 b1 bel L
   go_wp2
   go_ret
   exact HF.out
 ·have hge : ¬ (i : Int) < (m : Int) := by omega
  have F := hid (VAR.out (gives_out (by rw [HL.out]; exact hlt)))
  clear h bel VAR
  go_enter Try.func109, Try.ntmps109
  go_wp2
  go_ret
  exact F.out
theorem lookupIn (S : Option Addr) (m c : Nat) (w : World) :
  Calls Try.prog 131 #[.agg #[.slice S m c]] w fun e w' => e = .returned (.func (.func 135) #[] #[.pointer (some ⟨w.heap.size, 0, none⟩)]) ∧ w' = w.alloc (.cells #[.slice S m c] 106) := by
 have hmf : ∀ (fn : Fn) (first cap : Array Value) (w : World), (Instr.makeFunc fn first cap).run Try.prog w = .ok (.func fn first cap) w := fun _ _ _ _ => rfl
 go_enter Try.func131, Try.ntmps131
 go_wp2
 go_ret
 exact ⟨rfl, rfl⟩
set_option maxHeartbeats 2000000 in
theorem lookSubstC (B : Nat) (S : Option Addr) (m c : Nat) (ss : List (List Int)) (w : World) (hB : B < w.heap.size) (hc : w.cell? ⟨B, 0, none⟩ = some (.slice S m c)) (h : Segs w w.heap.size S m ss) (hm : m ≤ 1048576) :
  Looks 135 #[.pointer (some ⟨B, 0, none⟩)] w (givesL ss) 24 := by
 intro W i hb hi
 have cB : W.cell? ⟨B, 0, none⟩ = some (.slice S m c) := (hb.cell (p := ⟨B, 0, none⟩) hB).trans hc
 have h1 := h.below hb
 have HL := hid h.1
 have i0 : (0 : Int) ≤ (i : Int) := by omega
 have LV := hid (varTerm (i : Int) W (by omega) (by omega))
 have hws := hb.size
 clear hB hc h hb
 show Calls Try.prog 135 #[.int .i64 (i : Int), .pointer (some ⟨B, 0, none⟩)] W _
 by_cases hlt : i < m
 ·obtain ⟨b, off, A', n', cc, rfl, hbB, hx, hseg0, hcap⟩ := h1.spot hlt
  have hseg := hseg0.more hws
  by_cases hz : n' = 0
  ·subst hz
   have E := hid (gives_var (ss := ss) (i := i) hseg.1)
   clear h1 hseg hseg0 hcap
   go_enter Try.func135, Try.ntmps135
   go_wp2_with fail
   refine LV.out.mono ?_
   rintro e w1 ⟨D, dn, dc, rfl, o1, b1⟩
   have F : AnsLook w.heap.size W (givesL ss i) (.returned (.slice D dn dc)) w1 := by rw [E.out]; exact look_new o1 b1
   have HF := hid F
   clear F o1 b1 LV
   go_wp2
   go_ret
   exact HF.out
  ·have hpos : 0 < n' := by omega
   have F : AnsLook w.heap.size W (givesL ss i) (.returned (.slice A' n' cc)) W := ⟨A', n', cc, rfl, by rw [gives_term (by rw [hseg.1]; exact hz)]; exact hseg, hcap, fun k hk => .inl (by obtain ⟨b2, off2, e2, hb2, _⟩ := hseg0.2 hpos; rw [e2] at hk; have : b2 = k := Option.some.inj hk; omega), Below.refl _ _⟩
   have HF := hid F
   clear F h1 hseg hseg0 hcap LV
   go_enter Try.func135, Try.ntmps135
   go_wp2
   go_ret
   exact HF.out
 ·have hge : ¬ (i : Int) < (m : Int) := by omega
  have E := hid (gives_out (ss := ss) (i := i) (by rw [HL.out]; exact hlt))
  clear h1
  go_enter Try.func135, Try.ntmps135
  go_wp2_with fail
  refine LV.out.mono ?_
  rintro e w1 ⟨D, dn, dc, rfl, o1, b1⟩
  have F : AnsLook w.heap.size W (givesL ss i) (.returned (.slice D dn dc)) w1 := by rw [E.out]; exact look_new o1 b1
  have HF := hid F
  clear F o1 b1 LV
  go_wp2
  go_ret
  exact HF.out
theorem lookSubst (B : Nat) (S : Option Addr) (m c : Nat) (ss : List (List Int)) (w : World) (hr : Row w B 106 #[.slice S m c]) (h : Segs w w.heap.size S m ss) (hm : m ≤ 1048576) :
  Looks 135 #[.pointer (some ⟨B, 0, none⟩)] w (givesL ss) 24 := lookSubstC B S m c ss w hr.lt (hr.cell 0) h hm
theorem tooLong (A : Option Addr) (n c : Nat) (w : World) (hn : n ≤ 9223372036854775807) :
  Calls Try.prog 130 #[.slice A n c] w fun e w' => w = w' ∧ e = .returned (.bool (decide (60 < n))) := by
 have E : decide ((60 : Int) < (n : Int)) = decide (60 < n) := decide_eq_decide.2 (by omega)
 rw [← E]
 have HE := hid E
 clear E
 generalize hz : decide ((60 : Int) < (n : Int)) = z
 have HZ := hid hz
 clear hz
 go_enter Try.func130, Try.ntmps130
 go_wp2
 go_ret
 exact ⟨rfl, by rw [← HZ.out]; rfl⟩
end gives
end
section
namespace stepMath
open sig term termOk termFacts fillMath gives endAt sub matchMath termMath posMath putMath ruleMath
def putAt (sg t u : List Int) (a : Nat) : List Int := putL t a (len1 sg t a) u
def stepO (sg : List Int) (x : Rl) (t : List Int) (a : Nat) : Option (List Int) :=
 match mst sg (subL sg t a) x.1 0 s0 with
 | none => none
 | some ss => if (fillL (givesL ss) x.2).length ≤ 60 ∧ (putAt sg t (fillL (givesL ss) x.2) a).length ≤ 60 then some (putAt sg t (fillL (givesL ss) x.2) a) else none
def redB (sg : List Int) (x : Rl) (t : List Int) (a : Nat) : Bool := (mst sg (subL sg t a) x.1 0 s0).isSome
theorem sub_ok {sg t : List Int} (h : termOkB sg t = true) {a : Nat} (ha : a < t.length) : termOkB sg (subL sg t a) = true := by
 obtain ⟨h1, h2, h3⟩ := term_parts h
 obtain ⟨e1, e2, e3⟩ := sub_len1 h ha
 have h4 := term_at h ha
 exact term_mk h1 (by omega) e3
theorem gives_of {sg l s : List Int} {ss : List (List Int)} (h1 : termOkB sg l = true) (h2 : termOkB sg s = true) (h : mst sg s l 0 s0 = some ss) : Turns sg l s (givesL ss) ∧ ∀ x ∈ l, x < 0 → givesL ss (vr x) = ss.getD (vr x) [] := by
 have hm : matchO sg l s = some ss := by rw [match_yes h1 h2]; exact h
 obtain ⟨e, t1, t2⟩ := match_turns hm
 have hg : ∀ x ∈ l, x < 0 → givesL ss (vr x) = ss.getD (vr x) [] := fun x hx h0 => by
  have this : scan sg 1 (ss.getD (vr x) []) = some (ss.getD (vr x) []).length := t2 x hx h0
  unfold givesL
  rw [if_neg ?_]
  intro e0
  have e1 : ss.getD (vr x) [] = [] := List.length_eq_zero_iff.1 e0
  rw [e1] at this
  exact absurd this (by simp [scan])
 refine ⟨⟨?_, fun x hx h0 => by rw [hg x hx h0]; exact t2 x hx h0⟩, hg⟩
 rw [fill_ext (L' := fun i => ss.getD i []) (fun x hx h0 => hg x hx h0)]
 exact t1
theorem step_iff {sg : List Int} {x : Rl} {t v : List Int} {a : Nat} (hx : ruleOkB sg x = true) (ht : termOkB sg t = true) (ha : a < t.length) :
  stepO sg x t a = some v ↔ ∃ L, Turns sg x.1 (subL sg t a) L ∧ v = putAt sg t (fillL L x.2) a ∧ (fillL L x.2).length ≤ 60 ∧ v.length ≤ 60 := by
 obtain ⟨h1, h2, h3, h4⟩ := rule_parts hx
 have hs := sub_ok ht ha
 constructor
 ·intro h
  unfold stepO at h
  cases hm : mst sg (subL sg t a) x.1 0 s0 with
  | none => rw [hm] at h; cases h
  | some ss =>
   rw [hm] at h
   dsimp only at h
   split at h
   ·rename_i hf
    injection h with h
    subst h
    exact ⟨_, (gives_of h1 hs hm).1, rfl, hf.1, hf.2⟩
   ·cases h
 ·rintro ⟨L, hL, rfl, hf, hv⟩
  obtain ⟨ss, hm, hg⟩ := turns_match h1 hs hL
  rw [match_yes h1 hs] at hm
  have g := gives_of h1 hs hm
  have e : fillL (givesL ss) x.2 = fillL L x.2 := fill_ext (fun y hy h0 => by
   have hy1 := h4 y hy h0
   show givesL ss (vr y) = L (vr y)
   rw [g.2 y hy1 h0]
   exact hg y hy1 h0)
  unfold stepO
  rw [hm]
  dsimp only
  rw [e, if_pos ⟨hf, hv⟩]
theorem step_ok {sg : List Int} {x : Rl} {t v : List Int} {a : Nat} (hx : ruleOkB sg x = true) (ht : termOkB sg t = true) (ha : a < t.length) (h : stepO sg x t a = some v) : termOkB sg v = true := by
 obtain ⟨L, hL, rfl, hf, hv⟩ := (step_iff hx ht ha).1 h
 obtain ⟨h1, h2, h3, h4⟩ := rule_parts hx
 obtain ⟨s1, s2, s3⟩ := term_parts ht
 exact put_term ht (term_mk s1 hf (scan_fill (term_parts h2).2.2 (fun y hy h0 => hL.2 y (h4 y hy h0) h0))) ha hv
end stepMath
end
section
namespace walkMath
open sig term termOk termFacts fillMath gives sub matchMath putMath ruleMath stepMath
abbrev St := Int × Int × List Int
abbrev Wk := List Int × List St
def inB (x : Int) (n : Nat) : Bool := decide (0 ≤ x ∧ x < n)
def rightB (sg : List Int) (rs : List Rl) (t : List Int) : Bool := sysOkB sg rs && termOkB sg t
def thereR (sg : List Int) (rs : List Rl) (t : List Int) (a r : Int) : Bool := rightB sg rs t && (inB a t.length && inB r rs.length)
def rl (rs : List Rl) (r : Int) : Rl := rs.getD r.toNat ([], [])
def stepAtO (sg : List Int) (rs : List Rl) (t : List Int) (a r : Int) : Option (List Int) := if thereR sg rs t a r = true then stepO sg (rl rs r) t a.toNat else none
def stepsL (sg : List Int) (rs : List Rl) (t : List Int) : List St := (List.range t.length).flatMap fun a => (List.range rs.length).filterMap fun r => (stepO sg (rs.getD r ([], [])) t a).map fun v => ((a : Int), (r : Int), v)
def normalB (sg : List Int) (rs : List Rl) (t : List Int) : Bool := rightB sg rs t && (List.range t.length).all fun a => rs.all fun x => !redB sg x t a
def goOn (sg : List Int) (rs : List Rl) : List Int → List St → Option (List Int)
 | t, [] => some t
 | t, s :: ss => match stepAtO sg rs t s.1 s.2.1 with
  | some v => if v = s.2.2 then goOn sg rs v ss else none
  | none => none
def walkB (sg : List Int) (rs : List Rl) (w : Wk) : Bool := rightB sg rs w.1 && (decide (w.2.length ≤ 60) && (goOn sg rs w.1 w.2).isSome)
def endL (w : Wk) : List Int := match w.2.getLast? with
 | some s => s.2.2
 | none => w.1
theorem there_parts {sg : List Int} {rs : List Rl} {t : List Int} {a r : Int} (h : thereR sg rs t a r = true) : sysOkB sg rs = true ∧ termOkB sg t = true ∧ (0 ≤ a ∧ a < t.length) ∧ (0 ≤ r ∧ r < rs.length) := by
 unfold thereR rightB inB at h
 simp only [Bool.and_eq_true, decide_eq_true_eq] at h
 exact ⟨h.1.1, h.1.2, h.2.1, h.2.2⟩
theorem there_mk {sg : List Int} {rs : List Rl} {t : List Int} {a r : Int} (h1 : sysOkB sg rs = true) (h2 : termOkB sg t = true) (h3 : 0 ≤ a ∧ a < t.length) (h4 : 0 ≤ r ∧ r < rs.length) : thereR sg rs t a r = true := by
 unfold thereR rightB inB
 rw [h1, h2, decide_eq_true h3, decide_eq_true h4]
 rfl
theorem rl_ok {sg : List Int} {rs : List Rl} {r : Int} (h : sysOkB sg rs = true) (hr : 0 ≤ r ∧ r < rs.length) : ruleOkB sg (rl rs r) = true := (sys_parts h).2.2 _ (rl_mem (by omega))
theorem stepAt_parts {sg : List Int} {rs : List Rl} {t v : List Int} {a r : Int} (h : stepAtO sg rs t a r = some v) : thereR sg rs t a r = true ∧ stepO sg (rl rs r) t a.toNat = some v := by
 unfold stepAtO at h
 split at h
 ·exact ⟨by assumption, h⟩
 ·cases h
theorem stepAt_ok {sg : List Int} {rs : List Rl} {t v : List Int} {a r : Int} (h : stepAtO sg rs t a r = some v) : termOkB sg v = true := by
 obtain ⟨h1, h2⟩ := stepAt_parts h
 obtain ⟨q1, q2, q3, q4⟩ := there_parts h1
 exact step_ok (rl_ok q1 q4) q2 (by omega) h2
theorem go_cons {sg : List Int} {rs : List Rl} {t v : List Int} {s : St} {ss : List St} : goOn sg rs t (s :: ss) = some v ↔ stepAtO sg rs t s.1 s.2.1 = some s.2.2 ∧ goOn sg rs s.2.2 ss = some v := by
 rw [goOn]
 cases h : stepAtO sg rs t s.1 s.2.1 with
 | none => simp
 | some u =>
  dsimp only
  split
  ·rename_i e
   subst e
   simp
  ·rename_i e
   constructor
   ·intro h; cases h
   ·rintro ⟨h, _⟩
    injection h with h
    exact absurd h e
theorem go_append {sg : List Int} {rs : List Rl} : ∀ {a b : List St} {t : List Int}, goOn sg rs t (a ++ b) = (goOn sg rs t a).bind fun v => goOn sg rs v b
 | [], b, t => rfl
 | s :: a, b, t => by
  show goOn sg rs t (s :: (a ++ b)) = _
  rw [goOn, goOn]
  cases h : stepAtO sg rs t s.1 s.2.1 with
  | none => rfl
  | some u =>
   dsimp only
   split
   ·exact go_append
   ·rfl
theorem end_cons (t : List Int) (s : St) (ss : List St) : endL (t, s :: ss) = endL (s.2.2, ss) := by
 unfold endL
 cases ss with
 | nil => rfl
 | cons u r =>
  rw [List.getLast?_cons_cons]
  cases h : (u :: r).getLast? with
  | none => simp at h
  | some z => rfl
theorem go_end {sg : List Int} {rs : List Rl} : ∀ {ss : List St} {t v : List Int}, goOn sg rs t ss = some v → v = endL (t, ss)
 | [], t, v, h => by injection h with h; exact h.symm
 | s :: ss, t, v, h => by
  obtain ⟨_, h2⟩ := go_cons.1 h
  rw [end_cons]
  exact go_end h2
theorem go_ok {sg : List Int} {rs : List Rl} : ∀ {ss : List St} {t v : List Int}, termOkB sg t = true → goOn sg rs t ss = some v → termOkB sg v = true ∧ ∀ s ∈ ss, termOkB sg s.2.2 = true
 | [], t, v, ht, h => by injection h with h; subst h; exact ⟨ht, fun s hs => by cases hs⟩
 | s :: ss, t, v, _, h => by
  obtain ⟨h1, h2⟩ := go_cons.1 h
  have h3 := stepAt_ok h1
  obtain ⟨h4, h5⟩ := go_ok h3 h2
  refine ⟨h4, fun u hu => ?_⟩
  rcases List.mem_cons.1 hu with rfl | hu
  ·exact h3
  ·exact h5 u hu
theorem walk_parts {sg : List Int} {rs : List Rl} {w : Wk} (h : walkB sg rs w = true) : sysOkB sg rs = true ∧ termOkB sg w.1 = true ∧ w.2.length ≤ 60 ∧ goOn sg rs w.1 w.2 = some (endL w) := by
 unfold walkB rightB at h
 simp only [Bool.and_eq_true, decide_eq_true_eq] at h
 obtain ⟨⟨h1, h2⟩, h3, h4⟩ := h
 obtain ⟨v, hv⟩ := Option.isSome_iff_exists.1 h4
 exact ⟨h1, h2, h3, by rw [hv, go_end hv]⟩
theorem walk_mk {sg : List Int} {rs : List Rl} {w : Wk} {v : List Int} (h1 : sysOkB sg rs = true) (h2 : termOkB sg w.1 = true) (h3 : w.2.length ≤ 60) (h4 : goOn sg rs w.1 w.2 = some v) : walkB sg rs w = true := by
 unfold walkB rightB
 rw [h1, h2, decide_eq_true h3, h4]
 rfl
theorem steps_mem {sg : List Int} {rs : List Rl} {t : List Int} {s : St} : s ∈ stepsL sg rs t ↔ ∃ a r : Nat, a < t.length ∧ r < rs.length ∧ s.1 = (a : Int) ∧ s.2.1 = (r : Int) ∧ stepO sg (rs.getD r ([], [])) t a = some s.2.2 := by
 unfold stepsL
 rw [List.mem_flatMap]
 constructor
 ·rintro ⟨a, ha, h⟩
  obtain ⟨r, hr, h⟩ := List.mem_filterMap.1 h
  obtain ⟨v, hv, rfl⟩ := Option.map_eq_some_iff.1 h
  exact ⟨a, r, List.mem_range.1 ha, List.mem_range.1 hr, rfl, rfl, hv⟩
 ·rintro ⟨a, r, ha, hr, e1, e2, h⟩
  refine ⟨a, List.mem_range.2 ha, List.mem_filterMap.2 ⟨r, List.mem_range.2 hr, ?_⟩⟩
  rw [h, Option.map_some, ← e1, ← e2]
theorem steps_at {sg : List Int} {rs : List Rl} {t : List Int} {s : St} (h1 : sysOkB sg rs = true) (h2 : termOkB sg t = true) (h : s ∈ stepsL sg rs t) : stepAtO sg rs t s.1 s.2.1 = some s.2.2 := by
 obtain ⟨a, r, ha, hr, e1, e2, e3⟩ := steps_mem.1 h
 unfold stepAtO
 rw [if_pos (there_mk h1 h2 (by omega) (by omega)), e1, e2, Int.toNat_natCast]
 unfold rl
 rw [Int.toNat_natCast]
 exact e3
end walkMath
end
section
namespace stepsMath
open sig term termOk termFacts ruleMath stepMath walkMath
def stF (sg : List Int) (rs : List Rl) (t : List Int) (a r : Nat) : Option St := (stepO sg (rs.getD r ([], [])) t a).map fun v => ((a : Int), (r : Int), v)
def stN (sg : List Int) (rs : List Rl) (t : List Int) (i k : Nat) : List St := (List.range i).flatMap (fun a => (List.range rs.length).filterMap (stF sg rs t a)) ++ (List.range k).filterMap (stF sg rs t i)
section
variable {sg : List Int} {rs : List Rl} {t : List Int} {i k : Nat}
theorem st_zero : stN sg rs t 0 0 = [] := rfl
theorem st_all : stN sg rs t t.length 0 = stepsL sg rs t := by unfold stN; rw [List.range_zero, List.filterMap_nil, List.append_nil]; rfl
theorem st_row : stN sg rs t i rs.length = stN sg rs t (i + 1) 0 := by
 unfold stN
 rw [List.range_zero, List.filterMap_nil, List.append_nil, List.range_succ, List.flatMap_append]
 simp
theorem st_some {v : List Int} (h : stepO sg (rs.getD k ([], [])) t i = some v) : stN sg rs t i (k + 1) = stN sg rs t i k ++ [((i : Int), (k : Int), v)] := by
 unfold stN
 rw [List.range_succ, List.filterMap_append, ← List.append_assoc]
 have : stF sg rs t i k = some ((i : Int), (k : Int), v) := by unfold stF; rw [h]; rfl
 simp [this]
theorem st_none (h : stepO sg (rs.getD k ([], [])) t i = none) : stN sg rs t i (k + 1) = stN sg rs t i k := by
 unfold stN
 rw [List.range_succ, List.filterMap_append]
 have : stF sg rs t i k = none := by unfold stF; rw [h]; rfl
 simp [this]
theorem st_len : (stN sg rs t i k).length ≤ i * rs.length + k := by
 unfold stN
 rw [List.length_append]
 have h1 : ∀ n : Nat, ∀ a, ((List.range n).filterMap (stF sg rs t a)).length ≤ n := fun n a => by
  have := List.length_filterMap_le (stF sg rs t a) (List.range n)
  rwa [List.length_range] at this
 have h2 : ∀ i : Nat, ((List.range i).flatMap (fun a => (List.range rs.length).filterMap (stF sg rs t a))).length ≤ i * rs.length := fun i => by
  induction i with
  | zero => simp
  | succ i ih =>
   rw [List.range_succ, List.flatMap_append, List.length_append, Nat.add_mul]
   have := h1 rs.length i
   simp only [List.flatMap_cons, List.flatMap_nil, List.append_nil]
   omega
 have := h1 k i
 have := h2 i
 omega
end
def rdN (sg : List Int) (rs : List Rl) (t : List Int) (i k : Nat) : Nat := ((List.range i).map fun a => rs.countP fun x => redB sg x t a).sum + (rs.take k).countP fun x => redB sg x t i
section
variable {sg : List Int} {rs : List Rl} {t : List Int} {i k : Nat}
theorem rd_step (h : k < rs.length) : rdN sg rs t i (k + 1) = rdN sg rs t i k + if redB sg (rs.getD k ([], [])) t i = true then 1 else 0 := by
 unfold rdN
 rw [List.take_succ_eq_append_getElem h, List.countP_append]
 have : rs.getD k ([], []) = rs[k] := by simp [List.getD, h]
 rw [this, List.countP_cons, List.countP_nil]
 omega
end
end stepsMath
end
section
namespace orderMath
open sig term termOk termFacts ruleMath stepMath walkMath stepsMath
def hasR (sg : List Int) (rs : List Rl) (t : List Int) (a : Nat) : Bool := rs.any fun x => redB sg x t a
def ruleF (sg : List Int) (rs : List Rl) (t : List Int) (a : Nat) : Int := match rs.findIdx? (fun x => redB sg x t a) with
 | some r => (r : Int)
 | none => -1
def plN (sg : List Int) (rs : List Rl) (t : List Int) (n : Nat) : List Int := ((List.range n).filter (hasR sg rs t)).map fun a : Nat => (a : Int)
def placesL (sg : List Int) (rs : List Rl) (t : List Int) : List Int := plN sg rs t t.length
def inN (E : Int → Int) (l : List Int) (i : Nat) : List Int := ((List.range i).filter fun k => decide (k + 1 = l.length ∨ E (l.getD k 0) ≤ l.getD (k + 1) 0)).map fun k => l.getD k 0
def inL (E : Int → Int) (l : List Int) : List Int := inN E l l.length
def endR (sg t : List Int) (a : Int) : Int := endI sg t a.toNat
def selL (sg : List Int) (rs : List Rl) (t : List Int) (s : Int) : List Int := if s = 1 then inL (endR sg t) (placesL sg rs t) else if s = 2 then placesL sg rs t else (placesL sg rs t).reverse
def stratB (s : Int) : Bool := decide (1 ≤ s ∧ s ≤ 3)
def fuelB (f : Int) : Bool := decide (0 ≤ f ∧ f ≤ 60)
def pickL (sg : List Int) (rs : List Rl) (t : List Int) (s : Int) : Option (Int × Int) := (selL sg rs t s).head?.map fun a => (a, ruleF sg rs t a.toNat)
def runS (sg : List Int) (rs : List Rl) (s : Int) : Nat → List Int → List St
 | 0, _ => []
 | f + 1, t => match pickL sg rs t s with
  | none => []
  | some p => match stepAtO sg rs t p.1 p.2 with
   | none => []
   | some v => (p.1, p.2, v) :: runS sg rs s f v
def byB (sg : List Int) (rs : List Rl) (t : List Int) (s f : Int) : Bool := rightB sg rs t && (stratB s && fuelB f)
def byD (sg : List Int) (rs : List Rl) (t : List Int) (s f : Int) : Bool := byB sg rs t s f && normalB sg rs (endL (t, runS sg rs s f.toNat t))
section
variable {sg : List Int} {rs : List Rl} {t : List Int}
end
end orderMath
end
section
namespace orderMath
open sig term termOk termFacts ruleMath stepMath walkMath stepsMath
section
variable {E : Int → Int} {l : List Int}
end
section
variable {sg : List Int} {rs : List Rl} {t : List Int}
end
section
variable {sg : List Int} {rs : List Rl} {s : Int} {F i : Nat} {t u v : List Int} {L : List St}
end
section
variable {sg : List Int} {rs : List Rl} {t : List Int}
end
end orderMath
end
section
namespace reachMath
open sig term termOk termFacts ruleMath stepMath walkMath stepsMath orderMath
abbrev Fi := St × Nat × Nat
abbrev Fs := List Fi × Bool
def termF (f : Fi) : List Int := f.1.2.2
def termsF (L : List Fi) : List (List Int) := L.map termF
def addF (p d : Nat) (S : Fs) (x : St) : Fs := if S.2 = false then S else if x.2.2 ∈ termsF S.1 then S else if S.1.length = 60 then (S.1, false) else (S.1 ++ [(x, p, d)], true)
def goF (sg : List Int) (rs : List Rl) (n : Nat) (S : Fs) (i : Nat) : Fs := match S.1[i]? with
 | none => S
 | some f => if f.2.2 = n then S else (stepsL sg rs (termF f)).foldl (addF i (f.2.2 + 1)) S
def startF (t : List Int) : Fi := ((0, 0, t), 0, 0)
def fdN (sg : List Int) (rs : List Rl) (t : List Int) (n : Nat) : Nat → Fs
 | 0 => ([startF t], true)
 | i + 1 => goF sg rs n (fdN sg rs t n i) i
def fdA (sg : List Int) (rs : List Rl) (t : List Int) (n : Nat) : Fs := fdN sg rs t n 60
theorem add_off {p d : Nat} {S : Fs} {x : St} (h : S.2 = false) : addF p d S x = S := if_pos h
theorem add_in {p d : Nat} {S : Fs} {x : St} (h : x.2.2 ∈ termsF S.1) : addF p d S x = S := by
 unfold addF
 by_cases h0 : S.2 = false
 ·rw [if_pos h0]
 ·rw [if_neg h0, if_pos h]
theorem add_full {p d : Nat} {S : Fs} {x : St} (h0 : S.2 = true) (h : x.2.2 ∉ termsF S.1) (h1 : S.1.length = 60) : addF p d S x = (S.1, false) := by unfold addF; rw [if_neg (by rw [h0]; simp), if_neg h, if_pos h1]
theorem add_new {p d : Nat} {S : Fs} {x : St} (h0 : S.2 = true) (h : x.2.2 ∉ termsF S.1) (h1 : S.1.length ≠ 60) : addF p d S x = (S.1 ++ [(x, p, d)], true) := by unfold addF; rw [if_neg (by rw [h0]; simp), if_neg h, if_neg h1]
theorem fold_off {p d : Nat} : ∀ {xs : List St} {S : Fs}, S.2 = false → xs.foldl (addF p d) S = S
 | [], _, _ => rfl
 | x :: r, S, h => by rw [List.foldl_cons, add_off h]; exact fold_off h
theorem fold_snoc {p d : Nat} {xs : List St} {S : Fs} {x : St} : (xs ++ [x]).foldl (addF p d) S = addF p d (xs.foldl (addF p d) S) x := by rw [List.foldl_append]; rfl
theorem fold_take {p d k : Nat} {xs : List St} {S : Fs} (h : k < xs.length) : (xs.take (k + 1)).foldl (addF p d) S = addF p d ((xs.take k).foldl (addF p d) S) (xs.getD k (0, 0, [])) := by
 rw [List.take_succ_eq_append_getElem h, fold_snoc]
 simp [List.getD, h]
structure Inv (sg : List Int) (rs : List Rl) (t : List Int) (n : Nat) (S : Fs) (i : Nat) : Prop where
 len1 : 1 ≤ S.1.length
 len60 : S.1.length ≤ 60
 head : S.1[0]? = some (startF t)
 par : ∀ j f, 0 < j → S.1[j]? = some f → ∃ g, f.2.1 < j ∧ S.1[f.2.1]? = some g ∧ f.1 ∈ stepsL sg rs (termF g) ∧ f.2.2 = g.2.2 + 1
 dn : ∀ f ∈ S.1, f.2.2 ≤ n
 sorted : S.1.Pairwise fun f g => f.2.2 ≤ g.2.2
 nodup : (termsF S.1).Nodup
 top : ∀ g, S.1[i]? = some g → ∀ f ∈ S.1, f.2.2 ≤ g.2.2 + 1
section
variable {sg : List Int} {rs : List Rl} {t : List Int} {n i : Nat} {S : Fs}
theorem inv_zero : Inv sg rs t n ([startF t], true) 0 where
 len1 := Nat.le_refl _
 len60 := by simp
 head := rfl
 par := fun j f h0 hj => by
  obtain ⟨k, rfl⟩ : ∃ k, j = k + 1 := ⟨j - 1, by omega⟩
  simp at hj
 dn := fun f hf => by rw [List.mem_singleton.1 hf]; exact Nat.zero_le _
 sorted := by simp
 nodup := by simp [termsF]
 top := fun g hg f hf => by rw [List.mem_singleton.1 hf]; exact Nat.zero_le _
theorem get_left {α : Type} {L M : List α} {j : Nat} {f : α} (h : L[j]? = some f) : (L ++ M)[j]? = some f := by
 have := (List.getElem?_eq_some_iff.1 h).1
 rw [List.getElem?_append_left this]; exact h
theorem inv_add {f : Fi} (h : Inv sg rs t n S i) (hf : S.1[i]? = some f) (hn : f.2.2 ≠ n) {x : St} (hx : x ∈ stepsL sg rs (termF f)) : Inv sg rs t n (addF i (f.2.2 + 1) S x) i ∧ (addF i (f.2.2 + 1) S x).1[i]? = some f := by
 cases h0 : S.2 with
 | false => rw [add_off h0]; exact ⟨h, hf⟩
 | true =>
  by_cases h1 : x.2.2 ∈ termsF S.1
  ·rw [add_in h1]; exact ⟨h, hf⟩
  ·by_cases h2 : S.1.length = 60
   ·rw [add_full h0 h1 h2]; exact ⟨⟨h.len1, h.len60, h.head, h.par, h.dn, h.sorted, h.nodup, h.top⟩, hf⟩
   ·rw [add_new h0 h1 h2]
    have hl := h.len60
    have hi := (List.getElem?_eq_some_iff.1 hf).1
    have hfm : f ∈ S.1 := List.mem_of_getElem? hf
    have hd := h.dn f hfm
    refine ⟨⟨by simp, by simp; omega, get_left h.head, fun j g hj hg => ?_, fun g hg => ?_, ?_, ?_, fun g hg e he => ?_⟩, get_left hf⟩
    ·by_cases hjl : j < S.1.length
     ·rw [List.getElem?_append_left hjl] at hg
      obtain ⟨e, e1, e2, e3, e4⟩ := h.par j g hj hg
      exact ⟨e, e1, get_left e2, e3, e4⟩
     ·rw [List.getElem?_append_right (by omega)] at hg
      have hj0 : j - S.1.length = 0 := by
       have := (List.getElem?_eq_some_iff.1 hg).1
       simp at this; omega
      rw [hj0] at hg
      simp at hg
      subst hg
      exact ⟨f, by show i < j; omega, get_left hf, hx, rfl⟩
    ·rcases List.mem_append.1 hg with hg | hg
     ·exact h.dn g hg
     ·rw [List.mem_singleton.1 hg]; show f.2.2 + 1 ≤ n; omega
    ·refine List.pairwise_append.2 ⟨h.sorted, by simp, fun a ha b hb => ?_⟩
     rw [List.mem_singleton.1 hb]
     exact h.top f hf a ha
    ·unfold termsF
     rw [List.map_append]
     refine List.nodup_append.2 ⟨h.nodup, by simp, fun a ha b hb e => ?_⟩
     have hb : b = termF (x, i, f.2.2 + 1) := by simpa using hb
     rw [e, hb] at ha
     exact h1 ha
    ·have hg : (S.1 ++ [(x, i, f.2.2 + 1)])[i]? = some g := hg
     rw [get_left hf] at hg
     injection hg with hg
     subst hg
     rcases List.mem_append.1 he with he | he
     ·exact h.top f hf e he
     ·rw [List.mem_singleton.1 he]; exact Nat.le_refl _
theorem inv_fold {f : Fi} (hn : f.2.2 ≠ n) : ∀ (xs : List St) (S : Fs), Inv sg rs t n S i → S.1[i]? = some f → (∀ x ∈ xs, x ∈ stepsL sg rs (termF f)) → Inv sg rs t n (xs.foldl (addF i (f.2.2 + 1)) S) i ∧ (xs.foldl (addF i (f.2.2 + 1)) S).1[i]? = some f
 | [], _, h, hf, _ => ⟨h, hf⟩
 | x :: r, S, h, hf, hx => by
  obtain ⟨h1, h2⟩ := inv_add h hf hn (hx x (List.mem_cons_self ..))
  exact inv_fold hn r _ h1 h2 fun y hy => hx y (List.mem_cons_of_mem _ hy)
theorem inv_next (h : Inv sg rs t n S i) : Inv sg rs t n S (i + 1) := ⟨h.len1, h.len60, h.head, h.par, h.dn, h.sorted, h.nodup, fun g hg f hf => by
 have hi1 := (List.getElem?_eq_some_iff.1 hg).1
 have hi : S.1[i]? = some (S.1[i]'(by omega)) := List.getElem?_eq_getElem _
 have h1 := h.top _ hi f hf
 have h2 := List.pairwise_iff_getElem.1 h.sorted i (i + 1) (by omega) hi1 (by omega)
 have h3 : S.1[i + 1] = g := (List.getElem?_eq_some_iff.1 hg).2
 rw [h3] at h2
 omega⟩
theorem inv_go (h : Inv sg rs t n S i) : Inv sg rs t n (goF sg rs n S i) (i + 1) := by
 refine inv_next ?_
 unfold goF
 cases hf : S.1[i]? with
 | none => exact h
 | some f =>
  dsimp only
  split
  ·exact h
  ·rename_i hn
   exact (inv_fold hn _ _ h hf fun _ hx => hx).1
theorem inv_fd : ∀ i, Inv sg rs t n (fdN sg rs t n i) i
 | 0 => inv_zero
 | i + 1 => inv_go (inv_fd i)
theorem fd_same {j : Nat} (hij : i ≤ j) (h : (fdN sg rs t n i).1.length ≤ i ∨ (fdN sg rs t n i).2 = false ∨ ∃ f, (fdN sg rs t n i).1[i]? = some f ∧ f.2.2 = n) : fdN sg rs t n j = fdN sg rs t n i := by
 induction j with
 | zero => rw [show i = 0 by omega]
 | succ j ih =>
  by_cases e : i = j + 1
  ·rw [e]
  ·have ih := ih (by omega)
   show goF sg rs n (fdN sg rs t n j) j = _
   rw [ih]
   have hI := inv_fd (sg := sg) (rs := rs) (t := t) (n := n) i
   unfold goF
   cases hg : (fdN sg rs t n i).1[j]? with
   | none => rfl
   | some g =>
    have hjl := (List.getElem?_eq_some_iff.1 hg).1
    dsimp only
    rcases h with h | h | ⟨f, hf, hd⟩
    ·omega
    ·split
     ·rfl
     ·exact fold_off h
    ·rw [if_pos]
     have h1 := hI.dn g (List.mem_of_getElem? hg)
     by_cases e2 : i = j
     ·subst e2
      rw [hf] at hg
      injection hg with hg
      rw [← hg]; exact hd
     ·have h2 := List.pairwise_iff_getElem.1 hI.sorted i j (by omega) hjl (by omega)
      have h3 := (List.getElem?_eq_some_iff.1 hg).2
      obtain ⟨h5, h4⟩ := List.getElem?_eq_some_iff.1 hf
      rw [h3, h4] at h2
      omega
theorem fd_end (hi : i ≤ 60) (h : (fdN sg rs t n i).1.length ≤ i ∨ (fdN sg rs t n i).2 = false ∨ ∃ f, (fdN sg rs t n i).1[i]? = some f ∧ f.2.2 = n) : fdA sg rs t n = fdN sg rs t n i := fd_same hi h
theorem fd_step {f : Fi} (hf : (fdN sg rs t n i).1[i]? = some f) (hn : f.2.2 ≠ n) : fdN sg rs t n (i + 1) = (stepsL sg rs (termF f)).foldl (addF i (f.2.2 + 1)) (fdN sg rs t n i) := by
 show goF sg rs n _ i = _
 unfold goF
 rw [hf]
 exact if_neg hn
theorem fd_skip {f : Fi} (hf : (fdN sg rs t n i).1[i]? = some f) (hn : f.2.2 = n) : fdN sg rs t n (i + 1) = fdN sg rs t n i := by
 show goF sg rs n _ i = _
 unfold goF
 rw [hf]
 exact if_pos hn
theorem fd_inv : Inv sg rs t n (fdA sg rs t n) 60 := inv_fd 60
def bkK (L : List Fi) : Nat → Nat → List St
 | 0, _ => []
 | k + 1, at_ => if at_ = 0 then [] else (L.getD at_ (startF [])).1 :: bkK L k (L.getD at_ (startF [])).2.1
def bk (L : List Fi) (j : Nat) : List St := bkK L j j
def wkF (L : List Fi) (j : Nat) : Wk := (termF (L.getD 0 (startF [])), (bk L j).reverse)
theorem bk_zero (L : List Fi) : bk L 0 = [] := rfl
theorem bkK_more (h : Inv sg rs t n S i) : ∀ {k j : Nat}, j ≤ k → j < S.1.length → bkK S.1 k j = bk S.1 j := by
 intro k
 induction k with
 | zero => intro j hj _; rw [show j = 0 by omega]; rfl
 | succ k ih =>
  intro j hj hl
  cases j with
  | zero => rw [bk_zero, bkK, if_pos rfl]
  | succ j =>
   have hg : S.1[j + 1]? = some S.1[j + 1] := List.getElem?_eq_getElem hl
   obtain ⟨g, h1, h2, -, -⟩ := h.par (j + 1) _ (by omega) hg
   have e : S.1.getD (j + 1) (startF []) = S.1[j + 1] := by simp [List.getD, hl]
   have hgl := (List.getElem?_eq_some_iff.1 h2).1
   unfold bk
   rw [bkK, bkK, if_neg (by omega), if_neg (by omega), e, ih (by omega) hgl]
   by_cases e2 : j = k
   ·subst e2; rw [ih (by omega) hgl]
   ·by_cases e3 : S.1[j + 1].2.1 ≤ j
    ·-- both are the whole way
     have : ∀ {m : Nat}, m ≤ j → m < S.1.length → bkK S.1 j m = bk S.1 m := by
      clear ih e2
      intro m hm hml
      revert m
      have gen : ∀ q m, m ≤ q → m < S.1.length → bkK S.1 q m = bk S.1 m := by
       intro q
       induction q using Nat.strongRecOn with
       | _ q ihq =>
        intro m hm hml
        cases q with
        | zero => rw [show m = 0 by omega]; rfl
        | succ q =>
         cases m with
         | zero => rw [bk_zero, bkK, if_pos rfl]
         | succ m =>
          have hg' : S.1[m + 1]? = some S.1[m + 1] := List.getElem?_eq_getElem hml
          obtain ⟨g', p1, p2, -, -⟩ := h.par (m + 1) _ (by omega) hg'
          have e' : S.1.getD (m + 1) (startF []) = S.1[m + 1] := by simp [List.getD, hml]
          have hgl' := (List.getElem?_eq_some_iff.1 p2).1
          unfold bk
          rw [bkK, bkK, if_neg (by omega), if_neg (by omega), e', ihq q (by omega) _ (by omega) hgl', ihq m (by omega) _ (by omega) hgl']
      intro m hm hml
      exact gen j m hm hml
     rw [this e3 hgl]
    ·omega
theorem bk_succ (h : Inv sg rs t n S i) {j : Nat} {f : Fi} (h0 : 0 < j) (hf : S.1[j]? = some f) : bk S.1 j = f.1 :: bk S.1 f.2.1 := by
 obtain ⟨g, h1, h2, -, -⟩ := h.par j f h0 hf
 have hgl := (List.getElem?_eq_some_iff.1 h2).1
 obtain ⟨k, rfl⟩ : ∃ k, j = k + 1 := ⟨j - 1, by omega⟩
 have e : S.1.getD (k + 1) (startF []) = f := by simp [List.getD, hf]
 unfold bk
 rw [bkK, if_neg (by omega), e, bkK_more h (by omega) hgl]
 rfl
theorem bk_len (h : Inv sg rs t n S i) : ∀ (j : Nat) (f : Fi), S.1[j]? = some f → (bk S.1 j).length = f.2.2 := by
 intro j
 induction j using Nat.strongRecOn with
 | _ j ih =>
  intro f hf
  by_cases h0 : j = 0
  ·subst h0
   rw [h.head] at hf
   injection hf with hf
   rw [← hf]; rfl
  ·obtain ⟨g, h1, h2, -, h4⟩ := h.par j f (by omega) hf
   rw [bk_succ h (by omega) hf, List.length_cons, ih _ h1 g h2, h4]
theorem bk_walk (hr : sysOkB sg rs = true) (ht : termOkB sg t = true) (h : Inv sg rs t n S i) : ∀ (j : Nat) (f : Fi), S.1[j]? = some f → termOkB sg (termF f) = true ∧ goOn sg rs t (bk S.1 j).reverse = some (termF f) := by
 intro j
 induction j using Nat.strongRecOn with
 | _ j ih =>
  intro f hf
  by_cases h0 : j = 0
  ·subst h0
   rw [h.head] at hf
   injection hf with hf
   rw [← hf]; exact ⟨ht, rfl⟩
  ·obtain ⟨g, h1, h2, h3, h4⟩ := h.par j f (by omega) hf
   obtain ⟨q1, q2⟩ := ih _ h1 g h2
   have q3 := steps_at hr q1 h3
   refine ⟨stepAt_ok q3, ?_⟩
   rw [bk_succ h (by omega) hf, List.reverse_cons, go_append, q2]
   exact go_cons.2 ⟨q3, rfl⟩
theorem find_ok (hr : sysOkB sg rs = true) (ht : termOkB sg t = true) (h : Inv sg rs t n S i) {f : Fi} (hf : f ∈ S.1) : termOkB sg (termF f) = true := by
 obtain ⟨j, hj⟩ := List.mem_iff_getElem?.1 hf
 exact (bk_walk hr ht h j f hj).1
theorem wk_first (h : Inv sg rs t n S i) (j : Nat) : (wkF S.1 j).1 = t := by
 have e : S.1.getD 0 (startF []) = startF t := by simp [List.getD, h.head]
 unfold wkF
 rw [e]
 rfl
theorem wk_walk (hr : rightB sg rs t = true) (h : Inv sg rs t n S i) (hn : n ≤ 60) {j : Nat} {f : Fi} (hf : S.1[j]? = some f) : walkB sg rs (wkF S.1 j) = true ∧ endL (wkF S.1 j) = termF f ∧ (wkF S.1 j).2.length = f.2.2 ∧ f.2.2 ≤ n := by
 unfold rightB at hr
 rw [Bool.and_eq_true] at hr
 obtain ⟨h1, h2⟩ := hr
 obtain ⟨q1, q2⟩ := bk_walk h1 h2 h j f hf
 have q3 := bk_len h j f hf
 have q4 := h.dn f (List.mem_of_getElem? hf)
 have e : wkF S.1 j = (t, (bk S.1 j).reverse) := by
  have e2 := wk_first h j
  show ((wkF S.1 j).1, (bk S.1 j).reverse) = _
  rw [e2]
 rw [e]
 refine ⟨walk_mk h1 h2 (by rw [List.length_reverse]; omega) q2, (go_end q2).symm, by rw [List.length_reverse]; exact q3, q4⟩
end
def stepsB (n : Int) : Bool := decide (0 ≤ n ∧ n ≤ 20)
def right9 (sg : List Int) (rs : List Rl) (t : List Int) (n : Int) : Bool := rightB sg rs t && stepsB n
def numF (L : List Fi) (u : List Int) : Option Nat := (termsF L).findIdx? (fun x => decide (x = u))
def toO (sg : List Int) (rs : List Rl) (t u : List Int) (n : Int) : Option Wk := if (right9 sg rs t n && right9 sg rs u n) = true then (numF (fdA sg rs t n.toNat).1 u).map (wkF (fdA sg rs t n.toNat).1) else none
def addT (out : List (List Int)) (x : List Int) : List (List Int) := if x ∈ out then out else out ++ [x]
def tosL (sg : List Int) (rs : List Rl) (t : List Int) : List (List Int) := (stepsL sg rs t).map fun s => s.2.2
def nxN (sg : List Int) (rs : List Rl) (lv : List (List Int)) (i : Nat) : List (List Int) := ((lv.take i).flatMap (tosL sg rs)).foldl addT []
def longB (sg : List Int) (rs : List Rl) (t : List Int) : Bool := decide ((stepsL sg rs t).length < rdN sg rs t t.length 0)
def nextO (sg : List Int) (rs : List Rl) (lv : List (List Int)) : Option (List (List Int)) := if (lv.any (longB sg rs)) = true ∨ 60 < (nxN sg rs lv lv.length).length then none else some (nxN sg rs lv lv.length)
section
variable {sg : List Int} {rs : List Rl} {t : List Int}
end
end reachMath
end
section
open Go.Lib (hid)
namespace known
open Go.RowKit Go.Maps base ints sig term termOk termFacts marks app sym segs segsHelp varsOf reachMath
set_option maxRecDepth 100000
def keyN (t : List Int) : List Int := t.map (· + 24)
def klit (t : List Int) : Lit := .string (strOfNums (keyN t)).data.toList
def Small (t : List Int) : Prop := t.length ≤ 60 ∧ ∀ x ∈ t, -24 ≤ x ∧ x < 8
theorem small_term {sg t : List Int} (h : termOkB sg t = true) : Small t := ⟨(term_len h).2, fun _ hx => term_mem h hx⟩
theorem str_data (xs : List Int) : (strOfNums xs).data.toList = xs.map fun n => UInt8.ofNat n.toNat := by simp [strOfNums]
theorem klit_inj {t u : List Int} (ht : Small t) (hu : Small u) (h : klit t = klit u) : t = u := by
 unfold klit at h
 injection h with h
 rw [str_data, str_data] at h
 unfold keyN at h
 rw [List.map_map, List.map_map] at h
 have hl : t.length = u.length := by have := congrArg List.length h; simpa using this
 refine List.ext_getElem hl fun i h1 h2 => ?_
 have h3 : (t.map ((fun n : Int => UInt8.ofNat n.toNat) ∘ (· + 24)))[i]'(by simpa using h1) = (u.map ((fun n : Int => UInt8.ofNat n.toNat) ∘ (· + 24)))[i]'(by simpa using h2) := by simp only [h]
 simp only [List.getElem_map, Function.comp_apply] at h3
 have b1 := ht.2 _ (List.getElem_mem h1)
 have b2 := hu.2 _ (List.getElem_mem h2)
 have h4 := congrArg UInt8.toNat h3
 rw [UInt8.toNat_ofNat', UInt8.toNat_ofNat'] at h4
 omega
theorem str_size (xs : List Int) : (strOfNums xs).size = xs.length := by
 show (strOfNums xs).data.size = _
 rw [← Array.length_toList, str_data, List.length_map]
theorem info_byte : (Try.prog.info? 5).map (fun i => (i.zero, i.size, i.bytes)) = some (some (.int .u8 0), 1, 1) := by kernel_rfl
theorem run_make_bytes (n : Nat) (hn : n ≤ 1048576) (W : World) : (Instr.makeSlice 153 (.int .i64 (n : Int)) (.int .i64 (n : Int))).run Try.prog W =
  .ok (.slice (some ⟨W.heap.size, 0, none⟩) n n) (W.alloc (.cells (madeCells #[.int .u8 0] n) 5)) := by
 obtain ⟨i0, hi, hz0, hz1, hz2⟩ := info_parts info_byte
 have hr := run_make (P := Try.prog) W 153 5 i0 _ Try.underlying153 hi hz0 .i64 .i64 n n (by omega) (by omega) (by rw [hz2]; omega) (by omega)
 simpa [hz1, Value.cells] using hr
theorem made_size (n : Nat) (v : Value) : (madeCells #[v] n).size = n := by simp [madeCells]
def AnsKey (w : World) (t : List Int) (e : Ending) (w' : World) : Prop := e = .returned (.string (strOfNums (keyN t))) ∧ Below w.heap.size w w'
set_option maxHeartbeats 1000000 in
theorem implKeyOf (T : Option Addr) (m c : Nat) (t : List Int) (w : World) (h : Seg w w.heap.size T m t) (ht : Small t) :
  Calls Try.prog 82 #[.slice T m c] w (AnsKey w t) := by
 have hm : m ≤ 60 := by rw [← h.1]; exact ht.1
 have hmk := run_make_bytes m (by omega) w
 have HT := hid h.1
 have H := hid h
 have HS := hid ht
 obtain ⟨W, hW, rW, bW⟩ : ∃ W, W = w.alloc (.cells (madeCells #[.int .u8 0] m) 5) ∧ Row W w.heap.size 5 (madeCells #[.int .u8 0] m) ∧ Below w.heap.size w W := ⟨_, rfl, Row.new _ _ _, (Below.refl _ _).alloc (Nat.le_refl _) _⟩
 rw [← hW] at hmk
 clear hW h ht
 go_enter Try.func82, Try.ntmps82
 go_wp2_with fail
 go_loopg [11] m (fun g i_ wr => ∃ (i : Nat) (cs : Array Value), i_ = .int .i64 i ∧ i + g = m ∧ Row wr w.heap.size 5 cs ∧ cs.size = m ∧ (∀ j, j < i → cs[j]? = some (.int .u8 ((keyN t).getD j 0))) ∧ Below w.heap.size w wr)
 case atStart => exact ⟨0, _, rfl, by omega, rW, made_size _ _, fun j hj => absurd hj (Nat.not_lt_zero _), bW⟩
 case round =>
  obtain ⟨i, cs, rfl, hg, rC, hcs, hin, bel⟩ := hrel
  by_cases hi : i < m
  ·obtain ⟨b, off, x, rfl, hb, c0, hx⟩ := Seg.spot H.out hi
   have c0 := (bel.cell (p := ⟨b, off + i, none⟩) hb).trans c0
   have hxb : -24 ≤ x ∧ x < 8 := by
    rw [← hx.out]
    have hil : i < t.length := by rw [HT.out]; exact hi
    have := HS.out.2 t[i] (List.getElem_mem hil)
    simpa [List.getD, hil] using this
   have hk : (keyN t).getD i 0 = x + 24 := by
    rw [← hx.out]
    have hil : i < t.length := by rw [HT.out]; exact hi
    simp [keyN, List.getD, hil]
   obtain ⟨v0, hv0⟩ : ∃ v0, cs[i]? = some v0 := ⟨_, Array.getElem?_eq_getElem (by omega)⟩
   have c1 : wr.cell? ⟨w.heap.size, i, none⟩ = some v0 := by rw [rC.cell]; exact hv0
   have f1 := rC.free i
   have HG := hid hg
   have i0 : (0 : Int) ≤ (i : Int) := by omega
   have i1 : (i : Int) < (m : Int) := by omega
   have w8 : IntKind.u8.wrap (x + 24) = x + 24 := by unfold IntKind.wrap; simp [IntKind.bits, IntKind.signed]; omega
   have F := hid (show Row (wr.setCell ⟨w.heap.size, i, none⟩ (.int .u8 (x + 24))) w.heap.size 5 (cs.setIfInBounds i (.int .u8 (x + 24))) ∧ (cs.setIfInBounds i (.int .u8 (x + 24))).size = m ∧ (∀ j, j < i + 1 → (cs.setIfInBounds i (.int .u8 (x + 24)))[j]? = some (.int .u8 ((keyN t).getD j 0))) ∧ Below w.heap.size w (wr.setCell ⟨w.heap.size, i, none⟩ (.int .u8 (x + 24))) from ⟨Row.put rC i _, by simp [hcs], fun j hj => by
    by_cases e : j = i
    ·subst e; rw [Array.getElem?_setIfInBounds, if_pos rfl, if_pos (by omega), hk]
    ·rw [Array.getElem?_setIfInBounds, if_neg (fun e' => e e'.symm)]; exact hin j (by omega), bel.setCell (Nat.le_refl _) _⟩)
   clear hg rC hcs hin bel hv0 hk hx
   go_wp2
   go_roundg (gk - 1)
   case measure => have := HG.out; omega
   case rel => exact ⟨i + 1, _, by simp, by have := HG.out; omega, F.out.1, F.out.2.1, F.out.2.2.1, F.out.2.2.2⟩
  ·obtain rfl : i = m := by omega
   have hc := run_convert_bytes_arg (P := Try.prog) wr 153 5 Try.underlying153 Try.underlying5 w.heap.size 0 i i (keyN t) (by rw [← HT.out]; simp [keyN]) (fun j hj => by rw [Nat.zero_add, rC.cell]; exact hin j hj) 9 Try.underlying9
   have F := hid (show AnsKey w t (.returned (.string (strOfNums (keyN t)))) wr from ⟨rfl, bel⟩)
   clear rC hcs hin bel
   go_wp2
   go_ret
   exact F.out
def Kn (w : World) (b n : Nat) (L : List (List Int)) : Prop := ∃ D : DataW Unit, w.ownsMap Try.prog 9 (plainElem Try.prog 3) b n D ∧ (∀ t ∈ L, Small t) ∧ (∀ t, Small t → Maps.has D (klit t) = decide (t ∈ L)) ∧ ∀ i, i < L.length → D.atKey (klit (L.getD i [])) (.lit (.int .i64 0)) = .lit (.int .i64 (i : Int))
section
variable {w w' : World} {b n : Nat} {L : List (List Int)} {t : List Int} {row : Option Nat}
theorem Kn.kept (h : Kn w b n L) (hg : w.grownBy w' row) (hne : some b ≠ row) : Kn w' b n L := by
 obtain ⟨D, h1, h2⟩ := h
 exact ⟨D, h1.kept hg hne, h2⟩
theorem Kn.lt (h : Kn w b n L) : b < w.heap.size := by
 obtain ⟨D, h1, h2⟩ := h
 exact h1.lt
theorem Kn.below (h : Kn w b n L) (hb : Below w.heap.size w w') : Kn w' b n L := h.kept (row := none) ⟨hb.os, hb.tape, hb.output, hb.size, fun k hk _ => hb.block k hk⟩ (fun e => by cases e)
theorem Kn.drew (h : Kn w b n L) : Kn w.drew b n L := h
theorem Kn.small (h : Kn w b n L) : ∀ t ∈ L, Small t := by
 obtain ⟨D, h1, h2, h3⟩ := h
 exact h2
theorem kn_made (w : World) : Kn (w.alloc (.map #[] 0)) w.heap.size 0 [] := ⟨.map [], World.ownsMap_made _ _ _ _, (fun t h => by cases h), (fun t _ => by simp [Maps.has]), fun i h => absurd h (Nat.not_lt_zero _)⟩
theorem key_lit (t : List Int) : WideAt.IsKeyLit (klit t) := by unfold klit; simp [WideAt.IsKeyLit]
theorem key_of (t : List Int) (h : Small t) : keyOf Try.prog 9 (.string (strOfNums (keyN t))) = some (klit t) := Go.WideMaps.keyOf_string_mk Try.underlying9 (by rw [str_size]; unfold keyN maxLen; have := h.1; simp; omega)
theorem kn_put {D : DataW Unit} (hD : Maps.IsMap D) (h2 : ∀ t ∈ L, Small t) (h3 : ∀ t, Small t → Maps.has D (klit t) = decide (t ∈ L)) (h4 : ∀ i, i < L.length → D.atKey (klit (L.getD i [])) (.lit (.int .i64 0)) = .lit (.int .i64 (i : Int))) (ht : Small t) (hn : t ∉ L) :
  (∀ u ∈ L ++ [t], Small u) ∧ (∀ u, Small u → Maps.has (D.put (klit t) (.lit (.int .i64 (L.length : Int)))) (klit u) = decide (u ∈ L ++ [t])) ∧ ∀ i, i < (L ++ [t]).length → (D.put (klit t) (.lit (.int .i64 (L.length : Int)))).atKey (klit ((L ++ [t]).getD i [])) (.lit (.int .i64 0)) = .lit (.int .i64 (i : Int)) := by
 refine ⟨fun u hu => ?_, fun u hu => ?_, fun i hi => ?_⟩
 ·rcases List.mem_append.1 hu with hu | hu
  ·exact h2 u hu
  ·rw [List.mem_singleton.1 hu]; exact ht
 ·by_cases e : u = t
  ·subst e; rw [Maps.has_put_same hD (key_lit _)]; simp
  ·rw [Maps.has_put_other (fun q => e (klit_inj hu ht q)), h3 u hu]; simp [e]
 ·rw [List.length_append, List.length_singleton] at hi
  by_cases e : i = L.length
  ·subst e
   rw [show (L ++ [t]).getD L.length [] = t by simp [List.getD], Maps.atKey_put_same hD (key_lit _)]
  ·have hl : i < L.length := by omega
   have e2 : (L ++ [t]).getD i [] = L.getD i [] := by simp [List.getD, List.getElem?_append_left hl]
   have hm : L.getD i [] ∈ L := by simp [List.getD, hl]
   rw [e2, Maps.atKey_put_other (fun q => hn (by rw [← klit_inj (h2 _ hm) ht q]; exact hm)), h4 i hl]
theorem kn_del {D : DataW Unit} (h2 : ∀ u ∈ L ++ [t], Small u) (h3 : ∀ u, Small u → Maps.has D (klit u) = decide (u ∈ L ++ [t])) (h4 : ∀ i, i < (L ++ [t]).length → D.atKey (klit ((L ++ [t]).getD i [])) (.lit (.int .i64 0)) = .lit (.int .i64 (i : Int))) (hn : t ∉ L) :
  (∀ u ∈ L, Small u) ∧ (∀ u, Small u → Maps.has (D.del (klit t)) (klit u) = decide (u ∈ L)) ∧ ∀ i, i < L.length → (D.del (klit t)).atKey (klit (L.getD i [])) (.lit (.int .i64 0)) = .lit (.int .i64 (i : Int)) := by
 have ht : Small t := h2 t (by simp)
 refine ⟨fun u hu => h2 u (by simp [hu]), fun u hu => ?_, fun i hi => ?_⟩
 ·by_cases e : u = t
  ·subst e; rw [Maps.has_del_same]; simp [hn]
  ·rw [Maps.has_del_other (fun q => e (klit_inj hu ht q)), h3 u hu]; simp [e]
 ·have e2 : (L ++ [t]).getD i [] = L.getD i [] := by simp [List.getD, List.getElem?_append_left hi]
  have hm : L.getD i [] ∈ L := by simp [List.getD, hi]
  rw [Maps.atKey_del_other (fun q => hn (by rw [← klit_inj (h2 _ (List.mem_append_left _ hm)) ht q]; exact hm)), ← e2]
  exact h4 i (by simp; omega)
end
theorem zero_int (w : World) : (zeroValue 3).run Try.prog w = .ok (.int .i64 0) w := by kernel_rfl
set_option maxHeartbeats 1000000 in
theorem addNew (T : Option Addr) (m c b n : Nat) (t : List Int) (L : List (List Int)) (w : World) (hK : Kn w b n L) (h : Seg w w.heap.size T m t) (ht : Small t) (hnot : t ∉ L) (hn : n ≤ 1048576) (hl : L.length ≤ 1048576) :
  Calls Try.prog 102 #[.map (some b), .slice T m c, .int .i64 (L.length : Int)] w fun e w' => e = .returned (.bool true) ∧ Kn w' b (n + 1) (L ++ [t]) ∧ w.grownBy w' (some b) := by
 have LK := hid (implKeyOf T m c t w h ht)
 obtain ⟨D, hown, h2, h3, h4⟩ := hK
 have hhas : Maps.has D (klit t) = false := by rw [h3 t ht]; simp [hnot]
 have hP := hid (kn_put hown.isMap h2 h3 h4 ht hnot)
 have hkey := key_of t ht
 clear h h2 h3 h4
 go_enter Try.func102, Try.ntmps102
 go_wp2_with fail
 refine LK.out.mono ?_
 rintro e w1 ⟨rfl, bb⟩
 have hown1 := hown.kept (row := none) ⟨bb.os, bb.tape, bb.output, bb.size, fun k hk _ => bb.block k hk⟩ (fun e => by cases e)
 have BB := hid bb
 clear bb hown LK
 go_wp2_with (first
  | (at_lookup; refine wpList_lookup_own_ok_int _ rfl _ _ 87 rfl 9 3 .i64 (string_keyed Try.underlying9) Try.underlying87 Try.underlying3 (zero_int _) b n _ rfl hown1 _ _ rfl hkey ?_; intro c0 hat hwc; rw [hhas])
  | (at_mapUpdate; refine wpList_mapUpdate_own _ rfl _ _ _ 87 rfl 9 3 (string_keyed Try.underlying9) Try.underlying87 _ b n _ rfl hown1 (by unfold maxLen; omega) _ _ _ rfl rfl hkey _ [] (plainElem_int Try.underlying3 (WalkArith.wf_i64 (by omega))) ?_; intro w2 hown2 hgrow2))
 have F := hid (show Kn w2 b (n + 1) (L ++ [t]) ∧ w.grownBy w2 (some b) from ⟨⟨_, hown2, hP.out⟩, ⟨hgrow2.os.trans BB.out.os, hgrow2.tape.trans BB.out.tape, hgrow2.output.trans BB.out.output, Nat.le_trans BB.out.size hgrow2.size, fun k hk hne => (hgrow2.block k (Nat.lt_of_lt_of_le hk BB.out.size) hne).trans (BB.out.block k hk)⟩⟩)
 clear hown2 hgrow2 hown1
 go_wp2
 go_ret
 exact ⟨rfl, F.out⟩
set_option maxHeartbeats 1000000 in
theorem addOld (T : Option Addr) (m c b n : Nat) (t : List Int) (i : Int) (L : List (List Int)) (w : World) (hK : Kn w b n L) (h : Seg w w.heap.size T m t) (ht : Small t) (hin : t ∈ L) :
  Calls Try.prog 102 #[.map (some b), .slice T m c, .int .i64 i] w fun e w' => e = .returned (.bool false) ∧ Below w.heap.size w w' := by
 have LK := hid (implKeyOf T m c t w h ht)
 obtain ⟨D, hown, h2, h3, h4⟩ := hK
 have hhas : Maps.has D (klit t) = true := by rw [h3 t ht]; simp [hin]
 have hkey := key_of t ht
 clear h h2 h3 h4
 go_enter Try.func102, Try.ntmps102
 go_wp2_with fail
 refine LK.out.mono ?_
 rintro e w1 ⟨rfl, bb⟩
 have hown1 := hown.kept (row := none) ⟨bb.os, bb.tape, bb.output, bb.size, fun k hk _ => bb.block k hk⟩ (fun e => by cases e)
 have BB := hid bb
 clear bb hown LK
 go_wp2_with (first
  | (at_lookup; refine wpList_lookup_own_ok_int _ rfl _ _ 87 rfl 9 3 .i64 (string_keyed Try.underlying9) Try.underlying87 Try.underlying3 (zero_int _) b n _ rfl hown1 _ _ rfl hkey ?_; intro c0 hat hwc; rw [hhas]))
 go_ret
 exact ⟨rfl, BB.out⟩
set_option maxHeartbeats 1000000 in
theorem forget (T : Option Addr) (m c b n : Nat) (t : List Int) (L : List (List Int)) (w : World) (hK : Kn w b n (L ++ [t])) (h : Seg w w.heap.size T m t) (hnot : t ∉ L) :
  Calls Try.prog 103 #[.map (some b), .slice T m c] w fun e w' => (∃ v, e = .returned v) ∧ Kn w' b n L ∧ w.grownBy w' (some b) := by
 have ht := hK.small t (by simp)
 have LK := hid (implKeyOf T m c t w h ht)
 obtain ⟨D, hown, h2, h3, h4⟩ := hK
 have hP := hid (kn_del h2 h3 h4 hnot)
 have hkey := key_of t ht
 clear h h2 h3 h4
 go_enter Try.func103, Try.ntmps103
 go_wp2_with fail
 refine LK.out.mono ?_
 rintro e w1 ⟨rfl, bb⟩
 have hown1 := hown.kept (row := none) ⟨bb.os, bb.tape, bb.output, bb.size, fun k hk _ => bb.block k hk⟩ (fun e => by cases e)
 have BB := hid bb
 clear bb hown LK
 go_wp2_with (at_delete; refine wpList_delete_own _ rfl _ _ 87 9 rfl 3 (string_keyed Try.underlying9) Try.underlying87 _ b n _ rfl hown1 _ _ rfl hkey ?_; intro w2 hown2 hturn2)
 have hgrow2 := hturn2.grown
 have F := hid (show Kn w2 b n L ∧ w.grownBy w2 (some b) from ⟨⟨_, hown2, hP.out⟩, ⟨hgrow2.os.trans BB.out.os, hgrow2.tape.trans BB.out.tape, hgrow2.output.trans BB.out.output, Nat.le_trans BB.out.size hgrow2.size, fun k hk hne => (hgrow2.block k (Nat.lt_of_lt_of_le hk BB.out.size) hne).trans (BB.out.block k hk)⟩⟩)
 clear hown2 hgrow2 hturn2 hown1
 go_wp2
 first | (go_end0; exact ⟨⟨_, rfl⟩, F.out⟩) | (go_ret; exact F.out) | (go_ret; simpa using F.out)
end known
end
section
namespace shape
open Go.RowKit base ints sig cursor marks app sym appAt segs segsHelp segsMark kinds
inductive Sh where
 | num : Sh
 | bit : Sh
 | row : TypeId → Sh → Sh
 | cat : Sh → Sh → Sh
@[reducible] def Dat : Sh → Type
 | .num => Int
 | .bit => Bool
 | .row _ s => List (Dat s)
 | .cat a b => Dat a × Dat b
def nc : Sh → Nat
 | .num => 1
 | .bit => 1
 | .row _ _ => 1
 | .cat a b => nc a + nc b
def dft : (s : Sh) → Dat s
 | .num => (0 : Int)
 | .bit => false
 | .row _ _ => []
 | .cat a b => (dft a, dft b)
def Piece (w : World) (b off : Nat) (es : List Value) : Prop := ∀ i, i < es.length → w.cell? ⟨b, off + i, none⟩ = es[i]?
theorem nc_pos : ∀ s : Sh, 1 ≤ nc s
 | .num => Nat.le_refl _
 | .bit => Nat.le_refl _
 | .row _ _ => Nat.le_refl _
 | .cat a b => Nat.le_trans (nc_pos a) (Nat.le_add_right _ _)
def Rd (w : World) (B : Nat) : (s : Sh) → List Value → Dat s → Prop
 | .num, cs, (x : Int) => cs = [.int .i64 x]
 | .bit, cs, (x : Bool) => cs = [.bool x]
 | .row _ s, cs, (d : List (Dat s)) => ∃ A n c, cs = [.slice A n c] ∧ Cap A n c ∧ d.length = n ∧
   (0 < n → ∃ b off, A = some ⟨b, off, none⟩ ∧ b < B ∧ ∀ j, j < n → ∃ es, es.length = nc s ∧ Piece w b (off + j * nc s) es ∧ Rd w B s es (d.getD j (dft s)))
 | .cat a b, cs, d => ∃ ca cb, cs = ca ++ cb ∧ Rd w B a ca d.1 ∧ Rd w B b cb d.2
def Ow (w : World) : (s : Sh) → List Value → Dat s → List Nat → Prop
 | .num, cs, (x : Int), F => cs = [.int .i64 x] ∧ F = []
 | .bit, cs, (x : Bool), F => cs = [.bool x] ∧ F = []
 | .row e s, cs, (d : List (Dat s)), F => ∃ A n c, cs = [.slice A n c] ∧ d.length = n ∧
   ((A = none ∧ n = 0 ∧ c = 0 ∧ F = []) ∨ ∃ (g : Nat) (cur : Array Value) (E : Nat → List Value) (G : Nat → List Nat), A = some ⟨g, 0, none⟩ ∧ Row w g e cur ∧ n ≤ c ∧ c ≤ 9223372036854775807 ∧ cur.size = c * nc s ∧
    F = g :: (List.range n).flatMap G ∧ ∀ j, j < n → (E j).length = nc s ∧ (∀ i, i < nc s → cur[j * nc s + i]? = (E j)[i]?) ∧ Ow w s (E j) (d.getD j (dft s)) (G j))
 | .cat a b, cs, d, F => ∃ ca cb Fa Fb, cs = ca ++ cb ∧ F = Fa ++ Fb ∧ Ow w a ca d.1 Fa ∧ Ow w b cb d.2 Fb
section
variable {w w' : World} {B B' : Nat}
theorem Rd.len : ∀ {s : Sh} {cs : List Value} {d : Dat s}, Rd w B s cs d → cs.length = nc s
 | .num, _, _, h => by have h : _ = _ := h; rw [h]; rfl
 | .bit, _, _, h => by have h : _ = _ := h; rw [h]; rfl
 | .row _ _, _, _, h => by obtain ⟨A, n, c, e, _⟩ := h; rw [e]; rfl
 | .cat a b, _, _, h => by
  obtain ⟨ca, cb, e, h1, h2⟩ := h
  rw [e, List.length_append, h1.len, h2.len]; rfl
theorem Piece.keep {b off : Nat} {es : List Value} (h : Piece w b off es) (hk : ∀ p : Addr, p.block = b → w'.cell? p = w.cell? p) : Piece w' b off es := fun i hi => (hk _ rfl).trans (h i hi)
theorem Rd.keep (hk : ∀ p : Addr, p.block < B → w'.cell? p = w.cell? p) : ∀ {s : Sh} {cs : List Value} {d : Dat s}, Rd w B s cs d → Rd w' B s cs d
 | .num, _, _, h => h
 | .bit, _, _, h => h
 | .row _ s, _, _, h => by
  obtain ⟨A, n, c, e, hc, hl, h1⟩ := h
  refine ⟨A, n, c, e, hc, hl, fun hn => ?_⟩
  obtain ⟨b, off, e2, hb, h2⟩ := h1 hn
  refine ⟨b, off, e2, hb, fun j hj => ?_⟩
  obtain ⟨es, he, hp, hr⟩ := h2 j hj
  exact ⟨es, he, hp.keep (fun p hp => hk p (by rw [hp]; exact hb)), hr.keep hk⟩
 | .cat a b, _, _, h => by
  obtain ⟨ca, cb, e, h1, h2⟩ := h
  exact ⟨ca, cb, e, h1.keep hk, h2.keep hk⟩
theorem Rd.more (hB : B ≤ B') : ∀ {s : Sh} {cs : List Value} {d : Dat s}, Rd w B s cs d → Rd w B' s cs d
 | .num, _, _, h => h
 | .bit, _, _, h => h
 | .row _ s, _, _, h => by
  obtain ⟨A, n, c, e, hc, hl, h1⟩ := h
  refine ⟨A, n, c, e, hc, hl, fun hn => ?_⟩
  obtain ⟨b, off, e2, hb, h2⟩ := h1 hn
  refine ⟨b, off, e2, by omega, fun j hj => ?_⟩
  obtain ⟨es, he, hp, hr⟩ := h2 j hj
  exact ⟨es, he, hp, hr.more hB⟩
 | .cat a b, _, _, h => by
  obtain ⟨ca, cb, e, h1, h2⟩ := h
  exact ⟨ca, cb, e, h1.more hB, h2.more hB⟩
theorem Rd.below {s : Sh} {cs : List Value} {d : Dat s} (h : Rd w B s cs d) (hb : Below B w w') : Rd w' B s cs d := h.keep fun _ hp => hb.cell hp
theorem Rd.next {s : Sh} {cs : List Value} {d : Dat s} (h : Rd w w.heap.size s cs d) (hb : Below w.heap.size w w') : Rd w' w'.heap.size s cs d := (h.below hb).more hb.size
theorem Ow.len : ∀ {s : Sh} {cs : List Value} {d : Dat s} {F : List Nat}, Ow w s cs d F → cs.length = nc s
 | .num, _, _, _, h => by obtain ⟨e, _⟩ := h; rw [e]; rfl
 | .bit, _, _, _, h => by obtain ⟨e, _⟩ := h; rw [e]; rfl
 | .row _ _, _, _, _, h => by obtain ⟨A, n, c, e, _⟩ := h; rw [e]; rfl
 | .cat a b, _, _, _, h => by
  obtain ⟨ca, cb, Fa, Fb, e, _, h1, h2⟩ := h
  rw [e, List.length_append, h1.len, h2.len]; rfl
theorem Ow.keep : ∀ {s : Sh} {cs : List Value} {d : Dat s} {F : List Nat}, Ow w s cs d F → (∀ k ∈ F, w'.heap[k]? = w.heap[k]?) → Ow w' s cs d F
 | .num, _, _, _, h, _ => h
 | .bit, _, _, _, h, _ => h
 | .row e s, _, _, F, h, hk => by
  obtain ⟨A, n, c, e1, hl, h1⟩ := h
  refine ⟨A, n, c, e1, hl, ?_⟩
  rcases h1 with h1 | ⟨g, cur, E, G, e2, hr, h2, h3, h4, h5, h6⟩
  ·exact .inl h1
  ·subst h5
   refine .inr ⟨g, cur, E, G, e2, (hk g (List.mem_cons_self ..)).trans hr, h2, h3, h4, rfl, fun j hj => ?_⟩
   obtain ⟨q1, q2, q3⟩ := h6 j hj
   exact ⟨q1, q2, q3.keep fun k hkG => hk k (List.mem_cons_of_mem _ (List.mem_flatMap.2 ⟨j, List.mem_range.2 hj, hkG⟩))⟩
 | .cat a b, _, _, F, h, hk => by
  obtain ⟨ca, cb, Fa, Fb, e, e2, h1, h2⟩ := h
  subst e2
  exact ⟨ca, cb, Fa, Fb, e, rfl, h1.keep fun k h => hk k (List.mem_append_left _ h), h2.keep fun k h => hk k (List.mem_append_right _ h)⟩
theorem Ow.lt : ∀ {s : Sh} {cs : List Value} {d : Dat s} {F : List Nat}, Ow w s cs d F → ∀ k ∈ F, k < w.heap.size
 | .num, _, _, _, h, k, hk => by obtain ⟨_, e⟩ := h; rw [e] at hk; cases hk
 | .bit, _, _, _, h, k, hk => by obtain ⟨_, e⟩ := h; rw [e] at hk; cases hk
 | .row e s, _, _, F, h, k, hk => by
  obtain ⟨A, n, c, e1, hl, h1⟩ := h
  rcases h1 with ⟨_, _, _, h1⟩ | ⟨g, cur, E, G, e2, hr, h2, h3, h4, h5, h6⟩
  ·rw [h1] at hk; cases hk
  ·rw [h5] at hk
   rcases List.mem_cons.1 hk with hk | hk
   ·rw [hk]; exact hr.lt
   ·obtain ⟨j, hj, hk⟩ := List.mem_flatMap.1 hk
    exact (h6 j (List.mem_range.1 hj)).2.2.lt k hk
 | .cat a b, _, _, F, h, k, hk => by
  obtain ⟨ca, cb, Fa, Fb, e, e2, h1, h2⟩ := h
  rw [e2] at hk
  rcases List.mem_append.1 hk with hk | hk
  ·exact h1.lt k hk
  ·exact h2.lt k hk
theorem Ow.next {s : Sh} {cs : List Value} {d : Dat s} {F : List Nat} (h : Ow w s cs d F) (hb : Below w.heap.size w w') : Ow w' s cs d F := h.keep fun k hk => hb.block k (h.lt k hk)
theorem Ow.rd : ∀ {s : Sh} {cs : List Value} {d : Dat s} {F : List Nat}, Ow w s cs d F → Rd w w.heap.size s cs d
 | .num, _, _, _, h => h.1
 | .bit, _, _, _, h => h.1
 | .row e s, _, _, F, h => by
  obtain ⟨A, n, c, e1, hl, h1⟩ := h
  rcases h1 with ⟨rfl, rfl, rfl, _⟩ | ⟨g, cur, E, G, e2, hr, h2, h3, h4, h5, h6⟩
  ·exact ⟨none, 0, 0, e1, ⟨by omega, by omega, fun _ => rfl⟩, hl, fun h => absurd h (by omega)⟩
  ·refine ⟨A, n, c, e1, ⟨h2, h3, fun e => by rw [e] at e2; cases e2⟩, hl, fun hn => ⟨g, 0, e2, hr.lt, fun j hj => ?_⟩⟩
   obtain ⟨q1, q2, q3⟩ := h6 j hj
   refine ⟨E j, q1, fun i hi => ?_, q3.rd⟩
   rw [Nat.zero_add, hr.cell, q2 i (by omega)]
 | .cat a b, _, _, F, h => by
  obtain ⟨ca, cb, Fa, Fb, e, e2, h1, h2⟩ := h
  exact ⟨ca, cb, e, h1.rd, h2.rd⟩
def Owned (w : World) (lo hi : Nat) (s : Sh) (cs : List Value) (d : Dat s) : Prop := ∃ F, Ow w s cs d F ∧ F.Nodup ∧ ∀ k ∈ F, lo ≤ k ∧ k < hi
variable {lo hi : Nat} {s : Sh} {cs : List Value} {d : Dat s}
theorem Owned.rd (h : Owned w lo hi s cs d) : Rd w w.heap.size s cs d := by obtain ⟨F, h, _⟩ := h; exact h.rd
theorem Owned.next (h : Owned w lo hi s cs d) (hb : Below w.heap.size w w') : Owned w' lo hi s cs d := by obtain ⟨F, h, h2⟩ := h; exact ⟨F, h.next hb, h2⟩
theorem Owned.drew (h : Owned w lo hi s cs d) : Owned w.drew lo hi s cs d := h.next (drew_below w)
theorem Owned.wider {lo' hi' : Nat} (h : Owned w lo hi s cs d) (h1 : lo' ≤ lo) (h2 : hi ≤ hi') : Owned w lo' hi' s cs d := by
 obtain ⟨F, h, h3, h4⟩ := h
 exact ⟨F, h, h3, fun k hk => by have := h4 k hk; omega⟩
theorem Owned.btw {lo' hi' : Nat} (h : Owned w lo hi s cs d) (hb : Btw lo' hi' w w') (ho : hi ≤ lo' ∨ hi' ≤ lo) : Owned w' lo hi s cs d := by
 obtain ⟨F, h, h3, h4⟩ := h
 exact ⟨F, h.keep fun k hk => hb.block k (h.lt k hk) (by have := h4 k hk; omega), h3, h4⟩
theorem Owned.put {g i : Nat} {u : Value} (h : Owned w lo hi s cs d) (hg : g < lo ∨ hi ≤ g) : Owned (w.setCell ⟨g, i, none⟩ u) lo hi s cs d := by
 obtain ⟨F, h, h3, h4⟩ := h
 exact ⟨F, h.keep fun k hk => Below.heap_setCell w _ u k (by have := h4 k hk; show k ≠ g; omega), h3, h4⟩
theorem Owned.cat {mid mid' : Nat} {a b : Sh} {ca cb : List Value} {da : Dat a} {db : Dat b} (h1 : Owned w lo mid a ca da) (h2 : Owned w mid' hi b cb db) (hm : mid ≤ mid') (hl : lo ≤ mid') (hh : mid ≤ hi) : Owned w lo hi (.cat a b) (ca ++ cb) (da, db) := by
 obtain ⟨F, h1, n1, b1⟩ := h1
 obtain ⟨G, h2, n2, b2⟩ := h2
 refine ⟨F ++ G, ⟨ca, cb, F, G, rfl, rfl, h1, h2⟩, List.nodup_append.2 ⟨n1, n2, fun x hx y hy e => ?_⟩, fun k hk => ?_⟩
 ·have := b1 x hx; have := b2 y hy; omega
 ·rcases List.mem_append.1 hk with hk | hk
  ·have := b1 k hk; omega
  ·have := b2 k hk; omega
end
abbrev sI : Sh := .row 2 .num
section
variable {w w' : World} {B : Nat}
theorem rd_ints {v : Value} {xs : List Int} : Rd w B sI [v] xs ↔ ∃ A n c, v = .slice A n c ∧ Seg w B A n xs ∧ Cap A n c := by
 constructor
 ·rintro ⟨A, n, c, e, hc, hl, h⟩
  refine ⟨A, n, c, by injection e, ⟨hl, fun hn => ?_⟩, hc⟩
  obtain ⟨b, off, e2, hb, h2⟩ := h hn
  refine ⟨b, off, e2, hb, fun j hj => ?_⟩
  obtain ⟨es, he, hp, hr⟩ := h2 j hj
  have hr : es = [.int .i64 (xs.getD j 0)] := hr
  have := hp 0 (by rw [hr]; simp)
  rw [hr] at this
  simpa [nc] using this
 ·rintro ⟨A, n, c, rfl, h, hc⟩
  refine ⟨A, n, c, rfl, hc, h.1, fun hn => ?_⟩
  obtain ⟨b, off, e2, hb, h2⟩ := h.2 hn
  refine ⟨b, off, e2, hb, fun j hj => ⟨[.int .i64 (xs.getD j 0)], rfl, fun i hi => ?_, rfl⟩⟩
  have hi : i = 0 := by simpa using hi
  subst hi
  first | (simp [nc]; done) | (simpa [nc] using h2 j hj)
theorem Rd.seg {A : Option Addr} {n c : Nat} {xs : List Int} (h : Rd w B sI [.slice A n c] xs) : Seg w B A n xs := by
 obtain ⟨A', n', c', e, h, _⟩ := rd_ints.1 h
 injection e with e1 e2 e3
 subst e1 e2
 exact h
theorem ow_ints {lo hi : Nat} {A : Option Addr} {n c : Nat} {xs : List Int} : Owned w lo hi sI [.slice A n c] xs ↔ Ownd w lo hi A n c xs := by
 constructor
 ·rintro ⟨F, ⟨A', n', c', e, hl, h⟩, _, hb⟩
  injection e with e
  injection e with e1 e2 e3
  subst e1 e2 e3
  rcases h with ⟨rfl, rfl, rfl, rfl⟩ | ⟨g, cur, E, G, rfl, hr, h2, h3, h4, rfl, h6⟩
  ·have hx : xs = [] := List.eq_nil_of_length_eq_zero hl
   subst hx
   exact ⟨Own.nil _ _, fun k hk => by cases hk⟩
  ·have hg := hb g (List.mem_cons_self ..)
   refine ⟨Own.of_row hr hl (by simpa [nc] using h4) h2 h3 hg.1 fun j hj => ?_, fun k hk => by have : g = k := Option.some.inj hk; omega⟩
   obtain ⟨q1, q2, q3⟩ := h6 j hj
   have q3 : E j = [.int .i64 (xs.getD j 0)] := q3.1
   have := q2 0 (by simp [nc])
   rw [q3] at this
   simpa [nc] using this
 ·rintro ⟨ho, hb⟩
  have hl := Own.len ho
  rcases own_form (n := n) (vs := xs.map (Value.int .i64)) (by rw [hl]; rw [hl] at ho; exact ho) with ⟨rfl, h1, rfl, _⟩ | ⟨g, cur, rfl, hlo, hr, h1, h2, h3, _, h5⟩
  ·subst h1
   exact ⟨[], ⟨none, 0, 0, rfl, hl.symm, .inl ⟨rfl, rfl, rfl, rfl⟩⟩, List.nodup_nil, fun k hk => by cases hk⟩
  ·have hg := hb g rfl
   refine ⟨[g], ⟨some ⟨g, 0, none⟩, n, c, rfl, hl.symm, .inr ⟨g, cur, fun j => [.int .i64 (xs.getD j 0)], fun _ => [], rfl, hr, h1, h3, by simp [nc, h2], ?_, fun j hj => ⟨rfl, fun i hi => ?_, rfl, rfl⟩⟩⟩, by simp, fun k hk => ?_⟩
   ·have : ∀ l : List Nat, l.flatMap (fun _ => ([] : List Nat)) = [] := fun l => by induction l <;> simp_all
    rw [this]
   ·have hi : i = 0 := by simpa [nc] using hi
    subst hi
    have := h5 j hj
    simp only [nc, Nat.mul_one, Nat.add_zero]
    rw [this]
    have hj' : j < xs.length := by omega
    simp [List.getD, hj']
   ·rw [List.mem_singleton.1 hk]; exact ⟨hlo, hg⟩
end
def sz : (s : Sh) → Dat s → Nat
 | .num, _ => 0
 | .bit, _ => 0
 | .row _ s, (d : List (Dat s)) => d.length + (d.map (sz s)).sum
 | .cat a b, d => sz a d.1 + sz b d.2
def szs (s : Sh) (d : List (Dat s)) (k : Nat) : Nat := ((d.take k).map (sz s)).sum
theorem szs_succ {s : Sh} {d : List (Dat s)} {k : Nat} (h : k < d.length) : szs s d (k + 1) = szs s d k + sz s (d.getD k (dft s)) := by
 unfold szs
 rw [List.take_succ_eq_append_getElem h, List.map_append, List.sum_append]
 simp [List.getD, h]
theorem szs_mono {s : Sh} {d : List (Dat s)} : ∀ {k m : Nat}, k ≤ m → m ≤ d.length → szs s d k ≤ szs s d m
 | k, 0, h, _ => by rw [show k = 0 by omega]; exact Nat.le_refl _
 | k, m + 1, h, hm => by
  by_cases e : k = m + 1
  ·rw [e]; exact Nat.le_refl _
  ·have := szs_mono (d := d) (show k ≤ m by omega) (by omega)
   rw [szs_succ (by omega)]
   omega
theorem szs_all {s : Sh} {d : List (Dat s)} {n : Nat} (h : d.length = n) : szs s d n = (d.map (sz s)).sum := by unfold szs; rw [List.take_of_length_le (by omega)]
theorem sz_row {e : TypeId} {s : Sh} {d : List (Dat s)} : sz (.row e s) d = d.length + szs s d d.length := by rw [szs_all rfl]; rfl
theorem sz_each {e : TypeId} {s : Sh} {d : List (Dat s)} {L : Nat} (h : sz (.row e s) d ≤ L) {j : Nat} (hj : j < d.length) : sz s (d.getD j (dft s)) ≤ L := by
 have h1 := szs_succ hj
 have h2 := szs_mono (d := d) (show j + 1 ≤ d.length by omega) (Nat.le_refl _)
 rw [sz_row] at h
 omega
theorem sz_len {e : TypeId} {s : Sh} {d : List (Dat s)} {L : Nat} (h : sz (.row e s) d ≤ L) : d.length ≤ L := by rw [sz_row] at h; omega
theorem sz_ints (xs : List Int) : sz sI xs = xs.length := by
 have : ∀ l : List Int, (l.map (sz .num)).sum = 0 := fun l => by induction l <;> simp_all [sz]
 show xs.length + (xs.map (sz .num)).sum = _
 rw [this]; rfl
def cnt : (s : Sh) → Dat s → Nat
 | .num, _ => 1
 | .bit, _ => 1
 | .row _ s, (d : List (Dat s)) => (d.map (cnt s)).sum
 | .cat a b, d => cnt a d.1 + cnt b d.2
def cntv : (s : Sh) → Dat s → Nat
 | .num, _ => 0
 | .bit, _ => 0
 | .row _ s, (d : List (Dat s)) => (d.map (cnt s)).sum
 | .cat a b, d => cntv a d.1 + cntv b d.2
def cnts (s : Sh) (d : List (Dat s)) (k : Nat) : Nat := ((d.take k).map (cnt s)).sum
theorem cnts_succ {s : Sh} {d : List (Dat s)} {k : Nat} (h : k < d.length) : cnts s d (k + 1) = cnts s d k + cnt s (d.getD k (dft s)) := by
 unfold cnts
 rw [List.take_succ_eq_append_getElem h, List.map_append, List.sum_append]
 simp [List.getD, h]
theorem cnts_mono {s : Sh} {d : List (Dat s)} : ∀ {k m : Nat}, k ≤ m → m ≤ d.length → cnts s d k ≤ cnts s d m
 | k, 0, h, _ => by rw [show k = 0 by omega]; exact Nat.le_refl _
 | k, m + 1, h, hm => by
  by_cases e : k = m + 1
  ·rw [e]; exact Nat.le_refl _
  ·have := cnts_mono (d := d) (show k ≤ m by omega) (by omega)
   rw [cnts_succ (by omega)]
   omega
theorem cnts_all {s : Sh} {d : List (Dat s)} {n : Nat} (h : d.length = n) : cnts s d n = (d.map (cnt s)).sum := by unfold cnts; rw [List.take_of_length_le (by omega)]
def mkc : (s : Sh) → Int → Dat s → Dat s
 | .num, k, _ => k
 | .bit, k, _ => decide (k % 3 = 0)
 | .row _ s, k, (d : List (Dat s)) => (List.range d.length).map fun j => mkc s (k + (cnts s d j : Int)) (d.getD j (dft s))
 | .cat a b, k, d => (mkc a k d.1, mkc b (k + (cnt a d.1 : Int)) d.2)
def mkv : (s : Sh) → Int → Dat s → Dat s
 | .num, _, d => d
 | .bit, _, d => d
 | .row _ s, k, (d : List (Dat s)) => (List.range d.length).map fun j => mkc s (k + (cnts s d j : Int)) (d.getD j (dft s))
 | .cat a b, k, d => (mkv a k d.1, mkv b (k + (cntv a d.1 : Int)) d.2)
theorem mk_len {e : TypeId} {s : Sh} {k : Int} {d : List (Dat s)} : List.length (mkv (.row e s) k d : List (Dat s)) = d.length := by
 show ((List.range d.length).map _).length = _
 simp
theorem mk_get {e : TypeId} {s : Sh} {k : Int} {d : List (Dat s)} {j : Nat} (h : j < d.length) : (mkv (.row e s) k d : List (Dat s)).getD j (dft s) = mkc s (k + (cnts s d j : Int)) (d.getD j (dft s)) := by
 show ((List.range d.length).map _).getD j _ = _
 simp [List.getD, h]
theorem cnt_ints : ∀ xs : List Int, (xs.map (cnt .num)).sum = xs.length
 | [] => rfl
 | x :: xs => by rw [List.map_cons, List.sum_cons, cnt_ints xs, List.length_cons]; show 1 + xs.length = _; omega
theorem cnts_ints (xs : List Int) {j : Nat} (h : j ≤ xs.length) : cnts .num xs j = j := by
 unfold cnts
 rw [cnt_ints, List.length_take]
 omega
theorem mk_ints (k : Int) (xs : List Int) : mkv sI k xs = marks k xs.length := by
 show (List.range xs.length).map _ = (List.range xs.length).map _
 refine List.map_congr_left fun j hj => ?_
 show k + ((cnts .num xs j : Nat) : Int) = k + (j : Int)
 rw [cnts_ints xs (Nat.le_of_lt (List.mem_range.1 hj))]
def wd : Sh → Nat
 | .num => 1
 | .bit => 1
 | .row _ s => wd s
 | .cat a b => wd a + wd b
theorem sum_le {α : Type} {f g : α → Nat} {C : Nat} : ∀ {l : List α}, (∀ x ∈ l, f x ≤ C * (1 + g x)) → (l.map f).sum ≤ C * (l.length + (l.map g).sum)
 | [], _ => Nat.zero_le _
 | x :: l, h => by
  have h1 := h x (List.mem_cons_self ..)
  have h2 := sum_le (l := l) fun y hy => h y (List.mem_cons_of_mem _ hy)
  simp only [List.map_cons, List.sum_cons, List.length_cons]
  have e : C * (l.length + 1 + (g x + (l.map g).sum)) = C * (1 + g x) + C * (l.length + (l.map g).sum) := by rw [← Nat.mul_add]; congr 1; omega
  omega
theorem cnt_le : ∀ (s : Sh) (d : Dat s), cnt s d ≤ wd s * (1 + sz s d)
 | .num, _ => by simp [cnt, wd]
 | .bit, _ => by simp [cnt, wd]
 | .row _ s, (d : List (Dat s)) => by
  have h := sum_le (f := cnt s) (g := sz s) (C := wd s) (l := d) fun x _ => cnt_le s x
  show (d.map (cnt s)).sum ≤ wd s * (1 + (d.length + (d.map (sz s)).sum))
  have : wd s * (d.length + (d.map (sz s)).sum) ≤ wd s * (1 + (d.length + (d.map (sz s)).sum)) := Nat.mul_le_mul_left _ (by omega)
  omega
 | .cat a b, d => by
  have h1 := cnt_le a d.1
  have h2 := cnt_le b d.2
  show cnt a d.1 + cnt b d.2 ≤ (wd a + wd b) * (1 + (sz a d.1 + sz b d.2))
  have h3 : wd a * (1 + sz a d.1) ≤ wd a * (1 + (sz a d.1 + sz b d.2)) := Nat.mul_le_mul_left _ (by omega)
  have h4 : wd b * (1 + sz b d.2) ≤ wd b * (1 + (sz a d.1 + sz b d.2)) := Nat.mul_le_mul_left _ (by omega)
  rw [Nat.add_mul]
  omega
theorem cntv_le : ∀ (s : Sh) (d : Dat s), cntv s d ≤ wd s * sz s d
 | .num, _ => Nat.zero_le _
 | .bit, _ => Nat.zero_le _
 | .row _ s, (d : List (Dat s)) => sum_le (f := cnt s) (g := sz s) (C := wd s) (l := d) fun x _ => cnt_le s x
 | .cat a b, d => by
  have h1 := cntv_le a d.1
  have h2 := cntv_le b d.2
  show cntv a d.1 + cntv b d.2 ≤ (wd a + wd b) * (sz a d.1 + sz b d.2)
  have h3 : wd a * sz a d.1 ≤ wd a * (sz a d.1 + sz b d.2) := Nat.mul_le_mul_left _ (by omega)
  have h4 : wd b * sz b d.2 ≤ wd b * (sz a d.1 + sz b d.2) := Nat.mul_le_mul_left _ (by omega)
  rw [Nat.add_mul]
  omega
end shape
end
end Go.Proofs.Ytblhmplpcdcejaa
