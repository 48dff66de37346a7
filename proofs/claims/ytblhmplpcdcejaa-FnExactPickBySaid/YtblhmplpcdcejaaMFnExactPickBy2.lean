/-
  MERGED: my texts PosMath, MatchMath, PutMath, SegsHelp, SegsMark, Kinds, Look, SubstOk, Gives, StepMath, WalkMath, Shape, Shape2, KindsR, Rename, Same, RuleSpec, Inside, PlainMath, one behind the other, as they are. By an AI agent.
-/
import Derived.Test.YtblhmplpcdcejaaMFnExactPickBy1
import Derived.Deep.QuietTactic
import Derived.BigQuiet
import Derived.Shelf.Abstract
import Derived.Deep.RegionHeld3
namespace Go.Proofs.Ytblhmplpcdcejaa
section
namespace posMath
open sig term termOk termFacts endAt sub args depth termMath
theorem term_at {sg t : List Int} (h : termOkB sg t = true) {a : Nat} (ha : a < t.length) : scan sg 1 (t.drop a) = some (len1 sg t a) ∧ 1 ≤ len1 sg t a ∧ a + len1 sg t a ≤ t.length := by
 obtain ⟨j, e, h1, h2⟩ := scan_at (term_parts h).2.2 ha
 rw [len1_eq e]
 exact ⟨e, h1, h2⟩
theorem end_at {sg t : List Int} (h : termOkB sg t = true) {a : Nat} (ha : a < t.length) : endI sg t a = ((a + len1 sg t a : Nat) : Int) := by
 rw [endI_some (term_at h ha).1]; omega
def argP (sg t : List Int) : Nat → Nat → Nat
 | 0, p => p
 | k + 1, p => argP sg t k (p + len1 sg t p)
theorem argP_succ {sg t : List Int} : ∀ k p, argP sg t (k + 1) p = argP sg t k p + len1 sg t (argP sg t k p)
 | 0, _ => rfl
 | k + 1, p => by
  show argP sg t (k + 1) (p + len1 sg t p) = _
  rw [argP_succ k]
  rfl
theorem argP_mono {sg t : List Int} {p k : Nat} : ∀ {k' : Nat}, k ≤ k' → argP sg t k p ≤ argP sg t k' p := by
 intro k' h
 induction k' with
 | zero => rw [Nat.le_zero.1 h]; exact Nat.le_refl _
 | succ k' ih =>
  by_cases e : k = k' + 1
  ·rw [e]; exact Nat.le_refl _
  ·have := ih (by omega)
   rw [argP_succ]
   omega
def arN (sg t : List Int) (p : Nat) : Nat := (ar sg (t.getD p 0)).toNat
inductive Trail (sg t : List Int) (at_ : Nat) : Nat → List Int → List Int → Prop
 | here : Trail sg t at_ at_ [] []
 | down {p k : Nat} {ab pa : List Int} (h1 : p < at_) (h2 : k < arN sg t p) (h3 : argP sg t k (p + 1) ≤ at_) (h4 : at_ < argP sg t k (p + 1) + len1 sg t (argP sg t k (p + 1))) (h5 : p < argP sg t k (p + 1)) (h6 : at_ < p + len1 sg t p) (hw : Trail sg t at_ (argP sg t k (p + 1)) ab pa) : Trail sg t at_ p ((p : Int) :: ab) ((k : Int) :: pa)
theorem Trail.here_eq {sg t : List Int} {at_ : Nat} {ab pa : List Int} (h : Trail sg t at_ at_ ab pa) : ab = [] ∧ pa = [] := by
 cases h with
 | here => exact ⟨rfl, rfl⟩
 | down h1 => omega
theorem arg_one {sg t : List Int} {p at_ k k' : Nat} (h3 : argP sg t k p ≤ at_) (h4 : at_ < argP sg t k p + len1 sg t (argP sg t k p)) (h3' : argP sg t k' p ≤ at_) (h4' : at_ < argP sg t k' p + len1 sg t (argP sg t k' p)) : k = k' := by
 rcases Nat.lt_trichotomy k k' with h | h | h
 ·have := argP_mono (sg := sg) (t := t) (p := p) (show k + 1 ≤ k' by omega)
  rw [argP_succ] at this
  omega
 ·exact h
 ·have := argP_mono (sg := sg) (t := t) (p := p) (show k' + 1 ≤ k by omega)
  rw [argP_succ] at this
  omega
theorem Trail.one {sg t : List Int} {at_ p : Nat} {ab pa : List Int} (h : Trail sg t at_ p ab pa) : ∀ {ab' pa' : List Int}, Trail sg t at_ p ab' pa' → ab = ab' ∧ pa = pa' := by
 induction h with
 | here => intro ab' pa' h'; obtain ⟨rfl, rfl⟩ := h'.here_eq; exact ⟨rfl, rfl⟩
 | @down p k ab pa h1 h2 h3 h4 h5 h6 hw ih =>
  intro ab' pa' h'
  cases h' with
  | here => omega
  | @down _ k' ab' pa' g1 g2 g3 g4 g5 g6 gw =>
   obtain rfl := arg_one h3 h4 g3 g4
   obtain ⟨rfl, rfl⟩ := ih gw
   exact ⟨rfl, rfl⟩
theorem Trail.len {sg t : List Int} {at_ p : Nat} {ab pa : List Int} (h : Trail sg t at_ p ab pa) : ab.length = pa.length := by
 induction h with
 | here => rfl
 | down _ _ _ _ _ _ _ ih => simp [ih]
theorem Trail.le {sg t : List Int} {at_ p : Nat} {ab pa : List Int} (h : Trail sg t at_ p ab pa) : p ≤ at_ ∧ pa.length ≤ at_ - p := by
 induction h with
 | here => simp
 | down h1 _ _ _ h5 _ _ ih => simp only [List.length_cons]; omega
end posMath
end
section
namespace matchMath
open sig term termOk termFacts endAt sub termMath fillMath posMath renMath
def vr (x : Int) : Nat := (-1 - x).toNat
def mst (sg t : List Int) : List Int → Nat → List (List Int) → Option (List (List Int))
 | [], _, s => some s
 | x :: r, k, s =>
  if t.length ≤ k then none
  else if 0 ≤ x then (if x = t.getD k 0 then mst sg t r (k + 1) s else none)
  else if (s.getD (vr x) []).length ≠ 0 ∧ s.getD (vr x) [] ≠ subL sg t k then none
  else mst sg t r (k + (subL sg t k).length) (s.set (vr x) (subL sg t k))
section
variable {sg t : List Int} {r : List Int} {x : Int} {k : Nat} {s : List (List Int)}
theorem mst_out (h : t.length ≤ k) : mst sg t (x :: r) k s = none := by simp only [mst]; rw [if_pos h]
theorem mst_sym (h : ¬ t.length ≤ k) (hx : 0 ≤ x) (he : x = t.getD k 0) : mst sg t (x :: r) k s = mst sg t r (k + 1) s := by simp only [mst]; rw [if_neg h, if_pos hx, if_pos he]
theorem mst_symNo (h : ¬ t.length ≤ k) (hx : 0 ≤ x) (he : ¬ x = t.getD k 0) : mst sg t (x :: r) k s = none := by simp only [mst]; rw [if_neg h, if_pos hx, if_neg he]
theorem mst_var (h : ¬ t.length ≤ k) (hx : ¬ 0 ≤ x) (he : ¬ ((s.getD (vr x) []).length ≠ 0 ∧ s.getD (vr x) [] ≠ subL sg t k)) : mst sg t (x :: r) k s = mst sg t r (k + (subL sg t k).length) (s.set (vr x) (subL sg t k)) := by simp only [mst]; rw [if_neg h, if_neg hx, if_neg he]
theorem mst_varNo (h : ¬ t.length ≤ k) (hx : ¬ 0 ≤ x) (he : (s.getD (vr x) []).length ≠ 0 ∧ s.getD (vr x) [] ≠ subL sg t k) : mst sg t (x :: r) k s = none := by simp only [mst]; rw [if_neg h, if_neg hx, if_pos he]
end
theorem set_get {s : List (List Int)} {i j : Nat} {v : List Int} : (s.set i v).getD j [] = if i = j ∧ i < s.length then v else s.getD j [] := by
 simp only [List.getD_eq_getElem?_getD, List.getElem?_set]
 by_cases h : i = j
 ·subst h
  by_cases h2 : i < s.length
  ·simp [h2]
  ·simp [h2]
 ·simp [h]
theorem vr_lt {x : Int} (h0 : ¬ 0 ≤ x) (h : -24 ≤ x) : vr x < 24 := by unfold vr; omega
theorem mst_ext {sg t : List Int} : ∀ {p : List Int} {k : Nat} {s s' : List (List Int)}, mst sg t p k s = some s' → s.length = 24 → (∀ x ∈ p, -24 ≤ x) → s'.length = 24 ∧ ∀ i, (s.getD i []).length ≠ 0 → s'.getD i [] = s.getD i [] := by
 intro p
 induction p with
 | nil => intro k s s' h hl _; injection h with h; subst h; exact ⟨hl, fun _ _ => rfl⟩
 | cons x r ih =>
  intro k s s' h hl hx
  have hr : ∀ y ∈ r, -24 ≤ y := fun y hy => hx y (List.mem_cons_of_mem _ hy)
  by_cases h1 : t.length ≤ k
  ·rw [mst_out h1] at h; cases h
  ·by_cases h2 : 0 ≤ x
   ·by_cases h3 : x = t.getD k 0
    ·rw [mst_sym h1 h2 h3] at h; exact ih h hl hr
    ·rw [mst_symNo h1 h2 h3] at h; cases h
   ·by_cases h3 : (s.getD (vr x) []).length ≠ 0 ∧ s.getD (vr x) [] ≠ subL sg t k
    ·rw [mst_varNo h1 h2 h3] at h; cases h
    ·rw [mst_var h1 h2 h3] at h
     obtain ⟨e1, e2⟩ := ih h (by rw [List.length_set]; exact hl) hr
     refine ⟨e1, fun i hi => ?_⟩
     have hs : (s.set (vr x) (subL sg t k)).getD i [] = s.getD i [] := by
      rw [set_get]
      split
      ·rename_i hc
       obtain ⟨rfl, _⟩ := hc
       by_cases e : s.getD (vr x) [] = subL sg t k
       ·exact e.symm
       ·exact absurd ⟨hi, e⟩ h3
      ·rfl
     rw [← hs] at hi ⊢
     exact e2 i hi
theorem sub_len1 {sg t : List Int} (hok : termOkB sg t = true) {k : Nat} (hk : k < t.length) : (subL sg t k).length = len1 sg t k ∧ t.drop k = subL sg t k ++ t.drop (k + (subL sg t k).length) ∧ scan sg 1 (subL sg t k) = some (subL sg t k).length := by
 have h := term_at hok hk
 have hl : (subL sg t k).length = len1 sg t k := by unfold subL; rw [List.length_take, List.length_drop]; omega
 refine ⟨hl, ?_, (term_parts (sub_term hok hk).1).2.2⟩
 rw [hl, ← List.drop_drop]
 exact (List.take_append_drop _ _).symm
theorem mst_sound {sg t : List Int} (hok : termOkB sg t = true) : ∀ {p : List Int} {k : Nat} {s s' : List (List Int)}, mst sg t p k s = some s' → s.length = 24 → (∀ x ∈ p, -24 ≤ x) →
  (∃ rest, t.drop k = fillL (fun i => s'.getD i []) p ++ rest) ∧ ∀ x ∈ p, x < 0 → scan sg 1 (s'.getD (vr x) []) = some (s'.getD (vr x) []).length := by
 intro p
 induction p with
 | nil => intro k s s' _ _ _; exact ⟨⟨t.drop k, by rw [fill_nil, List.nil_append]⟩, fun x hx => absurd hx (List.not_mem_nil)⟩
 | cons x r ih =>
  intro k s s' h hl hx
  have hr : ∀ y ∈ r, -24 ≤ y := fun y hy => hx y (List.mem_cons_of_mem _ hy)
  have hx0 : -24 ≤ x := hx x (List.mem_cons_self ..)
  by_cases h1 : t.length ≤ k
  ·rw [mst_out h1] at h; cases h
  ·by_cases h2 : 0 ≤ x
   ·by_cases h3 : x = t.getD k 0
    ·rw [mst_sym h1 h2 h3] at h
     obtain ⟨⟨rest, e⟩, hv⟩ := ih h hl hr
     refine ⟨⟨rest, ?_⟩, fun y hy h0 => ?_⟩
     ·rw [drop_cons (by omega), e, ← h3, fill_cons, rep_sym h2]; rfl
     ·rcases List.mem_cons.1 hy with rfl | hy
      ·omega
      ·exact hv y hy h0
    ·rw [mst_symNo h1 h2 h3] at h; cases h
   ·by_cases h3 : (s.getD (vr x) []).length ≠ 0 ∧ s.getD (vr x) [] ≠ subL sg t k
    ·rw [mst_varNo h1 h2 h3] at h; cases h
    ·rw [mst_var h1 h2 h3] at h
     have hl' : (s.set (vr x) (subL sg t k)).length = 24 := by rw [List.length_set]; exact hl
     obtain ⟨⟨rest, e⟩, hv⟩ := ih h hl' hr
     obtain ⟨_, e2⟩ := mst_ext h hl' hr
     obtain ⟨l1, l2, l3⟩ := sub_len1 hok (show k < t.length by omega)
     have hpos := (sub_term hok (show k < t.length by omega)).2.2.2
     have hg : (s.set (vr x) (subL sg t k)).getD (vr x) [] = subL sg t k := by rw [set_get, if_pos ⟨rfl, by rw [hl]; exact vr_lt h2 hx0⟩]
     have hgx : s'.getD (vr x) [] = subL sg t k := by rw [e2 (vr x) (by rw [hg]; omega), hg]
     refine ⟨⟨rest, ?_⟩, fun y hy h0 => ?_⟩
     ·rw [l2, e, fill_cons, rep_var (by omega), List.append_assoc]
      congr 1
      exact hgx.symm
     ·rcases List.mem_cons.1 hy with rfl | hy
      ·rw [hgx]; exact l3
      ·exact hv y hy h0
theorem mst_full {sg t : List Int} {L : Nat → List Int} : ∀ {p : List Int} {k : Nat} {s : List (List Int)} {rest : List Int}, t.drop k = fillL L p ++ rest → s.length = 24 → (∀ x ∈ p, -24 ≤ x) → (∀ x ∈ p, x < 0 → scan sg 1 (L (vr x)) = some (L (vr x)).length) → (∀ i, (s.getD i []).length ≠ 0 → s.getD i [] = L i) →
  ∃ s', mst sg t p k s = some s' ∧ (∀ i, (s'.getD i []).length ≠ 0 → s'.getD i [] = L i) ∧ ∀ x ∈ p, x < 0 → s'.getD (vr x) [] = L (vr x) := by
 intro p
 induction p with
 | nil => intro k s rest _ _ _ _ hc; exact ⟨s, rfl, hc, fun x hx => absurd hx (List.not_mem_nil)⟩
 | cons x r ih =>
  intro k s rest h hl hx hL hc
  have hr : ∀ y ∈ r, -24 ≤ y := fun y hy => hx y (List.mem_cons_of_mem _ hy)
  have hLr : ∀ y ∈ r, y < 0 → scan sg 1 (L (vr y)) = some (L (vr y)).length := fun y hy => hL y (List.mem_cons_of_mem _ hy)
  have hx0 : -24 ≤ x := hx x (List.mem_cons_self ..)
  rw [fill_cons, List.append_assoc] at h
  by_cases h2 : 0 ≤ x
  ·rw [rep_sym h2] at h
   have hk : k < t.length := by
    by_cases hk : k < t.length
    ·exact hk
    ·rw [List.drop_eq_nil_of_le (by omega)] at h; cases h
   rw [drop_cons hk] at h
   injection h with e1 e2
   obtain ⟨s', m1, m2, m3⟩ := ih e2 hl hr hLr hc
   exact ⟨s', by rw [mst_sym (by omega) h2 e1.symm]; exact m1, m2, fun y hy h0 => by
    rcases List.mem_cons.1 hy with rfl | hy
    ·omega
    ·exact m3 y hy h0⟩
  ·rw [rep_var (by omega)] at h
   change t.drop k = L (vr x) ++ (fillL L r ++ rest) at h
   have hsc := hL x (List.mem_cons_self ..) (by omega)
   have hpos := scan_pos (q := 0) hsc
   have hk : k < t.length := by
    by_cases hk : k < t.length
    ·exact hk
    ·rw [List.drop_eq_nil_of_le (by omega)] at h
     have := congrArg List.length h
     simp only [List.length_nil, List.length_append] at this
     omega
   have hsub : subL sg t k = L (vr x) := by
    unfold subL
    have e : len1 sg t k = (L (vr x)).length := len1_eq (by rw [h]; exact scan_append hsc)
    rw [e, h, List.take_left' rfl]
   have hnext : t.drop (k + (subL sg t k).length) = fillL L r ++ rest := by rw [← List.drop_drop, h, hsub, List.drop_left' rfl]
   have hno : ¬ ((s.getD (vr x) []).length ≠ 0 ∧ s.getD (vr x) [] ≠ subL sg t k) := fun ⟨g1, g2⟩ => g2 (by rw [hsub]; exact hc _ g1)
   have hl' : (s.set (vr x) (subL sg t k)).length = 24 := by rw [List.length_set]; exact hl
   obtain ⟨s', m1, m2, m3⟩ := ih hnext hl' hr hLr (fun i hi => by
    rw [set_get] at hi ⊢
    split
    ·rename_i hcc; rw [hsub, ← hcc.1]
    ·rename_i hcc; rw [if_neg hcc] at hi; exact hc i hi)
   refine ⟨s', by rw [mst_var (by omega) h2 hno]; exact m1, m2, fun y hy h0 => ?_⟩
   rcases List.mem_cons.1 hy with rfl | hy
   ·have hg : (s.set (vr y) (subL sg t k)).getD (vr y) [] = L (vr y) := by rw [set_get, if_pos ⟨rfl, by rw [hl]; exact vr_lt h2 hx0⟩, hsub]
    rw [(mst_ext m1 hl' hr).2 (vr y) (by rw [hg]; omega), hg]
   ·exact m3 y hy h0
def s0 : List (List Int) := List.replicate 24 []
theorem s0_get (i : Nat) : s0.getD i [] = [] := by
 unfold s0
 rw [List.getD_eq_getElem?_getD, List.getElem?_replicate]
 split <;> rfl
def matchO (sg p t : List Int) : Option (List (List Int)) := if (termOkB sg p && termOkB sg t) = true then mst sg t p 0 s0 else none
def instB (sg p t : List Int) : Bool := (matchO sg p t).isSome
theorem match_yes {sg p t : List Int} (h1 : termOkB sg p = true) (h2 : termOkB sg t = true) : matchO sg p t = mst sg t p 0 s0 := by unfold matchO; rw [if_pos (by rw [h1, h2]; rfl)]
theorem match_no {sg p t : List Int} (h : termOkB sg p = false ∨ termOkB sg t = false) : matchO sg p t = none := by
 unfold matchO
 rw [if_neg]
 rcases h with h | h <;> rw [h] <;> simp
theorem inst_no {sg p t : List Int} (h : termOkB sg p = false ∨ termOkB sg t = false) : instB sg p t = false := by unfold instB; rw [match_no h]; rfl
theorem inst_ok {sg p t : List Int} (h : instB sg p t = true) : termOkB sg p = true ∧ termOkB sg t = true := by
 cases h1 : termOkB sg p with
 | false => rw [inst_no (.inl h1)] at h; cases h
 | true =>
  cases h2 : termOkB sg t with
  | false => rw [inst_no (.inr h2)] at h; cases h
  | true => exact ⟨rfl, rfl⟩
def Turns (sg p t : List Int) (L : Nat → List Int) : Prop := fillL L p = t ∧ ∀ x ∈ p, x < 0 → scan sg 1 (L (vr x)) = some (L (vr x)).length
theorem match_turns {sg p t : List Int} {s' : List (List Int)} (h : matchO sg p t = some s') : s'.length = 24 ∧ Turns sg p t (fun i => s'.getD i []) := by
 have h12 : termOkB sg p = true ∧ termOkB sg t = true := inst_ok (by unfold instB; rw [h]; rfl)
 obtain ⟨h1, h2⟩ := h12
 rw [match_yes h1 h2] at h
 have hx : ∀ x ∈ p, -24 ≤ x := fun x hx => (term_mem h1 hx).1
 obtain ⟨⟨rest, e⟩, hv⟩ := mst_sound h2 h (by rfl) hx
 refine ⟨(mst_ext h (by rfl) hx).1, ?_, hv⟩
 rw [List.drop_zero] at e
 have hs := scan_fill (L := fun i => s'.getD i []) (term_parts h1).2.2 hv
 have hs2 := scan_append (r := rest) hs
 rw [← e, (term_parts h2).2.2] at hs2
 injection hs2 with hs2
 have hl := congrArg List.length e
 rw [List.length_append] at hl
 have hr : rest = [] := List.eq_nil_of_length_eq_zero (by omega)
 rw [e, hr, List.append_nil]
theorem turns_match {sg p t : List Int} {L : Nat → List Int} (h1 : termOkB sg p = true) (h2 : termOkB sg t = true) (h : Turns sg p t L) : ∃ s', matchO sg p t = some s' ∧ ∀ x ∈ p, x < 0 → s'.getD (vr x) [] = L (vr x) := by
 rw [match_yes h1 h2]
 obtain ⟨s', m1, _, m3⟩ := mst_full (sg := sg) (t := t) (L := L) (p := p) (k := 0) (s := s0) (rest := []) (by rw [List.drop_zero, List.append_nil, h.1]) (by rfl) (fun x hx => (term_mem h1 hx).1) h.2 (fun i hi => by rw [s0_get] at hi; exact absurd rfl hi)
 exact ⟨s', m1, m3⟩
theorem inst_iff {sg p t : List Int} (h1 : termOkB sg p = true) (h2 : termOkB sg t = true) : instB sg p t = true ↔ ∃ L, Turns sg p t L := by
 constructor
 ·intro h
  unfold instB at h
  obtain ⟨s', hs⟩ := Option.isSome_iff_exists.1 h
  exact ⟨_, (match_turns hs).2⟩
 ·rintro ⟨L, h⟩
  obtain ⟨s', hs, _⟩ := turns_match h1 h2 h
  unfold instB
  rw [hs]; rfl
end matchMath
end
section
namespace putMath
open sig term termOk termFacts endAt sub args depth termMath posMath
def putL (t : List Int) (a i : Nat) (u : List Int) : List Int := t.take a ++ (u ++ t.drop (a + i))
section
variable {sg t u : List Int} {a : Nat}
end
end putMath
end
section
namespace segsHelp
open Go.RowKit base ints sig cursor marks app sym appAt segs
set_option maxRecDepth 100000
theorem info_list : (Try.prog.info? 22).map (fun i => (i.zero, i.size, i.bytes)) = some (some (.slice none 0 0), 1, 24) := by kernel_rfl
theorem run_make_lists (n : Nat) (hn : n ≤ 1048576) (W : World) : (Instr.makeSlice 77 (.int .i64 (n : Int)) (.int .i64 (n : Int))).run Try.prog W =
  .ok (.slice (some ⟨W.heap.size, 0, none⟩) n n) (W.alloc (.cells (madeCells #[.slice none 0 0] n) 22)) := by
 obtain ⟨i0, hi, hz0, hz1, hz2⟩ := info_parts info_list
 have hr := run_make (P := Try.prog) W 77 22 i0 _ Try.underlying77 hi hz0 .i64 .i64 n n (by omega) (by omega) (by rw [hz2]; omega) (by omega)
 simpa [hz1, Value.cells] using hr
def sumL (xss : List (List Int)) (k : Nat) : Nat := ((xss.take k).map List.length).sum
def tot (xss : List (List Int)) : Nat := xss.length + sumL xss xss.length
theorem sumL_succ {xss : List (List Int)} {k : Nat} (h : k < xss.length) : sumL xss (k + 1) = sumL xss k + (xss.getD k []).length := by
 unfold sumL
 rw [List.take_succ_eq_append_getElem h, List.map_append, List.sum_append]
 simp [List.getD, h]
theorem sumL_mono {xss : List (List Int)} : ∀ {k m : Nat}, k ≤ m → m ≤ xss.length → sumL xss k ≤ sumL xss m
 | k, 0, h, _ => by rw [show k = 0 by omega]; exact Nat.le_refl _
 | k, m + 1, h, hm => by
  by_cases e : k = m + 1
  ·rw [e]; exact Nat.le_refl _
  ·have := sumL_mono (xss := xss) (show k ≤ m by omega) (by omega)
   rw [sumL_succ (by omega)]
   omega
theorem tot_each {xss : List (List Int)} {L : Nat} (h : tot xss ≤ L) : ∀ j, (xss.getD j []).length ≤ L := fun j => by
 by_cases hj : j < xss.length
 ·have h1 := sumL_succ hj
  have h2 := sumL_mono (xss := xss) (show j + 1 ≤ xss.length by omega) (Nat.le_refl _)
  unfold tot at h
  omega
 ·rw [show xss.getD j [] = [] by simp [List.getD, hj]]
  simp
theorem tot_len {xss : List (List Int)} {L n : Nat} (hl : xss.length = n) (h : tot xss ≤ L) : n ≤ L := by unfold tot at h; omega
end segsHelp
end
section
namespace segsMark
open Go.RowKit base ints sig cursor marks app sym appAt segs segsHelp
set_option maxRecDepth 100000
end segsMark
end
section
namespace kinds
open Go.RowKit base ints sig cursor marks app sym appAt segs segsHelp segsMark
set_option maxRecDepth 100000
def Ownd (w : World) (lo hi : Nat) (A : Option Addr) (n c : Nat) (xs : List Int) : Prop := Own w lo (.slice A n c) xs ∧ ∀ k, blk A = some k → k < hi
section
variable {w w' : World} {lo hi n c : Nat} {A : Option Addr} {xs : List Int}
theorem Ownd.rd (h : Ownd w lo hi A n c xs) : Seg w w.heap.size A n xs := Own.seg h.1
theorem Ownd.next (h : Ownd w lo hi A n c xs) (hb : Below w.heap.size w w') : Ownd w' lo hi A n c xs := ⟨h.1.next hb, h.2⟩
theorem Ownd.of_own (h : Own w lo (.slice A n c) xs) : Ownd w lo w.heap.size A n c xs := ⟨h, fun k hk => (World.ownsRow.lt h k (by rw [blk_own]; exact hk)).2⟩
theorem Ownd.cap (h : Ownd w lo hi A n c xs) : Cap A n c := by
 have hl := Own.len h.1
 rcases own_form (n := n) (vs := xs.map (Value.int .i64)) (by rw [hl]; have := h.1; rw [hl] at this; exact this) with ⟨rfl, h1, rfl, _⟩ | ⟨g, cur, rfl, _, _, h1, h2, h3, _⟩
 ·exact ⟨by omega, by omega, fun _ => rfl⟩
 ·exact ⟨h1, h3, fun e => by cases e⟩
theorem drew_below (w : World) : Below w.heap.size w w.drew := ⟨rfl, rfl, rfl, Nat.le_refl _, fun _ _ => rfl⟩
theorem drewN_below (w : World) (d : Nat) : Below w.heap.size w (w.drewN d) := ⟨rfl, rfl, rfl, Nat.le_refl _, fun _ _ => rfl⟩
end
def CopyInts (w : World) (n : Nat) (xs : List Int) (e : Ending) (w' : World) : Prop := ∃ g, e = .returned (.slice (some ⟨g, 0, none⟩) n n) ∧ Ownd w' w.heap.size w'.heap.size (some ⟨g, 0, none⟩) n n xs ∧ w.heap.size < w'.heap.size ∧ Below w.heap.size w w'
theorem intsTo (A : Option Addr) (n c : Nat) (xs : List Int) (w : World) (h : Seg w w.heap.size A n xs) (hn : n ≤ 1048576) :
  Calls Try.prog 12 #[.slice A n c] w (CopyInts w n xs) :=
 (toInts A n c xs w h hn).mono fun _ _ ⟨cs, he, hr, hs, hc, hz, hb⟩ => ⟨w.heap.size, he, Ownd.of_own (Own.of_row hr h.1 hs (Nat.le_refl _) (by omega) (Nat.le_refl _) hc), by omega, hb⟩
theorem intsEq (A A' : Option Addr) (n n' c c' : Nat) (xs : List Int) (w : World) (h : Seg w w.heap.size A n xs) (h' : Seg w w.heap.size A' n' xs) (hn : n ≤ 1048576) :
  Calls Try.prog 15 #[.slice A n c, .slice A' n' c'] w fun e w' => e = .returned (.bool true) ∧ Below w.heap.size w w' := by
 obtain rfl : n = n' := by rw [← h.1, ← h'.1]
 exact (eqYes A A' n c c' xs w h h' hn).mono fun _ _ ⟨he, d, hd⟩ => ⟨he, by rw [hd]; exact drewN_below _ _⟩
theorem owns_put {w : World} {lo hi n c b : Nat} {A : Option Addr} {xss : List (List Int)} {t : TypeId} {cs : Array Value} (h : Owns w lo hi A n c xss) (hr : Row w b t cs) (hb : b < lo) (i : Nat) (u : Value) : Owns (w.setCell ⟨b, i, none⟩ u) lo hi A n c xss :=
 h.btw (lo' := b) (hi' := b + 1) (Btw.of_grown (grown_put (World.grownBy.refl _ _) _ _) (fun k hk => by injection hk; omega)) (.inr (by omega))
end kinds
end
section
namespace look
open Go.RowKit base ints marks app sym segs fillMath
set_option maxRecDepth 100000
def AnsLook (B : Nat) (w : World) (ys : List Int) (e : Ending) (w' : World) : Prop := ∃ A n c, e = .returned (.slice A n c) ∧ Seg w' w'.heap.size A n ys ∧ Cap A n c ∧ (∀ k, blk A = some k → k < B ∨ w.heap.size ≤ k) ∧ Below w.heap.size w w'
def Looks (g : Nat) (lb : Array Value) (w : World) (L : Nat → List Int) (N : Nat) : Prop :=
 ∀ (W : World) (i : Nat), Below w.heap.size w W → i < N → Calls Try.prog g (#[.int .i64 (i : Int)] ++ lb) W (AnsLook w.heap.size W (L i))
theorem Looks.next {g : Nat} {lb : Array Value} {w w' : World} {L : Nat → List Int} {N : Nat} (h : Looks g lb w L N) (hb : Below w.heap.size w w') : Looks g lb w' L N :=
 fun W i hW hi => (h W i (next_trans hb hW) hi).mono fun _ _ ⟨A, n, c, he, h1, h2, h3, h4⟩ => ⟨A, n, c, he, h1, h2, fun k hk => by have := h3 k hk; have := hb.size; omega, h4⟩
theorem own_cap {w : World} {base : Nat} {A : Option Addr} {n c : Nat} {xs : List Int} (h : Own w base (.slice A n c) xs) : Cap A n c := by
 have hl := Own.len h
 rcases own_form (n := n) (vs := xs.map (Value.int .i64)) (by rw [hl]; rw [hl] at h; exact h) with ⟨rfl, h1, rfl, _⟩ | ⟨g, cur, rfl, _, _, h1, h2, h3, _⟩
 ·exact ⟨by omega, by omega, fun _ => rfl⟩
 ·exact ⟨h1, h3, fun e => by cases e⟩
end look
end
section
namespace substOk
open Go.RowKit base ints sig term termOk marks app sym sub segs segsHelp termFacts varsMath varsOf fillMath Go.Proofs.Ytblhmplpcdcejaa.look
set_option maxRecDepth 100000
def goodB (sg t : List Int) : Bool := decide (t.length = 0) || termOkB sg t
def HeadSO (w : World) (A : Option Addr) (n c : Nat) (S : Option Addr) (m c' : Nat) (sg : List Int) (ss : List (List Int)) (i : Value) (wr : World) : Prop :=
 ∃ k : Nat, k ≤ m ∧ i = .int .i64 k ∧ (∀ j, j < k → goodB sg (ss.getD j []) = true) ∧ Row wr w.heap.size 31 #[.slice A n c] ∧ Row wr (w.heap.size + 1) 106 #[.slice S m c'] ∧ Below w.heap.size w wr
theorem headSO_step {w wr : World} {A : Option Addr} {n c : Nat} {S : Option Addr} {m c' : Nat} {sg : List Int} {ss : List (List Int)} {k : Nat} (hk : k < m) (hlow : ∀ j, j < k → goodB sg (ss.getD j []) = true) (hg : goodB sg (ss.getD k []) = true)
  (r1 : Row wr w.heap.size 31 #[.slice A n c]) (r2 : Row wr (w.heap.size + 1) 106 #[.slice S m c']) (hb : Below w.heap.size w wr) : HeadSO w A n c S m c' sg ss (.int .i64 ((k : Int) + 1)) wr :=
 ⟨k + 1, hk, by simp, fun j hj => by
  by_cases e : j = k
  ·subst e; exact hg
  ·exact hlow j (by omega), r1, r2, hb⟩
end substOk
end
section
open Go.Lib (hid)
namespace gives
open Go.RowKit base ints sig term termOk marks app sym sub segs segsHelp termFacts varsMath varsOf fillMath Go.Proofs.Ytblhmplpcdcejaa.look substOk
set_option maxRecDepth 100000
def givesL (ss : List (List Int)) (i : Nat) : List Int := if (ss.getD i []).length = 0 then vt i else ss.getD i []
theorem gives_var {ss : List (List Int)} {i : Nat} (h : (ss.getD i []).length = 0) : givesL ss i = vt i := by unfold givesL; rw [if_pos h]
theorem gives_term {ss : List (List Int)} {i : Nat} (h : ¬ (ss.getD i []).length = 0) : givesL ss i = ss.getD i [] := by unfold givesL; rw [if_neg h]
theorem gives_out {ss : List (List Int)} {i : Nat} (h : ¬ i < ss.length) : givesL ss i = vt i := gives_var (by simp [List.getD, h])
set_option maxHeartbeats 2000000 in
theorem l2Gives (S : Option Addr) (m c : Nat) (ss : List (List Int)) (i : Nat) (w : World) (h : Segs w w.heap.size S m ss) (ht : tot ss ≤ 1048576) (hi : i ≤ 1048576) :
  Calls Try.prog 109 #[.agg #[.slice S m c], .int .i64 (i : Int)] w (AnsList w (givesL ss i)) := by
 have hm : m ≤ 1048576 := tot_len h.1 ht
 have HT := hid (tot_each ht)
 have HL := hid h.1
 clear ht
 have bel : Below w.heap.size w (w.alloc (.cells #[.slice S m c] 106)) := (Below.refl _ _).alloc (Nat.le_refl _) _
 have i0 : (0 : Int) ≤ (i : Int) := by omega
 have var : ∀ (hv : givesL ss i = vt i), AnsList w (givesL ss i) (.returned (.slice (some ⟨w.heap.size + 1, 0, none⟩) 1 1)) ((w.alloc (.cells #[.slice S m c] 106)).alloc (.cells #[.int .i64 (-1 - (i : Int))] 2)) := fun hv => by
  refine ⟨_, 1, 1, rfl, ?_, bel.alloc (by simp) _⟩
  rw [hv]
  have := Own.of_row (base := w.heap.size) (n := 1) (c := 1) (xs := vt i) (Row.new (w.alloc (.cells #[.slice S m c] 106)) 2 #[.int .i64 (-1 - (i : Int))]) rfl rfl (Nat.le_refl _) (by omega) (by simp) (fun j hj => by
   have e : j = 0 := by omega
   subst e
   rfl)
  simpa using this
 have VAR := hid var
 clear var
 by_cases hlt : i < m
 ·obtain ⟨b, off, A', n', cc, rfl, hbB, hx, hseg, hcap⟩ := h.spot hlt
  have hx1 : (w.alloc (.cells #[.slice (some ⟨b, off, none⟩) m c] 106)).cell? ⟨b, off + i, none⟩ = some (.slice A' n' cc) := (bel.cell (p := ⟨b, off + i, none⟩) hbB).trans hx
  by_cases hz : n' = 0
  ·subst hz
   have F := hid (VAR.out (gives_var hseg.1))
   clear h hseg hcap hx bel VAR
   go_enter Try.func109, Try.ntmps109
   go_wp2
   go_ret
   exact F.out
  ·have hpos : 0 < n' := by omega
   have E := hid (gives_term (ss := ss) (i := i) (by rw [hseg.1]; exact hz))
   have L := hid (copyInts A' n' cc _ _ ((hseg.below bel).more bel.size) hcap.2.2 (by rw [← hseg.1]; exact HT.out i))
   clear h hseg hcap hx VAR
   go_enter Try.func109, Try.ntmps109
   go_wp2_with fail
   refine L.out.mono ?_
   rintro e w1 ⟨D, dn, dc, rfl, o1, b1⟩
   have F : AnsList w (givesL ss i) (.returned (.slice D dn dc)) w1 := ⟨D, dn, dc, rfl, by rw [E.out]; exact Own.lower o1 bel.size, next_trans bel b1⟩
   have HF := hid F
   clear F o1 b1 bel L
   go_wp2
   go_ret
   exact HF.out
 ·have hge : ¬ (i : Int) < (m : Int) := by omega
  have F := hid (VAR.out (gives_out (by rw [HL.out]; exact hlt)))
  clear h bel VAR
  go_enter Try.func109, Try.ntmps109
  go_wp2
  go_ret
  exact F.out
end gives
end
section
namespace stepMath
open sig term termOk termFacts fillMath gives endAt sub matchMath termMath posMath putMath ruleMath
def putAt (sg t u : List Int) (a : Nat) : List Int := putL t a (len1 sg t a) u
def stepO (sg : List Int) (x : Rl) (t : List Int) (a : Nat) : Option (List Int) :=
 match mst sg (subL sg t a) x.1 0 s0 with
 | none => none
 | some ss => if (fillL (givesL ss) x.2).length ≤ 60 ∧ (putAt sg t (fillL (givesL ss) x.2) a).length ≤ 60 then some (putAt sg t (fillL (givesL ss) x.2) a) else none
def redB (sg : List Int) (x : Rl) (t : List Int) (a : Nat) : Bool := (mst sg (subL sg t a) x.1 0 s0).isSome
theorem sub_ok {sg t : List Int} (h : termOkB sg t = true) {a : Nat} (ha : a < t.length) : termOkB sg (subL sg t a) = true := by
 obtain ⟨h1, h2, h3⟩ := term_parts h
 obtain ⟨e1, e2, e3⟩ := sub_len1 h ha
 have h4 := term_at h ha
 exact term_mk h1 (by omega) e3
end stepMath
end
section
namespace walkMath
open sig term termOk termFacts fillMath gives sub matchMath putMath ruleMath stepMath
abbrev St := Int × Int × List Int
abbrev Wk := List Int × List St
def inB (x : Int) (n : Nat) : Bool := decide (0 ≤ x ∧ x < n)
def rightB (sg : List Int) (rs : List Rl) (t : List Int) : Bool := sysOkB sg rs && termOkB sg t
def thereR (sg : List Int) (rs : List Rl) (t : List Int) (a r : Int) : Bool := rightB sg rs t && (inB a t.length && inB r rs.length)
def rl (rs : List Rl) (r : Int) : Rl := rs.getD r.toNat ([], [])
def redexB (sg : List Int) (rs : List Rl) (t : List Int) (a r : Int) : Bool := thereR sg rs t a r && redB sg (rl rs r) t a.toNat
def stepAtO (sg : List Int) (rs : List Rl) (t : List Int) (a r : Int) : Option (List Int) := if thereR sg rs t a r = true then stepO sg (rl rs r) t a.toNat else none
theorem there_parts {sg : List Int} {rs : List Rl} {t : List Int} {a r : Int} (h : thereR sg rs t a r = true) : sysOkB sg rs = true ∧ termOkB sg t = true ∧ (0 ≤ a ∧ a < t.length) ∧ (0 ≤ r ∧ r < rs.length) := by
 unfold thereR rightB inB at h
 simp only [Bool.and_eq_true, decide_eq_true_eq] at h
 exact ⟨h.1.1, h.1.2, h.2.1, h.2.2⟩
theorem there_mk {sg : List Int} {rs : List Rl} {t : List Int} {a r : Int} (h1 : sysOkB sg rs = true) (h2 : termOkB sg t = true) (h3 : 0 ≤ a ∧ a < t.length) (h4 : 0 ≤ r ∧ r < rs.length) : thereR sg rs t a r = true := by
 unfold thereR rightB inB
 rw [h1, h2, decide_eq_true h3, decide_eq_true h4]
 rfl
theorem rl_ok {sg : List Int} {rs : List Rl} {r : Int} (h : sysOkB sg rs = true) (hr : 0 ≤ r ∧ r < rs.length) : ruleOkB sg (rl rs r) = true := (sys_parts h).2.2 _ (rl_mem (by omega))
end walkMath
end
section
namespace shape
open Go.RowKit base ints sig cursor marks app sym appAt segs segsHelp segsMark kinds
inductive Sh where
 | num : Sh
 | bit : Sh
 | row : TypeId → Sh → Sh
 | cat : Sh → Sh → Sh
@[reducible] def Dat : Sh → Type
 | .num => Int
 | .bit => Bool
 | .row _ s => List (Dat s)
 | .cat a b => Dat a × Dat b
def nc : Sh → Nat
 | .num => 1
 | .bit => 1
 | .row _ _ => 1
 | .cat a b => nc a + nc b
def dft : (s : Sh) → Dat s
 | .num => (0 : Int)
 | .bit => false
 | .row _ _ => []
 | .cat a b => (dft a, dft b)
def Piece (w : World) (b off : Nat) (es : List Value) : Prop := ∀ i, i < es.length → w.cell? ⟨b, off + i, none⟩ = es[i]?
theorem nc_pos : ∀ s : Sh, 1 ≤ nc s
 | .num => Nat.le_refl _
 | .bit => Nat.le_refl _
 | .row _ _ => Nat.le_refl _
 | .cat a b => Nat.le_trans (nc_pos a) (Nat.le_add_right _ _)
def Rd (w : World) (B : Nat) : (s : Sh) → List Value → Dat s → Prop
 | .num, cs, (x : Int) => cs = [.int .i64 x]
 | .bit, cs, (x : Bool) => cs = [.bool x]
 | .row _ s, cs, (d : List (Dat s)) => ∃ A n c, cs = [.slice A n c] ∧ Cap A n c ∧ d.length = n ∧
   (0 < n → ∃ b off, A = some ⟨b, off, none⟩ ∧ b < B ∧ ∀ j, j < n → ∃ es, es.length = nc s ∧ Piece w b (off + j * nc s) es ∧ Rd w B s es (d.getD j (dft s)))
 | .cat a b, cs, d => ∃ ca cb, cs = ca ++ cb ∧ Rd w B a ca d.1 ∧ Rd w B b cb d.2
def Ow (w : World) : (s : Sh) → List Value → Dat s → List Nat → Prop
 | .num, cs, (x : Int), F => cs = [.int .i64 x] ∧ F = []
 | .bit, cs, (x : Bool), F => cs = [.bool x] ∧ F = []
 | .row e s, cs, (d : List (Dat s)), F => ∃ A n c, cs = [.slice A n c] ∧ d.length = n ∧
   ((A = none ∧ n = 0 ∧ c = 0 ∧ F = []) ∨ ∃ (g : Nat) (cur : Array Value) (E : Nat → List Value) (G : Nat → List Nat), A = some ⟨g, 0, none⟩ ∧ Row w g e cur ∧ n ≤ c ∧ c ≤ 9223372036854775807 ∧ cur.size = c * nc s ∧
    F = g :: (List.range n).flatMap G ∧ ∀ j, j < n → (E j).length = nc s ∧ (∀ i, i < nc s → cur[j * nc s + i]? = (E j)[i]?) ∧ Ow w s (E j) (d.getD j (dft s)) (G j))
 | .cat a b, cs, d, F => ∃ ca cb Fa Fb, cs = ca ++ cb ∧ F = Fa ++ Fb ∧ Ow w a ca d.1 Fa ∧ Ow w b cb d.2 Fb
section
variable {w w' : World} {B B' : Nat}
theorem Rd.len : ∀ {s : Sh} {cs : List Value} {d : Dat s}, Rd w B s cs d → cs.length = nc s
 | .num, _, _, h => by have h : _ = _ := h; rw [h]; rfl
 | .bit, _, _, h => by have h : _ = _ := h; rw [h]; rfl
 | .row _ _, _, _, h => by obtain ⟨A, n, c, e, _⟩ := h; rw [e]; rfl
 | .cat a b, _, _, h => by
  obtain ⟨ca, cb, e, h1, h2⟩ := h
  rw [e, List.length_append, h1.len, h2.len]; rfl
theorem Piece.keep {b off : Nat} {es : List Value} (h : Piece w b off es) (hk : ∀ p : Addr, p.block = b → w'.cell? p = w.cell? p) : Piece w' b off es := fun i hi => (hk _ rfl).trans (h i hi)
theorem Rd.keep (hk : ∀ p : Addr, p.block < B → w'.cell? p = w.cell? p) : ∀ {s : Sh} {cs : List Value} {d : Dat s}, Rd w B s cs d → Rd w' B s cs d
 | .num, _, _, h => h
 | .bit, _, _, h => h
 | .row _ s, _, _, h => by
  obtain ⟨A, n, c, e, hc, hl, h1⟩ := h
  refine ⟨A, n, c, e, hc, hl, fun hn => ?_⟩
  obtain ⟨b, off, e2, hb, h2⟩ := h1 hn
  refine ⟨b, off, e2, hb, fun j hj => ?_⟩
  obtain ⟨es, he, hp, hr⟩ := h2 j hj
  exact ⟨es, he, hp.keep (fun p hp => hk p (by rw [hp]; exact hb)), hr.keep hk⟩
 | .cat a b, _, _, h => by
  obtain ⟨ca, cb, e, h1, h2⟩ := h
  exact ⟨ca, cb, e, h1.keep hk, h2.keep hk⟩
theorem Rd.more (hB : B ≤ B') : ∀ {s : Sh} {cs : List Value} {d : Dat s}, Rd w B s cs d → Rd w B' s cs d
 | .num, _, _, h => h
 | .bit, _, _, h => h
 | .row _ s, _, _, h => by
  obtain ⟨A, n, c, e, hc, hl, h1⟩ := h
  refine ⟨A, n, c, e, hc, hl, fun hn => ?_⟩
  obtain ⟨b, off, e2, hb, h2⟩ := h1 hn
  refine ⟨b, off, e2, by omega, fun j hj => ?_⟩
  obtain ⟨es, he, hp, hr⟩ := h2 j hj
  exact ⟨es, he, hp, hr.more hB⟩
 | .cat a b, _, _, h => by
  obtain ⟨ca, cb, e, h1, h2⟩ := h
  exact ⟨ca, cb, e, h1.more hB, h2.more hB⟩
theorem Rd.below {s : Sh} {cs : List Value} {d : Dat s} (h : Rd w B s cs d) (hb : Below B w w') : Rd w' B s cs d := h.keep fun _ hp => hb.cell hp
theorem Rd.next {s : Sh} {cs : List Value} {d : Dat s} (h : Rd w w.heap.size s cs d) (hb : Below w.heap.size w w') : Rd w' w'.heap.size s cs d := (h.below hb).more hb.size
theorem Ow.len : ∀ {s : Sh} {cs : List Value} {d : Dat s} {F : List Nat}, Ow w s cs d F → cs.length = nc s
 | .num, _, _, _, h => by obtain ⟨e, _⟩ := h; rw [e]; rfl
 | .bit, _, _, _, h => by obtain ⟨e, _⟩ := h; rw [e]; rfl
 | .row _ _, _, _, _, h => by obtain ⟨A, n, c, e, _⟩ := h; rw [e]; rfl
 | .cat a b, _, _, _, h => by
  obtain ⟨ca, cb, Fa, Fb, e, _, h1, h2⟩ := h
  rw [e, List.length_append, h1.len, h2.len]; rfl
theorem Ow.keep : ∀ {s : Sh} {cs : List Value} {d : Dat s} {F : List Nat}, Ow w s cs d F → (∀ k ∈ F, w'.heap[k]? = w.heap[k]?) → Ow w' s cs d F
 | .num, _, _, _, h, _ => h
 | .bit, _, _, _, h, _ => h
 | .row e s, _, _, F, h, hk => by
  obtain ⟨A, n, c, e1, hl, h1⟩ := h
  refine ⟨A, n, c, e1, hl, ?_⟩
  rcases h1 with h1 | ⟨g, cur, E, G, e2, hr, h2, h3, h4, h5, h6⟩
  ·exact .inl h1
  ·subst h5
   refine .inr ⟨g, cur, E, G, e2, (hk g (List.mem_cons_self ..)).trans hr, h2, h3, h4, rfl, fun j hj => ?_⟩
   obtain ⟨q1, q2, q3⟩ := h6 j hj
   exact ⟨q1, q2, q3.keep fun k hkG => hk k (List.mem_cons_of_mem _ (List.mem_flatMap.2 ⟨j, List.mem_range.2 hj, hkG⟩))⟩
 | .cat a b, _, _, F, h, hk => by
  obtain ⟨ca, cb, Fa, Fb, e, e2, h1, h2⟩ := h
  subst e2
  exact ⟨ca, cb, Fa, Fb, e, rfl, h1.keep fun k h => hk k (List.mem_append_left _ h), h2.keep fun k h => hk k (List.mem_append_right _ h)⟩
theorem Ow.lt : ∀ {s : Sh} {cs : List Value} {d : Dat s} {F : List Nat}, Ow w s cs d F → ∀ k ∈ F, k < w.heap.size
 | .num, _, _, _, h, k, hk => by obtain ⟨_, e⟩ := h; rw [e] at hk; cases hk
 | .bit, _, _, _, h, k, hk => by obtain ⟨_, e⟩ := h; rw [e] at hk; cases hk
 | .row e s, _, _, F, h, k, hk => by
  obtain ⟨A, n, c, e1, hl, h1⟩ := h
  rcases h1 with ⟨_, _, _, h1⟩ | ⟨g, cur, E, G, e2, hr, h2, h3, h4, h5, h6⟩
  ·rw [h1] at hk; cases hk
  ·rw [h5] at hk
   rcases List.mem_cons.1 hk with hk | hk
   ·rw [hk]; exact hr.lt
   ·obtain ⟨j, hj, hk⟩ := List.mem_flatMap.1 hk
    exact (h6 j (List.mem_range.1 hj)).2.2.lt k hk
 | .cat a b, _, _, F, h, k, hk => by
  obtain ⟨ca, cb, Fa, Fb, e, e2, h1, h2⟩ := h
  rw [e2] at hk
  rcases List.mem_append.1 hk with hk | hk
  ·exact h1.lt k hk
  ·exact h2.lt k hk
theorem Ow.next {s : Sh} {cs : List Value} {d : Dat s} {F : List Nat} (h : Ow w s cs d F) (hb : Below w.heap.size w w') : Ow w' s cs d F := h.keep fun k hk => hb.block k (h.lt k hk)
theorem Ow.rd : ∀ {s : Sh} {cs : List Value} {d : Dat s} {F : List Nat}, Ow w s cs d F → Rd w w.heap.size s cs d
 | .num, _, _, _, h => h.1
 | .bit, _, _, _, h => h.1
 | .row e s, _, _, F, h => by
  obtain ⟨A, n, c, e1, hl, h1⟩ := h
  rcases h1 with ⟨rfl, rfl, rfl, _⟩ | ⟨g, cur, E, G, e2, hr, h2, h3, h4, h5, h6⟩
  ·exact ⟨none, 0, 0, e1, ⟨by omega, by omega, fun _ => rfl⟩, hl, fun h => absurd h (by omega)⟩
  ·refine ⟨A, n, c, e1, ⟨h2, h3, fun e => by rw [e] at e2; cases e2⟩, hl, fun hn => ⟨g, 0, e2, hr.lt, fun j hj => ?_⟩⟩
   obtain ⟨q1, q2, q3⟩ := h6 j hj
   refine ⟨E j, q1, fun i hi => ?_, q3.rd⟩
   rw [Nat.zero_add, hr.cell, q2 i (by omega)]
 | .cat a b, _, _, F, h => by
  obtain ⟨ca, cb, Fa, Fb, e, e2, h1, h2⟩ := h
  exact ⟨ca, cb, e, h1.rd, h2.rd⟩
def Owned (w : World) (lo hi : Nat) (s : Sh) (cs : List Value) (d : Dat s) : Prop := ∃ F, Ow w s cs d F ∧ F.Nodup ∧ ∀ k ∈ F, lo ≤ k ∧ k < hi
variable {lo hi : Nat} {s : Sh} {cs : List Value} {d : Dat s}
theorem Owned.rd (h : Owned w lo hi s cs d) : Rd w w.heap.size s cs d := by obtain ⟨F, h, _⟩ := h; exact h.rd
theorem Owned.next (h : Owned w lo hi s cs d) (hb : Below w.heap.size w w') : Owned w' lo hi s cs d := by obtain ⟨F, h, h2⟩ := h; exact ⟨F, h.next hb, h2⟩
theorem Owned.drew (h : Owned w lo hi s cs d) : Owned w.drew lo hi s cs d := h.next (drew_below w)
theorem Owned.wider {lo' hi' : Nat} (h : Owned w lo hi s cs d) (h1 : lo' ≤ lo) (h2 : hi ≤ hi') : Owned w lo' hi' s cs d := by
 obtain ⟨F, h, h3, h4⟩ := h
 exact ⟨F, h, h3, fun k hk => by have := h4 k hk; omega⟩
theorem Owned.put {g i : Nat} {u : Value} (h : Owned w lo hi s cs d) (hg : g < lo ∨ hi ≤ g) : Owned (w.setCell ⟨g, i, none⟩ u) lo hi s cs d := by
 obtain ⟨F, h, h3, h4⟩ := h
 exact ⟨F, h.keep fun k hk => Below.heap_setCell w _ u k (by have := h4 k hk; show k ≠ g; omega), h3, h4⟩
theorem Owned.cat {mid mid' : Nat} {a b : Sh} {ca cb : List Value} {da : Dat a} {db : Dat b} (h1 : Owned w lo mid a ca da) (h2 : Owned w mid' hi b cb db) (hm : mid ≤ mid') (hl : lo ≤ mid') (hh : mid ≤ hi) : Owned w lo hi (.cat a b) (ca ++ cb) (da, db) := by
 obtain ⟨F, h1, n1, b1⟩ := h1
 obtain ⟨G, h2, n2, b2⟩ := h2
 refine ⟨F ++ G, ⟨ca, cb, F, G, rfl, rfl, h1, h2⟩, List.nodup_append.2 ⟨n1, n2, fun x hx y hy e => ?_⟩, fun k hk => ?_⟩
 ·have := b1 x hx; have := b2 y hy; omega
 ·rcases List.mem_append.1 hk with hk | hk
  ·have := b1 k hk; omega
  ·have := b2 k hk; omega
end
abbrev sI : Sh := .row 2 .num
section
variable {w w' : World} {B : Nat}
theorem rd_ints {v : Value} {xs : List Int} : Rd w B sI [v] xs ↔ ∃ A n c, v = .slice A n c ∧ Seg w B A n xs ∧ Cap A n c := by
 constructor
 ·rintro ⟨A, n, c, e, hc, hl, h⟩
  refine ⟨A, n, c, by injection e, ⟨hl, fun hn => ?_⟩, hc⟩
  obtain ⟨b, off, e2, hb, h2⟩ := h hn
  refine ⟨b, off, e2, hb, fun j hj => ?_⟩
  obtain ⟨es, he, hp, hr⟩ := h2 j hj
  have hr : es = [.int .i64 (xs.getD j 0)] := hr
  have := hp 0 (by rw [hr]; simp)
  rw [hr] at this
  simpa [nc] using this
 ·rintro ⟨A, n, c, rfl, h, hc⟩
  refine ⟨A, n, c, rfl, hc, h.1, fun hn => ?_⟩
  obtain ⟨b, off, e2, hb, h2⟩ := h.2 hn
  refine ⟨b, off, e2, hb, fun j hj => ⟨[.int .i64 (xs.getD j 0)], rfl, fun i hi => ?_, rfl⟩⟩
  have hi : i = 0 := by simpa using hi
  subst hi
  first | (simp [nc]; done) | (simpa [nc] using h2 j hj)
theorem Rd.seg {A : Option Addr} {n c : Nat} {xs : List Int} (h : Rd w B sI [.slice A n c] xs) : Seg w B A n xs := by
 obtain ⟨A', n', c', e, h, _⟩ := rd_ints.1 h
 injection e with e1 e2 e3
 subst e1 e2
 exact h
theorem ow_ints {lo hi : Nat} {A : Option Addr} {n c : Nat} {xs : List Int} : Owned w lo hi sI [.slice A n c] xs ↔ Ownd w lo hi A n c xs := by
 constructor
 ·rintro ⟨F, ⟨A', n', c', e, hl, h⟩, _, hb⟩
  injection e with e
  injection e with e1 e2 e3
  subst e1 e2 e3
  rcases h with ⟨rfl, rfl, rfl, rfl⟩ | ⟨g, cur, E, G, rfl, hr, h2, h3, h4, rfl, h6⟩
  ·have hx : xs = [] := List.eq_nil_of_length_eq_zero hl
   subst hx
   exact ⟨Own.nil _ _, fun k hk => by cases hk⟩
  ·have hg := hb g (List.mem_cons_self ..)
   refine ⟨Own.of_row hr hl (by simpa [nc] using h4) h2 h3 hg.1 fun j hj => ?_, fun k hk => by have : g = k := Option.some.inj hk; omega⟩
   obtain ⟨q1, q2, q3⟩ := h6 j hj
   have q3 : E j = [.int .i64 (xs.getD j 0)] := q3.1
   have := q2 0 (by simp [nc])
   rw [q3] at this
   simpa [nc] using this
 ·rintro ⟨ho, hb⟩
  have hl := Own.len ho
  rcases own_form (n := n) (vs := xs.map (Value.int .i64)) (by rw [hl]; rw [hl] at ho; exact ho) with ⟨rfl, h1, rfl, _⟩ | ⟨g, cur, rfl, hlo, hr, h1, h2, h3, _, h5⟩
  ·subst h1
   exact ⟨[], ⟨none, 0, 0, rfl, hl.symm, .inl ⟨rfl, rfl, rfl, rfl⟩⟩, List.nodup_nil, fun k hk => by cases hk⟩
  ·have hg := hb g rfl
   refine ⟨[g], ⟨some ⟨g, 0, none⟩, n, c, rfl, hl.symm, .inr ⟨g, cur, fun j => [.int .i64 (xs.getD j 0)], fun _ => [], rfl, hr, h1, h3, by simp [nc, h2], ?_, fun j hj => ⟨rfl, fun i hi => ?_, rfl, rfl⟩⟩⟩, by simp, fun k hk => ?_⟩
   ·have : ∀ l : List Nat, l.flatMap (fun _ => ([] : List Nat)) = [] := fun l => by induction l <;> simp_all
    rw [this]
   ·have hi : i = 0 := by simpa [nc] using hi
    subst hi
    have := h5 j hj
    simp only [nc, Nat.mul_one, Nat.add_zero]
    rw [this]
    have hj' : j < xs.length := by omega
    simp [List.getD, hj']
   ·rw [List.mem_singleton.1 hk]; exact ⟨hlo, hg⟩
end
def sz : (s : Sh) → Dat s → Nat
 | .num, _ => 0
 | .bit, _ => 0
 | .row _ s, (d : List (Dat s)) => d.length + (d.map (sz s)).sum
 | .cat a b, d => sz a d.1 + sz b d.2
def szs (s : Sh) (d : List (Dat s)) (k : Nat) : Nat := ((d.take k).map (sz s)).sum
theorem szs_succ {s : Sh} {d : List (Dat s)} {k : Nat} (h : k < d.length) : szs s d (k + 1) = szs s d k + sz s (d.getD k (dft s)) := by
 unfold szs
 rw [List.take_succ_eq_append_getElem h, List.map_append, List.sum_append]
 simp [List.getD, h]
theorem szs_mono {s : Sh} {d : List (Dat s)} : ∀ {k m : Nat}, k ≤ m → m ≤ d.length → szs s d k ≤ szs s d m
 | k, 0, h, _ => by rw [show k = 0 by omega]; exact Nat.le_refl _
 | k, m + 1, h, hm => by
  by_cases e : k = m + 1
  ·rw [e]; exact Nat.le_refl _
  ·have := szs_mono (d := d) (show k ≤ m by omega) (by omega)
   rw [szs_succ (by omega)]
   omega
theorem szs_all {s : Sh} {d : List (Dat s)} {n : Nat} (h : d.length = n) : szs s d n = (d.map (sz s)).sum := by unfold szs; rw [List.take_of_length_le (by omega)]
theorem sz_row {e : TypeId} {s : Sh} {d : List (Dat s)} : sz (.row e s) d = d.length + szs s d d.length := by rw [szs_all rfl]; rfl
theorem sz_each {e : TypeId} {s : Sh} {d : List (Dat s)} {L : Nat} (h : sz (.row e s) d ≤ L) {j : Nat} (hj : j < d.length) : sz s (d.getD j (dft s)) ≤ L := by
 have h1 := szs_succ hj
 have h2 := szs_mono (d := d) (show j + 1 ≤ d.length by omega) (Nat.le_refl _)
 rw [sz_row] at h
 omega
theorem sz_len {e : TypeId} {s : Sh} {d : List (Dat s)} {L : Nat} (h : sz (.row e s) d ≤ L) : d.length ≤ L := by rw [sz_row] at h; omega
theorem sz_ints (xs : List Int) : sz sI xs = xs.length := by
 have : ∀ l : List Int, (l.map (sz .num)).sum = 0 := fun l => by induction l <;> simp_all [sz]
 show xs.length + (xs.map (sz .num)).sum = _
 rw [this]; rfl
def cnt : (s : Sh) → Dat s → Nat
 | .num, _ => 1
 | .bit, _ => 1
 | .row _ s, (d : List (Dat s)) => (d.map (cnt s)).sum
 | .cat a b, d => cnt a d.1 + cnt b d.2
def cnts (s : Sh) (d : List (Dat s)) (k : Nat) : Nat := ((d.take k).map (cnt s)).sum
def mkc : (s : Sh) → Int → Dat s → Dat s
 | .num, k, _ => k
 | .bit, k, _ => decide (k % 3 = 0)
 | .row _ s, k, (d : List (Dat s)) => (List.range d.length).map fun j => mkc s (k + (cnts s d j : Int)) (d.getD j (dft s))
 | .cat a b, k, d => (mkc a k d.1, mkc b (k + (cnt a d.1 : Int)) d.2)
end shape
end
section
namespace shape
open Go.RowKit base ints sig cursor marks app sym appAt segs segsHelp segsMark kinds
structure Only (F : List Nat) (w w' : World) : Prop where
 os : w'.os = w.os
 tape : w'.tape = w.tape
 output : w'.output = w.output
 size : w.heap.size ≤ w'.heap.size
 block : ∀ k, k < w.heap.size → k ∉ F → w'.heap[k]? = w.heap[k]?
section
variable {w w' w2 : World} {B : Nat} {s : Sh} {e : TypeId} {v : Value} {F G : List Nat}
theorem Ow.only {cs : List Value} {d : Dat s} (h : Ow w s cs d F) (ho : Only G w w') (hd : ∀ k ∈ F, k ∉ G) : Ow w' s cs d F := h.keep fun k hk => ho.block k (h.lt k hk) (hd k hk)
theorem Rd.elem {D : List (Dat s)} {j : Nat} (h : Rd w B (.row e s) [v] D) (hj : j < D.length) : ∃ b off n c es, v = .slice (some ⟨b, off, none⟩) n c ∧ D.length = n ∧ n ≤ c ∧ b < B ∧ es.length = nc s ∧ Piece w b (off + j * nc s) es ∧ Rd w B s es (D.getD j (dft s)) := by
 obtain ⟨A, n, c, e1, hc, hl, h1⟩ := h
 injection e1 with e1
 subst hl
 obtain ⟨b, off, e2, hb, h2⟩ := h1 (by omega)
 obtain ⟨es, he, hp, hr⟩ := h2 j hj
 exact ⟨b, off, _, c, es, by rw [e1, e2], rfl, hc.1, hb, he, hp, hr⟩
theorem Rd.slice {D : List (Dat s)} (h : Rd w B (.row e s) [v] D) : ∃ A c, v = .slice A D.length c ∧ Cap A D.length c := by
 obtain ⟨A, n, c, e1, hc, hl, h1⟩ := h
 injection e1 with e1
 subst hl
 exact ⟨A, c, e1, hc⟩
def Copy1 (w : World) (s : Sh) (d : Dat s) (e : Ending) (w' : World) : Prop := ∃ A n c, e = .returned (.slice A n c) ∧ Owned w' w.heap.size w'.heap.size s [.slice A n c] d ∧ Below w.heap.size w w'
def AnsSzK (w : World) (left : Int) (t : Nat) (e : Ending) (w' : World) : Prop := e = .returned (.int .i64 (if left - t < 0 then -1 else left - t)) ∧ Below w.heap.size w w'
def Yes (w : World) (e : Ending) (w' : World) : Prop := e = .returned (.bool true) ∧ Below w.heap.size w w'
theorem szK_ints (v : Value) (xs : List Int) (left : Int) (w : World) (h : Rd w w.heap.size sI [v] xs) (h0 : 0 ≤ left) (h1 : left ≤ 1048576) :
  Calls Try.prog 59 #[v, .int .i64 left] w (AnsSzK w left (sz sI xs)) := by
 obtain ⟨A, n, c, rfl, hs, hc⟩ := rd_ints.1 h
 rw [sz_ints, hs.1]
 exact (szInts A n c left w (Nat.le_trans hc.1 hc.2.1) h0 h1).mono fun _ _ ⟨e1, e2⟩ => ⟨e2, e1 ▸ Below.refl _ _⟩
theorem toK_ints (v : Value) (xs : List Int) (w : World) (h : Rd w w.heap.size sI [v] xs) (hz : sz sI xs ≤ 1048576) :
  Calls Try.prog 12 #[v] w (Copy1 w sI xs) := by
 obtain ⟨A, n, c, rfl, hs, hc⟩ := rd_ints.1 h
 rw [sz_ints, hs.1] at hz
 exact (intsTo A n c xs w hs hz).mono fun _ _ ⟨g, e, ho, _, hb⟩ => ⟨_, _, _, e, ow_ints.2 ho, hb⟩
theorem eqK_ints (v v' : Value) (xs : List Int) (w : World) (h : Rd w w.heap.size sI [v] xs) (h' : Rd w w.heap.size sI [v'] xs) (hz : sz sI xs ≤ 1048576) :
  Calls Try.prog 15 #[v, v'] w (Yes w) := by
 obtain ⟨A, n, c, rfl, hs, hc⟩ := rd_ints.1 h
 obtain ⟨A', n', c', rfl, hs', hc'⟩ := rd_ints.1 h'
 rw [sz_ints, hs.1] at hz
 exact intsEq A A' n n' c c' xs w hs hs' hz
end
section
variable {s : Sh} {e : TypeId}
def HeadCp (w : World) (e : TypeId) (s : Sh) (n : Nat) (D : List (Dat s)) (i : Value) (wr : World) : Prop :=
 ∃ (k : Nat) (cs : Array Value) (E : Nat → List Value) (G : Nat → List Nat), k ≤ n ∧ i = .int .i64 k ∧ Row wr w.heap.size e cs ∧ cs.size = n * nc s ∧ ((List.range k).flatMap G).Nodup ∧
  (∀ j, j < k → (E j).length = nc s ∧ (∀ i, i < nc s → cs[j * nc s + i]? = (E j)[i]?) ∧ Ow wr s (E j) (D.getD j (dft s)) (G j) ∧ ∀ q ∈ G j, w.heap.size < q) ∧ Below w.heap.size w wr
theorem headCp_zero {w : World} {n : Nat} {D : List (Dat s)} {cs : Array Value} (hs : cs.size = n * nc s) : HeadCp w e s n D (.int .i64 0) (w.alloc (.cells cs e)) :=
 ⟨0, cs, fun _ => [], fun _ => [], Nat.zero_le _, rfl, Row.new _ _ _, hs, by simp, fun j hj => absurd hj (Nat.not_lt_zero _), (Below.refl _ _).alloc (Nat.le_refl _) _⟩
def putAll (w : World) (g : Nat) : Nat → List Value → World
 | _, [] => w
 | off, u :: r => putAll (w.setCell ⟨g, off, none⟩ u) g (off + 1) r
def rowPut (cs : Array Value) : Nat → List Value → Array Value
 | _, [] => cs
 | off, u :: r => rowPut (cs.setIfInBounds off u) (off + 1) r
theorem rowPut_size : ∀ {es : List Value} {cs : Array Value} {off : Nat}, (rowPut cs off es).size = cs.size
 | [], _, _ => rfl
 | u :: r, cs, off => by rw [rowPut, rowPut_size]; simp
theorem rowPut_get : ∀ {es : List Value} {cs : Array Value} {off q : Nat}, off + es.length ≤ cs.size → (rowPut cs off es)[q]? = if off ≤ q ∧ q < off + es.length then es[q - off]? else cs[q]?
 | [], cs, off, q, _ => by rw [rowPut, if_neg (by simp only [List.length_nil]; omega)]
 | u :: r, cs, off, q, h => by
  simp only [List.length_cons] at h
  rw [rowPut, rowPut_get (by simp; omega)]
  simp only [List.length_cons]
  by_cases e1 : q = off
  ·subst e1
   rw [if_neg (by omega), if_pos (by omega), Array.getElem?_setIfInBounds, if_pos rfl, if_pos (by omega)]
   simp
  ·by_cases e2 : off ≤ q ∧ q < off + (r.length + 1)
   ·rw [if_pos (by omega), if_pos e2]
    obtain ⟨m, rfl⟩ : ∃ m, q = off + 1 + m := ⟨q - off - 1, by omega⟩
    rw [show off + 1 + m - (off + 1) = m by omega, show off + 1 + m - off = m + 1 by omega, List.getElem?_cons_succ]
   ·rw [if_neg (by omega), if_neg e2, Array.getElem?_setIfInBounds, if_neg (by omega)]
theorem putAll_row {g : Nat} {t : TypeId} : ∀ {es : List Value} {w : World} {cs : Array Value} {off : Nat}, Row w g t cs → Row (putAll w g off es) g t (rowPut cs off es)
 | [], _, _, _, h => h
 | u :: r, w, cs, off, h => by rw [putAll, rowPut]; exact putAll_row (h.put off u)
theorem putAll_keep {g : Nat} : ∀ {es : List Value} {w : World} {off : Nat} {k : Nat}, k ≠ g → (putAll w g off es).heap[k]? = w.heap[k]?
 | [], _, _, _, _ => rfl
 | u :: r, w, off, k, h => by rw [putAll, putAll_keep h]; exact Below.heap_setCell w _ u k h
theorem putAll_below {g B : Nat} {a : World} : ∀ {es : List Value} {w : World} {off : Nat}, Below B a w → B ≤ g → Below B a (putAll w g off es)
 | [], _, _, h, _ => h
 | u :: r, w, off, h, hg => by rw [putAll]; exact putAll_below (h.setCell hg u) hg
theorem headCp_step {w wr w1 : World} {n k : Nat} {D : List (Dat s)} {cs : Array Value} {E : Nat → List Value} {G : Nat → List Nat} (hk : k < n) (hr : Row wr w.heap.size e cs) (hs : cs.size = n * nc s) (hn : ((List.range k).flatMap G).Nodup)
  (hi : ∀ j, j < k → (E j).length = nc s ∧ (∀ i, i < nc s → cs[j * nc s + i]? = (E j)[i]?) ∧ Ow wr s (E j) (D.getD j (dft s)) (G j) ∧ ∀ q ∈ G j, w.heap.size < q) (hb : Below w.heap.size w wr)
  {es : List Value} (ho : Owned w1 wr.heap.size w1.heap.size s es (D.getD k (dft s))) (bb : Below wr.heap.size wr w1) : HeadCp w e s n D (.int .i64 ((k : Int) + 1)) (putAll w1 w.heap.size (k * nc s) es) := by
 obtain ⟨F, ho, hnF, hF⟩ := ho
 have hz := hr.lt
 have hle : k * nc s + nc s ≤ cs.size := by
  have := Nat.mul_le_mul_right (nc s) (show k + 1 ≤ n by omega)
  rw [Nat.add_mul] at this
  omega
 have hel := ho.len
 have hfr : ∀ j, j < k → ∀ q ∈ G j, q < wr.heap.size := fun j hj => (hi j hj).2.2.1.lt
 refine ⟨k + 1, _, fun j => if j = k then es else E j, fun j => if j = k then F else G j, hk, by simp, putAll_row (hr.next bb), by rw [rowPut_size]; exact hs, ?_, fun j hj => ?_, putAll_below (hb.trans (bb.mono hb.size)) (Nat.le_refl _)⟩
 ·rw [List.range_succ, List.flatMap_append]
  have e1 : (List.range k).flatMap (fun j => if j = k then F else G j) = (List.range k).flatMap G := by
   rw [List.flatMap_def, List.flatMap_def]
   congr 1
   exact List.map_congr_left fun j hj => if_neg (by have := List.mem_range.1 hj; omega)
  rw [e1]
  refine List.nodup_append.2 ⟨hn, by simpa using hnF, fun x hx y hy e => ?_⟩
  obtain ⟨j, hj, hx⟩ := List.mem_flatMap.1 hx
  have h1 := hfr j (List.mem_range.1 hj) x hx
  have h2 := hF y (by simpa using hy)
  omega
 ·by_cases ej : j = k
  ·subst ej
   simp only [if_pos]
   refine ⟨hel, fun i hi2 => ?_, ho.keep fun q hq => putAll_keep (by have := hF q hq; omega), fun q hq => by have := hF q hq; omega⟩
   rw [rowPut_get (by omega), if_pos (by omega)]
   congr 1
   omega
  ·simp only [if_neg ej]
   obtain ⟨q1, q2, q3, q4⟩ := hi j (by omega)
   refine ⟨q1, fun i hi2 => ?_, (q3.next bb).keep fun q hq => putAll_keep (by have := q4 q hq; omega), q4⟩
   rw [rowPut_get (by omega), if_neg ?_]
   ·exact q2 i hi2
   ·have := Nat.mul_le_mul_right (nc s) (show j + 1 ≤ k by omega)
    rw [Nat.add_mul] at this
    omega
theorem headCp_end {w wr : World} {n : Nat} {D : List (Dat s)} {cs : Array Value} {E : Nat → List Value} {G : Nat → List Nat} (hl : D.length = n) (hm : n ≤ 1048576) (hr : Row wr w.heap.size e cs) (hs : cs.size = n * nc s) (hn : ((List.range n).flatMap G).Nodup)
  (hi : ∀ j, j < n → (E j).length = nc s ∧ (∀ i, i < nc s → cs[j * nc s + i]? = (E j)[i]?) ∧ Ow wr s (E j) (D.getD j (dft s)) (G j) ∧ ∀ q ∈ G j, w.heap.size < q) (hb : Below w.heap.size w wr) :
  Copy1 w (.row e s) D (.returned (.slice (some ⟨w.heap.size, 0, none⟩) n n)) wr := by
 refine ⟨_, _, _, rfl, ⟨w.heap.size :: (List.range n).flatMap G, ⟨_, n, n, rfl, hl, .inr ⟨w.heap.size, cs, E, G, rfl, hr, Nat.le_refl _, by omega, hs, rfl, fun j hj => ⟨(hi j hj).1, (hi j hj).2.1, (hi j hj).2.2.1⟩⟩⟩, List.nodup_cons.2 ⟨fun h => ?_, hn⟩, fun k hk => ?_⟩, hb⟩
 ·obtain ⟨j, hj, h⟩ := List.mem_flatMap.1 h
  have := (hi j (List.mem_range.1 hj)).2.2.2 _ h
  omega
 ·rcases List.mem_cons.1 hk with hk | hk
  ·rw [hk]; exact ⟨Nat.le_refl _, hr.lt⟩
  ·obtain ⟨j, hj, h⟩ := List.mem_flatMap.1 hk
   have h1 := (hi j (List.mem_range.1 hj)).2.2.2 _ h
   have h2 := (hi j (List.mem_range.1 hj)).2.2.1.lt _ h
   omega
def mixed (s : Sh) (k : Int) (D : List (Dat s)) (j : Nat) : List (Dat s) := (List.range D.length).map fun q => if q < j then mkc s (k + (cnts s D q : Int)) (D.getD q (dft s)) else D.getD q (dft s)
end
theorem Rd.split {w : World} {B : Nat} {a b : Sh} {ca cb : List Value} {d : Dat (.cat a b)} (h : Rd w B (.cat a b) (ca ++ cb) d) (hl : ca.length = nc a) : Rd w B a ca d.1 ∧ Rd w B b cb d.2 := by
 obtain ⟨ca', cb', e, h1, h2⟩ := h
 obtain ⟨rfl, rfl⟩ := List.append_inj e (by rw [hl, h1.len])
 exact ⟨h1, h2⟩
theorem Ow.split {w : World} {a b : Sh} {ca cb : List Value} {d : Dat (.cat a b)} {F : List Nat} (h : Ow w (.cat a b) (ca ++ cb) d F) (hl : ca.length = nc a) : ∃ Fa Fb, F = Fa ++ Fb ∧ Ow w a ca d.1 Fa ∧ Ow w b cb d.2 Fb := by
 obtain ⟨ca', cb', Fa, Fb, e, e2, h1, h2⟩ := h
 obtain ⟨rfl, rfl⟩ := List.append_inj e (by rw [hl, h1.len])
 exact ⟨Fa, Fb, e2, h1, h2⟩
theorem Row.only {w w' : World} {g : Nat} {t : TypeId} {cs : Array Value} {F : List Nat} (h : Row w g t cs) (ho : Only F w w') (hg : g ∉ F) : Row w' g t cs := (ho.block g h.lt hg).trans h
section
variable {s : Sh} {e : TypeId}
def HeadSzK (w : World) (n : Nat) (s : Sh) (D : List (Dat s)) (left : Int) (l i : Value) (wr : World) : Prop := ∃ k : Nat, k ≤ n ∧ i = .int .i64 k ∧ l = .int .i64 (left - n - szs s D k) ∧ 0 ≤ left - n - szs s D k ∧ Below w.heap.size w wr
theorem headSzK_zero {w : World} {n : Nat} {D : List (Dat s)} {left : Int} (h : 0 ≤ left - n) : HeadSzK w n s D left (.int .i64 (left - n)) (.int .i64 0) w := ⟨0, Nat.zero_le _, rfl, by simp [szs], by simp [szs]; omega, Below.refl _ _⟩
theorem headSzK_bad {n k t : Nat} {D : List (Dat s)} {left : Int} (hn : D.length = n) (hk : k < n) (hs : szs s D (k + 1) = szs s D k + t) (q : left - n - szs s D k - t < 0) : Ending.returned (.int .i64 (-1)) = .returned (.int .i64 (if left - (sz (.row e s) D : Nat) < 0 then -1 else left - (sz (.row e s) D : Nat))) := by
 have h2 := szs_mono (d := D) (show k + 1 ≤ D.length by omega) (Nat.le_refl _)
 rw [if_pos (by rw [sz_row]; omega)]
theorem headSzK_step {w w1 : World} {n k t : Nat} {D : List (Dat s)} {left l : Int} (hk : k < n) (hs : szs s D (k + 1) = szs s D k + t) (hl : left - n - szs s D k = l) (q : ¬ l - t < 0) (hb : Below w.heap.size w w1) : HeadSzK w n s D left (.int .i64 (l - t)) (.int .i64 ((k : Int) + 1)) w1 :=
 ⟨k + 1, hk, by simp, by rw [hs, ← hl]; exact congrArg (Value.int .i64) (by omega), by rw [hs]; omega, hb⟩
theorem headSzK_end {w wr : World} {n k : Nat} {D : List (Dat s)} {left : Int} (hn : D.length = n) (hk : ¬ k < n) (hk' : k ≤ n) (h : 0 ≤ left - n - szs s D k) (hb : Below w.heap.size w wr) : AnsSzK w left (sz (.row e s) D) (.returned (.int .i64 (left - n - szs s D k))) wr := by
 have e1 : k = n := by omega
 subst e1
 have e2 : (left - (sz (.row e s) D : Nat) : Int) = left - k - szs s D k := by rw [sz_row, hn]; omega
 exact ⟨by rw [e2, if_neg (by omega)], hb⟩
end
structure CpS (w : World) (tL tI : TypeId) (cs zs part : Array Value) (wr : World) : Prop where
 box : Row wr w.heap.size tL cs
 res : Row wr (w.heap.size + 1) tI zs
 cur : Row wr (w.heap.size + 1 + 1) tI part
 bel : Below w.heap.size w wr
 size : w.heap.size + 1 + 1 + 1 ≤ wr.heap.size
section
variable {w wr w1 : World} {tL tI : TypeId} {cs zs part : Array Value}
theorem CpS.zero (w : World) (tL tI : TypeId) (cs zs : Array Value) : CpS w tL tI cs zs zs (((w.alloc (.cells cs tL)).alloc (.cells zs tI)).alloc (.cells zs tI)) where
 box := by have := ((Row.new w tL cs).alloc (.cells zs tI)).alloc (.cells zs tI); simpa using this
 res := by have := (Row.new (w.alloc (.cells cs tL)) tI zs).alloc (.cells zs tI); simpa using this
 cur := by have := Row.new ((w.alloc (.cells cs tL)).alloc (.cells zs tI)) tI zs; simpa using this
 bel := (((Below.refl _ _).alloc (Nat.le_refl _) _).alloc (by simp) _).alloc (by simp; omega) _
 size := by simp
theorem CpS.next (h : CpS w tL tI cs zs part wr) (bb : Below wr.heap.size wr w1) : CpS w tL tI cs zs part w1 :=
 ⟨h.box.next bb, h.res.next bb, h.cur.next bb, h.bel.trans (bb.mono h.bel.size), Nat.le_trans h.size bb.size⟩
theorem CpS.put (h : CpS w tL tI cs zs part wr) (i : Nat) (u : Value) : CpS w tL tI cs zs (part.setIfInBounds i u) (wr.setCell ⟨w.heap.size + 1 + 1, i, none⟩ u) :=
 ⟨h.box.far (by show _ ≠ w.heap.size + 1 + 1; omega) _, h.res.far (by show _ ≠ w.heap.size + 1 + 1; omega) _, h.cur.put i u, h.bel.setCell (by show _ ≤ w.heap.size + 1 + 1; omega) _, by simpa using h.size⟩
theorem CpS.fin (h : CpS w tL tI cs zs part wr) (i : Nat) (u : Value) : CpS w tL tI cs (zs.setIfInBounds i u) part (wr.setCell ⟨w.heap.size + 1, i, none⟩ u) :=
 ⟨h.box.far (by show _ ≠ w.heap.size + 1; omega) _, h.res.put i u, h.cur.far (by show _ ≠ w.heap.size + 1; omega) _, h.bel.setCell (by show _ ≤ w.heap.size + 1; omega) _, by simpa using h.size⟩
end
end shape
end
section
open Go.Lib (hid)
namespace kindsR
open Go.RowKit base ints sig cursor marks app sym appAt segs segsHelp segsMark kinds shape
set_option maxRecDepth 100000
abbrev sSig : Sh := sI
theorem cells_Sig {w : World} {B : Nat} {es : List Value} {d : Dat sSig} (h : Rd w B sSig es d) : ∃ (v0 : Value), es = [v0] := by
 obtain ⟨A0, n0, c0, z0, -⟩ := h
 exact ⟨.slice A0 n0 c0, by rw [z0] <;> rfl⟩
set_option maxHeartbeats 2000000 in
theorem szK_Sig (v0 : Value) (d : Dat sSig) (left : Int) (w : World) (h : Rd w w.heap.size sSig [v0] d) (h0 : 0 ≤ left) (h1 : left ≤ 1048576) :
  Calls Try.prog 32 #[.agg #[v0], .int .i64 left] w (AnsSzK w left (sz sSig d)) := by
 have g0 := h
 obtain ⟨t0, ht0⟩ : ∃ t, sz sI d = t := ⟨_, rfl⟩
 have HE : Hid (sz sSig d = t0) := hid (by rw [← ht0]; try rfl)
 have HT0 := hid ht0
 have G0 := hid g0
 obtain ⟨W, hW⟩ : ∃ W, W = w.alloc (.cells #[v0] 24) := ⟨_, rfl⟩
 have r : Row W w.heap.size 24 #[v0] := by rw [hW]; exact Row.new _ _ _
 have bel : Below w.heap.size w W := by rw [hW]; exact (Below.refl _ _).alloc (Nat.le_refl _) _
 have HW := hid hW
 clear hW h g0 ht0
 go_enter Try.func32, Try.ntmps32
 go_wp2_with fail
 rw [← HW.out]
 refine (szK_ints _ _ left W (G0.out.next bel) h0 h1).mono ?_
 rintro e w1 ⟨he, bb⟩
 rw [HT0.out] at he
 replace r := r.next bb
 replace bel := next_trans bel bb
 clear bb
 by_cases q0 : left - (t0 : Int) < 0
 ·rw [if_pos q0] at he
  subst he
  have F : AnsSzK w left (sz sSig d) (.returned (.int .i64 (-1))) w1 := ⟨by rw [HE.out, if_pos (by omega)], bel⟩
  have HF := hid F
  clear F bel r
  go_wp2
  go_ret
  exact HF.out
 rw [if_neg q0] at he
 obtain ⟨l0, hl0⟩ : ∃ l, left - (t0 : Int) = l := ⟨_, rfl⟩
 rw [hl0] at he
 have a0 : 0 ≤ l0 := by omega
 have b0 : l0 ≤ 1048576 := by omega
 have HL0 := hid hl0
 clear hl0 q0
 subst he
 have F : AnsSzK w left (sz sSig d) (.returned (.int .i64 l0)) w1 := ⟨by have := HL0.out; rw [HE.out, if_neg (by omega)]; exact congrArg (fun z => Ending.returned (.int .i64 z)) (by omega), bel⟩
 have HF := hid F
 clear F bel r
 go_wp2
 go_ret
 exact HF.out
def CopySig (w : World) (d : Dat sSig) (e : Ending) (w' : World) : Prop := ∃ A0 n0 c0, e = .returned (.agg #[.slice A0 n0 c0]) ∧ Owned w' w.heap.size w'.heap.size sSig [.slice A0 n0 c0] d ∧ Below w.heap.size w w'
set_option maxHeartbeats 2000000 in
theorem toK_Sig (v0 : Value) (d : Dat sSig) (w : World) (h : Rd w w.heap.size sSig [v0] d) (hz : sz sSig d ≤ 1048576) :
  Calls Try.prog 37 #[.agg #[v0]] w (CopySig w d) := by
 have g0 := h
 have cp0 := CpS.zero w 24 31 #[v0] #[.slice none 0 0]
 obtain ⟨W, hW⟩ : ∃ W, W = ((w.alloc (.cells #[v0] 24)).alloc (.cells #[.slice none 0 0] 31)).alloc (.cells #[.slice none 0 0] 31) := ⟨_, rfl⟩
 rw [← hW] at cp0
 have HW := hid hW
 have G0 := hid g0
 have Z0 : Hid (sz sI d ≤ 1048576) := hid (hz)
 clear hW hz h g0
 go_enter Try.func37, Try.ntmps37
 go_wp2_with fail
 rw [← HW.out]
 refine (toK_ints _ _ _ ((G0.out.below cp0.bel).more cp0.bel.size) Z0.out).mono ?_
 rintro e w1 ⟨x0A0, x0n0, x0c0, rfl, o0, bb⟩
 have zb0 := bb.size
 have zc0 := cp0.size
 replace cp0 := cp0.next bb
 clear bb
 have f0_0 : w1.frozen? ⟨w.heap.size + 1 + 1, 0, none⟩ = false := cp0.cur.free 0
 have k0_0 : w1.cell? ⟨w.heap.size + 1 + 1, 0, none⟩ = some (.slice none 0 0) := cp0.cur.cell 0
 obtain ⟨w2, hw0⟩ : ∃ x, x = (w1.setCell ⟨w.heap.size + 1 + 1, 0, none⟩ (.slice x0A0 x0n0 x0c0)) := ⟨_, rfl⟩
 replace o0 := o0.put (g := w.heap.size + 1 + 1) (i := 0) (u := .slice x0A0 x0n0 x0c0) (by omega)
 rw [← hw0] at o0
 replace cp0 : CpS w 24 31 #[v0] #[.slice none 0 0] #[.slice x0A0 x0n0 x0c0] w2 := by rw [hw0]; exact (CpS.put cp0 0 (.slice x0A0 x0n0 x0c0))
 have zw0 : w2.heap.size = w1.heap.size := by rw [hw0]; simp
 have HW0 := hid hw0
 clear hw0
 have y0 : w2.cell? ⟨w.heap.size + 1 + 1, 0, none⟩ = some (.slice x0A0 x0n0 x0c0) := cp0.cur.cell 0
 rw [HW0.out] at y0
 have s0 : (w2).cell? ⟨w.heap.size + 1, 0, none⟩ = some (.slice none 0 0) := cp0.res.cell 0
 rw [HW0.out] at s0
 have r0 : (w2).frozen? ⟨w.heap.size + 1, 0, none⟩ = false := cp0.res.free 0
 rw [HW0.out] at r0
 have oo : Owned w2 (w.heap.size + 1 + 1 + 1) w2.heap.size sSig [.slice x0A0 x0n0 x0c0] d := o0.wider (by omega) (by omega)
 have F : CopySig w d (.returned (.agg #[.slice x0A0 x0n0 x0c0])) (w2.setCell ⟨w.heap.size + 1, 0, none⟩ (.slice x0A0 x0n0 x0c0)) := ⟨x0A0, x0n0, x0c0, rfl, Owned.wider ((oo.put (g := w.heap.size + 1) (i := 0) (u := .slice x0A0 x0n0 x0c0) (by omega))) (by omega) (by simp), ((CpS.fin cp0 0 (.slice x0A0 x0n0 x0c0))).bel⟩
 have u0 : ((w2.setCell ⟨w.heap.size + 1, 0, none⟩ (.slice x0A0 x0n0 x0c0))).cell? ⟨w.heap.size + 1, 0, none⟩ = some (.slice x0A0 x0n0 x0c0) := (CpS.fin cp0 0 (.slice x0A0 x0n0 x0c0)).res.cell 0
 rw [HW0.out] at u0
 rw [HW0.out] at F
 have HF := hid F
 clear F oo cp0 o0
 go_wp2
 exact bodyPost_ret (v := .agg #[.slice x0A0 x0n0 x0c0]) (by simp [results, Try.results37, go_sem, u0]) rfl HF.out
set_option maxHeartbeats 2000000 in
theorem eqK_Sig (v0 u0 : Value) (d : Dat sSig) (w : World) (h : Rd w w.heap.size sSig [v0] d) (h' : Rd w w.heap.size sSig [u0] d) (hz : sz sSig d ≤ 1048576) :
  Calls Try.prog 41 #[.agg #[v0], .agg #[u0]] w (Yes w) := by
 have g0 := h
 have g0' := h'
 obtain ⟨W, hW⟩ : ∃ W, W = (w.alloc (.cells #[v0] 31)).alloc (.cells #[u0] 31) := ⟨_, rfl⟩
 have ra : Row W w.heap.size 31 #[v0] := by rw [hW]; exact (Row.new w 31 #[v0]).alloc _
 have rb : Row W (w.heap.size + 1) 31 #[u0] := by rw [hW]; have := Row.new (w.alloc (.cells #[v0] 31)) 31 #[u0]; simpa using this
 have bel : Below w.heap.size w W := by rw [hW]; exact ((Below.refl _ _).alloc (Nat.le_refl _) _).alloc (by simp) _
 have HW := hid hW
 have G0 := hid g0
 have G0' := hid g0'
 have Z0 : Hid (sz sI d ≤ 1048576) := hid (hz)
 clear hW hz h h' g0 g0'
 go_enter Try.func41, Try.ntmps41
 go_wp2_with fail
 rw [← HW.out]
 refine (eqK_ints _ _ _ W (G0.out.next bel) (G0'.out.next bel) Z0.out).mono ?_
 rintro e w1 ⟨rfl, bb⟩
 replace ra := ra.next bb
 replace rb := rb.next bb
 replace bel := next_trans bel bb
 clear bb
 have F : Yes w (.returned (.bool true)) w1 := ⟨rfl, bel⟩
 have HF := hid F
 clear F ra rb bel
 go_wp2
 go_ret
 exact HF.out
abbrev sRule : Sh := .cat sI sI
theorem parts_Rule {w : World} {B : Nat} {v0 v1 : Value} {d : Dat sRule} (h : Rd w B sRule [v0, v1] d) : Rd w B sI [v0] d.1 ∧ Rd w B sI [v1] d.2 := by
 obtain ⟨p0, q0⟩ := Rd.split (ca := [v0]) (cb := [v1]) h rfl
 exact ⟨p0, q0⟩
theorem join_Rule {w : World} {lo hi : Nat} {v0 v1 : Value} {d : Dat sRule} {m0 m1 m2 : Nat} (o0 : Owned w m0 m1 sI [v0] d.1) (o1 : Owned w m1 m2 sI [v1] d.2) (l0 : m0 ≤ m1) (l1 : m1 ≤ m2) (hl : lo ≤ m0) (hh : m2 ≤ hi) : Owned w lo hi sRule [v0, v1] d := by
 exact ((Owned.cat o0 o1 (Nat.le_refl _) (by omega) (by omega)) : Owned w m0 m2 sRule [v0, v1] d).wider hl hh
theorem cells_Rule {w : World} {B : Nat} {es : List Value} {d : Dat sRule} (h : Rd w B sRule es d) : ∃ (v0 : Value) (v1 : Value), es = [v0, v1] := by
 obtain ⟨ca0, cb0, e0, p0, q0⟩ := h
 obtain ⟨A0, n0, c0, z0, -⟩ := p0
 obtain ⟨A1, n1, c1, z1, -⟩ := q0
 exact ⟨.slice A0 n0 c0, .slice A1 n1 c1, by rw [e0, z0, z1] <;> rfl⟩
set_option maxHeartbeats 2000000 in
theorem szK_Rule (v0 v1 : Value) (d : Dat sRule) (left : Int) (w : World) (h : Rd w w.heap.size sRule [v0, v1] d) (h0 : 0 ≤ left) (h1 : left ≤ 1048576) :
  Calls Try.prog 60 #[.agg #[v0, v1], .int .i64 left] w (AnsSzK w left (sz sRule d)) := by
 obtain ⟨g0, g1⟩ := parts_Rule h
 obtain ⟨t0, ht0⟩ : ∃ t, sz sI d.1 = t := ⟨_, rfl⟩
 obtain ⟨t1, ht1⟩ : ∃ t, sz sI d.2 = t := ⟨_, rfl⟩
 have HE : Hid (sz sRule d = t0 + t1) := hid (by rw [← ht0, ← ht1]; simp only [sz]; try omega)
 have HT0 := hid ht0
 have G0 := hid g0
 have HT1 := hid ht1
 have G1 := hid g1
 obtain ⟨W, hW⟩ : ∃ W, W = w.alloc (.cells #[v0, v1] 100) := ⟨_, rfl⟩
 have r : Row W w.heap.size 100 #[v0, v1] := by rw [hW]; exact Row.new _ _ _
 have bel : Below w.heap.size w W := by rw [hW]; exact (Below.refl _ _).alloc (Nat.le_refl _) _
 have HW := hid hW
 clear hW h g0 g1 ht0 ht1
 go_enter Try.func60, Try.ntmps60
 go_wp2_with fail
 rw [← HW.out]
 refine (szK_ints _ _ left W (G0.out.next bel) h0 h1).mono ?_
 rintro e w1 ⟨he, bb⟩
 rw [HT0.out] at he
 replace r := r.next bb
 replace bel := next_trans bel bb
 clear bb
 by_cases q0 : left - (t0 : Int) < 0
 ·rw [if_pos q0] at he
  subst he
  have F : AnsSzK w left (sz sRule d) (.returned (.int .i64 (-1))) w1 := ⟨by rw [HE.out, if_pos (by omega)], bel⟩
  have HF := hid F
  clear F bel r
  go_wp2
  go_ret
  exact HF.out
 rw [if_neg q0] at he
 obtain ⟨l0, hl0⟩ : ∃ l, left - (t0 : Int) = l := ⟨_, rfl⟩
 rw [hl0] at he
 have a0 : 0 ≤ l0 := by omega
 have b0 : l0 ≤ 1048576 := by omega
 have HL0 := hid hl0
 clear hl0 q0
 subst he
 have c0_0 : w1.cell? ⟨w.heap.size, 1, none⟩ = some (v1) := r.cell 1
 go_wp2_with fail
 refine (szK_ints _ _ l0 w1 (G1.out.next bel) a0 b0).mono ?_
 rintro e w2 ⟨he, bb⟩
 rw [HT1.out] at he
 replace r := r.next bb
 replace bel := next_trans bel bb
 clear bb
 by_cases q1 : l0 - (t1 : Int) < 0
 ·rw [if_pos q1] at he
  subst he
  have F : AnsSzK w left (sz sRule d) (.returned (.int .i64 (-1))) w2 := ⟨by have := HL0.out; rw [HE.out, if_pos (by omega)], bel⟩
  have HF := hid F
  clear F bel r
  go_wp2
  go_ret
  exact HF.out
 rw [if_neg q1] at he
 obtain ⟨l1, hl1⟩ : ∃ l, l0 - (t1 : Int) = l := ⟨_, rfl⟩
 rw [hl1] at he
 have a1 : 0 ≤ l1 := by omega
 have b1 : l1 ≤ 1048576 := by omega
 have HL1 := hid hl1
 clear hl1 q1
 subst he
 have F : AnsSzK w left (sz sRule d) (.returned (.int .i64 l1)) w2 := ⟨by have := HL0.out; have := HL1.out; rw [HE.out, if_neg (by omega)]; exact congrArg (fun z => Ending.returned (.int .i64 z)) (by omega), bel⟩
 have HF := hid F
 clear F bel r
 go_wp2
 go_ret
 exact HF.out
def CopyRule (w : World) (d : Dat sRule) (e : Ending) (w' : World) : Prop := ∃ A0 n0 c0 A1 n1 c1, e = .returned (.agg #[.slice A0 n0 c0, .slice A1 n1 c1]) ∧ Owned w' w.heap.size w'.heap.size sRule [.slice A0 n0 c0, .slice A1 n1 c1] d ∧ Below w.heap.size w w'
set_option maxHeartbeats 2000000 in
theorem toK_Rule (v0 v1 : Value) (d : Dat sRule) (w : World) (h : Rd w w.heap.size sRule [v0, v1] d) (hz : sz sRule d ≤ 1048576) :
  Calls Try.prog 67 #[.agg #[v0, v1]] w (CopyRule w d) := by
 obtain ⟨g0, g1⟩ := parts_Rule h
 have cp0 := CpS.zero w 100 109 #[v0, v1] #[.slice none 0 0, .slice none 0 0]
 obtain ⟨W, hW⟩ : ∃ W, W = ((w.alloc (.cells #[v0, v1] 100)).alloc (.cells #[.slice none 0 0, .slice none 0 0] 109)).alloc (.cells #[.slice none 0 0, .slice none 0 0] 109) := ⟨_, rfl⟩
 rw [← hW] at cp0
 have HW := hid hW
 have G0 := hid g0
 have Z0 : Hid (sz sI d.1 ≤ 1048576) := hid (by have := hz; simp only [sz] at this ⊢; omega)
 have G1 := hid g1
 have Z1 : Hid (sz sI d.2 ≤ 1048576) := hid (by have := hz; simp only [sz] at this ⊢; omega)
 clear hW hz h g0 g1
 go_enter Try.func67, Try.ntmps67
 go_wp2_with fail
 rw [← HW.out]
 refine (toK_ints _ _ _ ((G0.out.below cp0.bel).more cp0.bel.size) Z0.out).mono ?_
 rintro e w1 ⟨x0A0, x0n0, x0c0, rfl, o0, bb⟩
 have zb0 := bb.size
 have zc0 := cp0.size
 replace cp0 := cp0.next bb
 clear bb
 have f0_0 : w1.frozen? ⟨w.heap.size + 1 + 1, 0, none⟩ = false := cp0.cur.free 0
 have k0_0 : w1.cell? ⟨w.heap.size + 1 + 1, 0, none⟩ = some (.slice none 0 0) := cp0.cur.cell 0
 obtain ⟨w2, hw0⟩ : ∃ x, x = (w1.setCell ⟨w.heap.size + 1 + 1, 0, none⟩ (.slice x0A0 x0n0 x0c0)) := ⟨_, rfl⟩
 replace o0 := o0.put (g := w.heap.size + 1 + 1) (i := 0) (u := .slice x0A0 x0n0 x0c0) (by omega)
 rw [← hw0] at o0
 replace cp0 : CpS w 100 109 #[v0, v1] #[.slice none 0 0, .slice none 0 0] #[.slice x0A0 x0n0 x0c0, .slice none 0 0] w2 := by rw [hw0]; exact (CpS.put cp0 0 (.slice x0A0 x0n0 x0c0))
 have zw0 : w2.heap.size = w1.heap.size := by rw [hw0]; simp
 have HW0 := hid hw0
 clear hw0
 have d1_0 : w2.cell? ⟨w.heap.size, 1, none⟩ = some (v1) := cp0.box.cell 1
 rw [HW0.out] at d1_0
 go_wp2_with fail
 rw [← HW0.out]
 clear d1_0
 refine (toK_ints _ _ _ ((G1.out.below cp0.bel).more cp0.bel.size) Z1.out).mono ?_
 rintro e w3 ⟨x1A0, x1n0, x1c0, rfl, o1, bb⟩
 replace o0 := o0.next bb
 have zb1 := bb.size
 have zc1 := cp0.size
 replace cp0 := cp0.next bb
 clear bb
 have f1_0 : w3.frozen? ⟨w.heap.size + 1 + 1, 1, none⟩ = false := cp0.cur.free 1
 have k1_0 : w3.cell? ⟨w.heap.size + 1 + 1, 1, none⟩ = some (.slice none 0 0) := cp0.cur.cell 1
 obtain ⟨w4, hw1⟩ : ∃ x, x = (w3.setCell ⟨w.heap.size + 1 + 1, 1, none⟩ (.slice x1A0 x1n0 x1c0)) := ⟨_, rfl⟩
 replace o0 := o0.put (g := w.heap.size + 1 + 1) (i := 1) (u := .slice x1A0 x1n0 x1c0) (by omega)
 rw [← hw1] at o0
 replace o1 := o1.put (g := w.heap.size + 1 + 1) (i := 1) (u := .slice x1A0 x1n0 x1c0) (by omega)
 rw [← hw1] at o1
 replace cp0 : CpS w 100 109 #[v0, v1] #[.slice none 0 0, .slice none 0 0] #[.slice x0A0 x0n0 x0c0, .slice x1A0 x1n0 x1c0] w4 := by rw [hw1]; exact (CpS.put cp0 1 (.slice x1A0 x1n0 x1c0))
 have zw1 : w4.heap.size = w3.heap.size := by rw [hw1]; simp
 have HW1 := hid hw1
 clear hw1
 have y0 : w4.cell? ⟨w.heap.size + 1 + 1, 0, none⟩ = some (.slice x0A0 x0n0 x0c0) := cp0.cur.cell 0
 rw [HW1.out] at y0
 have y1 : w4.cell? ⟨w.heap.size + 1 + 1, 1, none⟩ = some (.slice x1A0 x1n0 x1c0) := cp0.cur.cell 1
 rw [HW1.out] at y1
 have s0 : (w4).cell? ⟨w.heap.size + 1, 0, none⟩ = some (.slice none 0 0) := cp0.res.cell 0
 rw [HW1.out] at s0
 have r0 : (w4).frozen? ⟨w.heap.size + 1, 0, none⟩ = false := cp0.res.free 0
 rw [HW1.out] at r0
 have s1 : ((w4.setCell ⟨w.heap.size + 1, 0, none⟩ (.slice x0A0 x0n0 x0c0))).cell? ⟨w.heap.size + 1, 1, none⟩ = some (.slice none 0 0) := (CpS.fin cp0 0 (.slice x0A0 x0n0 x0c0)).res.cell 1
 rw [HW1.out] at s1
 have r1 : ((w4.setCell ⟨w.heap.size + 1, 0, none⟩ (.slice x0A0 x0n0 x0c0))).frozen? ⟨w.heap.size + 1, 1, none⟩ = false := (CpS.fin cp0 0 (.slice x0A0 x0n0 x0c0)).res.free 1
 rw [HW1.out] at r1
 have oo : Owned w4 (w.heap.size + 1 + 1 + 1) w4.heap.size sRule [.slice x0A0 x0n0 x0c0, .slice x1A0 x1n0 x1c0] d := join_Rule (m0 := W.heap.size) (m1 := w2.heap.size) (m2 := w4.heap.size) (o0.wider (Nat.le_refl _) (by omega)) (o1.wider (Nat.le_refl _) (by omega)) (by omega) (by omega) (by omega) (by omega)
 have F : CopyRule w d (.returned (.agg #[.slice x0A0 x0n0 x0c0, .slice x1A0 x1n0 x1c0])) ((w4.setCell ⟨w.heap.size + 1, 0, none⟩ (.slice x0A0 x0n0 x0c0)).setCell ⟨w.heap.size + 1, 1, none⟩ (.slice x1A0 x1n0 x1c0)) := ⟨x0A0, x0n0, x0c0, x1A0, x1n0, x1c0, rfl, Owned.wider (((oo.put (g := w.heap.size + 1) (i := 0) (u := .slice x0A0 x0n0 x0c0) (by omega)).put (g := w.heap.size + 1) (i := 1) (u := .slice x1A0 x1n0 x1c0) (by omega))) (by omega) (by simp), ((CpS.fin (CpS.fin cp0 0 (.slice x0A0 x0n0 x0c0)) 1 (.slice x1A0 x1n0 x1c0))).bel⟩
 have u0 : (((w4.setCell ⟨w.heap.size + 1, 0, none⟩ (.slice x0A0 x0n0 x0c0)).setCell ⟨w.heap.size + 1, 1, none⟩ (.slice x1A0 x1n0 x1c0))).cell? ⟨w.heap.size + 1, 0, none⟩ = some (.slice x0A0 x0n0 x0c0) := (CpS.fin (CpS.fin cp0 0 (.slice x0A0 x0n0 x0c0)) 1 (.slice x1A0 x1n0 x1c0)).res.cell 0
 rw [HW1.out] at u0
 have u1 : (((w4.setCell ⟨w.heap.size + 1, 0, none⟩ (.slice x0A0 x0n0 x0c0)).setCell ⟨w.heap.size + 1, 1, none⟩ (.slice x1A0 x1n0 x1c0))).cell? ⟨w.heap.size + 1, 1, none⟩ = some (.slice x1A0 x1n0 x1c0) := (CpS.fin (CpS.fin cp0 0 (.slice x0A0 x0n0 x0c0)) 1 (.slice x1A0 x1n0 x1c0)).res.cell 1
 rw [HW1.out] at u1
 rw [HW1.out] at F
 have HF := hid F
 clear F oo cp0 o0 o1
 go_wp2
 exact bodyPost_ret (v := .agg #[.slice x0A0 x0n0 x0c0, .slice x1A0 x1n0 x1c0]) (by simp [results, Try.results67, go_sem, u0, u1]) rfl HF.out
set_option maxHeartbeats 2000000 in
theorem eqK_Rule (v0 v1 u0 u1 : Value) (d : Dat sRule) (w : World) (h : Rd w w.heap.size sRule [v0, v1] d) (h' : Rd w w.heap.size sRule [u0, u1] d) (hz : sz sRule d ≤ 1048576) :
  Calls Try.prog 72 #[.agg #[v0, v1], .agg #[u0, u1]] w (Yes w) := by
 obtain ⟨g0, g1⟩ := parts_Rule h
 obtain ⟨g0', g1'⟩ := parts_Rule h'
 obtain ⟨W, hW⟩ : ∃ W, W = (w.alloc (.cells #[v0, v1] 109)).alloc (.cells #[u0, u1] 109) := ⟨_, rfl⟩
 have ra : Row W w.heap.size 109 #[v0, v1] := by rw [hW]; exact (Row.new w 109 #[v0, v1]).alloc _
 have rb : Row W (w.heap.size + 1) 109 #[u0, u1] := by rw [hW]; have := Row.new (w.alloc (.cells #[v0, v1] 109)) 109 #[u0, u1]; simpa using this
 have bel : Below w.heap.size w W := by rw [hW]; exact ((Below.refl _ _).alloc (Nat.le_refl _) _).alloc (by simp) _
 have HW := hid hW
 have G0 := hid g0
 have G0' := hid g0'
 have Z0 : Hid (sz sI d.1 ≤ 1048576) := hid (by have := hz; simp only [sz] at this ⊢; omega)
 have G1 := hid g1
 have G1' := hid g1'
 have Z1 : Hid (sz sI d.2 ≤ 1048576) := hid (by have := hz; simp only [sz] at this ⊢; omega)
 clear hW hz h h' g0 g0' g1 g1'
 go_enter Try.func72, Try.ntmps72
 go_wp2_with fail
 rw [← HW.out]
 refine (eqK_ints _ _ _ W (G0.out.next bel) (G0'.out.next bel) Z0.out).mono ?_
 rintro e w1 ⟨rfl, bb⟩
 replace ra := ra.next bb
 replace rb := rb.next bb
 replace bel := next_trans bel bb
 clear bb
 have a1_0 : w1.cell? ⟨w.heap.size, 1, none⟩ = some (v1) := ra.cell 1
 have b1_0 : w1.cell? ⟨w.heap.size + 1, 1, none⟩ = some (u1) := rb.cell 1
 go_wp2_with fail
 clear a1_0 b1_0
 refine (eqK_ints _ _ _ w1 (G1.out.next bel) (G1'.out.next bel) Z1.out).mono ?_
 rintro e w2 ⟨rfl, bb⟩
 replace ra := ra.next bb
 replace rb := rb.next bb
 replace bel := next_trans bel bb
 clear bb
 have F : Yes w (.returned (.bool true)) w2 := ⟨rfl, bel⟩
 have HF := hid F
 clear F ra rb bel
 go_wp2
 go_ret
 exact HF.out
abbrev sRuleS : Sh := .row 109 sRule
set_option maxHeartbeats 2000000 in
theorem szK_RuleS (v : Value) (D : List (Dat sRule)) (left : Int) (w : World) (h : Rd w w.heap.size sRuleS [v] D) (h0 : 0 ≤ left) (h1 : left ≤ 1048576) :
  Calls Try.prog 33 #[v, .int .i64 left] w (AnsSzK w left (sz sRuleS D)) := by
 obtain ⟨A, c, rfl, hcap⟩ := h.slice
 obtain ⟨n, hn⟩ : ∃ n, D.length = n := ⟨_, rfl⟩
 rw [hn] at h hcap ⊢
 have hmax : n ≤ 9223372036854775807 := Nat.le_trans hcap.1 hcap.2.1
 have HN := hid hn
 have H := hid h
 clear hcap hn h
 by_cases hs : left - n < 0
 ·have S : AnsSzK w left (sz sRuleS D) (.returned (.int .i64 (-1))) w := ⟨by rw [if_pos (by rw [sz_row, HN.out]; omega)], Below.refl _ _⟩
  have HS := hid S
  clear S
  go_enter Try.func33, Try.ntmps33
  go_wp2
  go_ret
  exact HS.out
 go_enter Try.func33, Try.ntmps33
 go_wp2
 go_loopw [1, 5] (fun l i wr => HeadSzK w n sRule D left l i wr) (fun _ i _ => n - (intOf i).toNat)
 case atStart => exact headSzK_zero (by omega)
 case round =>
  obtain ⟨k, hk, rfl, rfl, hge, hb⟩ := hrel
  by_cases hlt : k < n
  ·obtain ⟨b, off, n2, c2, es, ev, -, -, hbB, hel, hp, hr⟩ := H.out.elem (j := k) (by rw [HN.out]; exact hlt)
   injection ev with e1 e2 e3
   subst e1 e2 e3
   obtain ⟨v0, v1, rfl⟩ := cells_Rule hr
   have hpw := hp.keep (w' := wr) (fun p hp => hb.cell (p := p) (by rw [hp]; exact hbB))
   have c0 : wr.cell? ⟨b, off + k * 2, none⟩ = some (v0) := hpw 0 (by simp)
   have c1 : wr.cell? ⟨b, off + k * 2 + 1, none⟩ = some (v1) := hpw 1 (by simp)
   obtain ⟨t, ht⟩ : ∃ t, sz sRule (D.getD k (dft sRule)) = t := ⟨_, rfl⟩
   obtain ⟨l, hl⟩ : ∃ l, left - n - szs sRule D k = l := ⟨_, rfl⟩
   have hsum := szs_succ (s := sRule) (d := D) (k := k) (by rw [HN.out]; exact hlt)
   rw [ht] at hsum
   rw [hl] at hge ⊢
   have hle : l ≤ 1048576 := by omega
   have L := hid (szK_Rule _ _ (D.getD k (dft sRule)) l wr ((hr.below hb).more hb.size) hge hle)
   rw [ht] at L
   have BAD := hid (fun (q : l - (t : Int) < 0) => headSzK_bad (e := 109) (D := D) (left := left) HN.out hlt hsum (by rw [hl]; exact q))
   have GOOD := hid (fun (q : ¬ l - (t : Int) < 0) (w1 : World) (hb : Below w.heap.size w w1) => headSzK_step (D := D) (left := left) (l := l) hlt hsum hl q hb)
   have HB := hid hb
   clear hr hel hp hpw ht hl hsum hb
   go_wp2_with fail
   refine L.out.mono ?_
   rintro e w1 ⟨he, bb⟩
   by_cases q : l - (t : Int) < 0
   ·rw [if_pos q] at he
    subst he
    have F : AnsSzK w left (sz sRuleS D) (.returned (.int .i64 (-1))) w1 := ⟨BAD.out (by omega), next_trans HB.out bb⟩
    have HF := hid F
    clear F bb L GOOD BAD
    go_wp2
    go_ret
    exact HF.out
   ·rw [if_neg q] at he
    subst he
    have F := hid (GOOD.out (by omega) w1 (next_trans HB.out bb))
    clear bb L GOOD BAD
    go_wp2
    go_roundw
    case rel => exact F.out
    case measure => simp [intOf]; omega
  ·have F := hid (headSzK_end (e := 109) HN.out hlt hk hge hb)
   clear hge hb
   go_wp2
   go_ret
   exact F.out
theorem info_RuleS : (Try.prog.info? 109).map (fun i => (i.zero, i.size, i.bytes)) = some (some (.agg #[.slice none 0 0, .slice none 0 0]), 2, 48) := by kernel_rfl
theorem make_RuleS (n : Nat) (hn : n ≤ 1048576) (W : World) : (Instr.makeSlice 32 (.int .i64 (n : Int)) (.int .i64 (n : Int))).run Try.prog W =
  .ok (.slice (some ⟨W.heap.size, 0, none⟩) n n) (W.alloc (.cells (madeCells #[.slice none 0 0, .slice none 0 0] (n * 2)) 109)) := by
 obtain ⟨i0, hi, hz0, hz1, hz2⟩ := info_parts info_RuleS
 have hr := run_make (P := Try.prog) W 32 109 i0 _ Try.underlying32 hi hz0 .i64 .i64 n n (by omega) (by omega) (by rw [hz2]; omega) (by omega)
 simpa [hz1, Value.cells] using hr
set_option maxHeartbeats 2000000 in
theorem toK_RuleS (v : Value) (D : List (Dat sRule)) (w : World) (h : Rd w w.heap.size sRuleS [v] D) (hz : sz sRuleS D ≤ 1048576) :
  Calls Try.prog 38 #[v] w (Copy1 w sRuleS D) := by
 obtain ⟨A, c, rfl, hcap⟩ := h.slice
 obtain ⟨n, hn⟩ : ∃ n, D.length = n := ⟨_, rfl⟩
 have hn1 : n ≤ 1048576 := by rw [← hn]; exact sz_len hz
 rw [hn] at h hcap ⊢
 have HN := hid hn
 have H := hid h
 have HZ := hid hz
 clear hcap hn h hz
 have hmk := make_RuleS n hn1
 have S0 := hid (headCp_zero (s := sRule) (e := 109) (w := w) (n := n) (D := D) (cs := madeCells #[.slice none 0 0, .slice none 0 0] (n * 2)) (size_madeCells _ _))
 go_enter Try.func38, Try.ntmps38
 go_wp2
 clear hmk
 go_loopw [4] (fun i wr => HeadCp w 109 sRule n D i wr) (fun i _ => n - (intOf i).toNat)
 case atStart => exact S0.out
 case round =>
  obtain ⟨k, ks, E, G, hk, rfl, hr, hs, hnd, hi, hb⟩ := hrel
  clear S0
  by_cases hlt : k < n
  ·have hkD : k < D.length := by rw [HN.out]; exact hlt
   obtain ⟨b, off, n2, c2, es, ev, -, -, hbB, hel, hp, hrd⟩ := H.out.elem hkD
   injection ev with e1 e2 e3
   subst e1 e2 e3
   obtain ⟨v0, v1, rfl⟩ := cells_Rule hrd
   have hpw := hp.keep (w' := wr) (fun p hp => hb.cell (p := p) (by rw [hp]; exact hbB))
   have c0 : wr.cell? ⟨b, off + k * 2, none⟩ = some (v0) := hpw 0 (by simp)
   have c1 : wr.cell? ⟨b, off + k * 2 + 1, none⟩ = some (v1) := hpw 1 (by simp)
   have L := hid (toK_Rule _ _ (D.getD k (dft sRule)) wr ((hrd.below hb).more hb.size) (sz_each HZ.out hkD))
   have R := hid (fun w1 xA0 xn0 xc0 xA1 xn1 xc1 ho bb => headCp_step (w1 := w1) (es := [.slice xA0 xn0 xc0, .slice xA1 xn1 xc1]) hlt hr hs hnd hi hb ho bb)
   have rr := hr
   have hsz : ks.size = n * 2 := hs
   have HS := hid hsz
   clear hr hs hnd hi hb hrd hel hp hpw hsz
   go_wp2_with fail
   refine L.out.mono ?_
   rintro e w1 ⟨xA0, xn0, xc0, xA1, xn1, xc1, rfl, ho, bb⟩
   have S := hid (R.out w1 xA0 xn0 xc0 xA1 xn1 xc1 ho bb)
   have rr1 := rr.next bb
   obtain ⟨u0, hu0⟩ : ∃ u, w1.cell? ⟨w.heap.size, k * 2, none⟩ = some u := ⟨_, (rr1.cell _).trans (Array.getElem?_eq_getElem (by rw [HS.out]; omega))⟩
   have hf0 : w1.frozen? ⟨w.heap.size, k * 2, none⟩ = false := rr1.free _
   obtain ⟨u1, hu1⟩ : ∃ u, w1.cell? ⟨w.heap.size, k * 2 + 1, none⟩ = some u := ⟨_, (rr1.cell _).trans (Array.getElem?_eq_getElem (by rw [HS.out]; omega))⟩
   have hf1 : w1.frozen? ⟨w.heap.size, k * 2 + 1, none⟩ = false := rr1.free _
   clear ho bb rr rr1 L R
   go_wp2
   go_roundw
   case rel => exact S.out
   case measure => simp [intOf]; omega
  ·have e1 : k = n := by omega
   subst e1
   have F := hid (headCp_end HN.out hn1 hr hs hnd hi hb)
   clear hr hs hnd hi hb
   go_wp2
   go_ret
   exact F.out
set_option maxHeartbeats 2000000 in
theorem eqK_RuleS (v u : Value) (D : List (Dat sRule)) (w : World) (h : Rd w w.heap.size sRuleS [v] D) (h' : Rd w w.heap.size sRuleS [u] D) (hz : sz sRuleS D ≤ 1048576) :
  Calls Try.prog 42 #[v, u] w (Yes w) := by
 obtain ⟨A, c, rfl, hcap⟩ := h.slice
 obtain ⟨A', c', rfl, hcap'⟩ := h'.slice
 obtain ⟨n, hn⟩ : ∃ n, D.length = n := ⟨_, rfl⟩
 have hn1 : n ≤ 1048576 := by rw [← hn]; exact sz_len hz
 rw [hn] at h h' hcap hcap' ⊢
 have HN := hid hn
 have H := hid h
 have H' := hid h'
 have HZ := hid hz
 clear hcap hcap' hn h h' hz
 go_enter Try.func42, Try.ntmps42
 go_wp2
 go_loopw [5] (fun i wr => ∃ k : Nat, k ≤ n ∧ i = .int .i64 k ∧ Below w.heap.size w wr) (fun i _ => n - (intOf i).toNat)
 case atStart => exact ⟨0, Nat.zero_le _, rfl, Below.refl _ _⟩
 case round =>
  obtain ⟨k, hk, rfl, hb⟩ := hrel
  by_cases hlt : k < n
  ·have hkD : k < D.length := by rw [HN.out]; exact hlt
   obtain ⟨b, off, n2, c2, es, ev, -, -, hbB, hel, hp, hrd⟩ := H.out.elem hkD
   injection ev with e1 e2 e3
   subst e1 e2 e3
   obtain ⟨b', off', n2, c2, es', ev, -, -, hbB', hel', hp', hrd'⟩ := H'.out.elem hkD
   injection ev with e1 e2 e3
   subst e1 e2 e3
   obtain ⟨v0, v1, rfl⟩ := cells_Rule hrd
   obtain ⟨u0, u1, rfl⟩ := cells_Rule hrd'
   replace hb := hb.drew
   have hpw := hp.keep (w' := wr.drew) (fun p hp => hb.cell (p := p) (by rw [hp]; exact hbB))
   have hpw' := hp'.keep (w' := wr.drew) (fun p hp => hb.cell (p := p) (by rw [hp]; exact hbB'))
   have c0 : wr.drew.cell? ⟨b, off + k * 2, none⟩ = some (v0) := hpw 0 (by simp)
   have c0' : wr.drew.cell? ⟨b', off' + k * 2, none⟩ = some (u0) := hpw' 0 (by simp)
   have c1 : wr.drew.cell? ⟨b, off + k * 2 + 1, none⟩ = some (v1) := hpw 1 (by simp)
   have c1' : wr.drew.cell? ⟨b', off' + k * 2 + 1, none⟩ = some (u1) := hpw' 1 (by simp)
   have L := hid (eqK_Rule _ _ _ _ (D.getD k (dft sRule)) wr.drew ((hrd.below hb).more hb.size) ((hrd'.below hb).more hb.size) (sz_each HZ.out hkD))
   have HB := hid hb
   have hlb : b < wr.drew.heap.size := Nat.lt_of_lt_of_le hbB hb.size
   have hlb' : b' < wr.drew.heap.size := Nat.lt_of_lt_of_le hbB' hb.size
   clear hrd hrd' hel hel' hp hp' hpw hpw' hb
   go_wp2_with fail
   go_region_held3 (fun w' => w'.cell? ⟨b, off + k * 2, none⟩ = some (v0) ∧ w'.cell? ⟨b', off' + k * 2, none⟩ = some (u0) ∧ w'.cell? ⟨b, off + k * 2 + 1, none⟩ = some (v1) ∧ w'.cell? ⟨b', off' + k * 2 + 1, none⟩ = some (u1))
    (go_keep)
    (first | (go_at_call 72; refine L.out.mono ?_; rintro e w1 ⟨rfl, bb⟩; have m0 := (bb.cell (p := ⟨b, off + k * 2, none⟩) hlb).trans c0; have m1 := (bb.cell (p := ⟨b', off' + k * 2, none⟩) hlb').trans c0'; have m2 := (bb.cell (p := ⟨b, off + k * 2 + 1, none⟩) hlb).trans c1; have m3 := (bb.cell (p := ⟨b', off' + k * 2 + 1, none⟩) hlb').trans c1'))
   have HB1 := hid (next_trans HB.out bb)
   clear bb L c0 c0' c1 c1' m0 m1 m2 m3
   go_wp2
   go_roundw
   case rel => exact ⟨k + 1, hlt, by simp, HB1.out⟩
   case measure => simp [intOf]; omega
  ·have HB := hid hb
   clear hb
   go_wp2
   go_ret
   exact ⟨rfl, HB.out⟩
abbrev sSystem : Sh := .cat sSig sRuleS
theorem parts_System {w : World} {B : Nat} {v0 v1 : Value} {d : Dat sSystem} (h : Rd w B sSystem [v0, v1] d) : Rd w B sSig [v0] d.1 ∧ Rd w B sRuleS [v1] d.2 := by
 obtain ⟨p0, q0⟩ := Rd.split (ca := [v0]) (cb := [v1]) h rfl
 exact ⟨p0, q0⟩
theorem join_System {w : World} {lo hi : Nat} {v0 v1 : Value} {d : Dat sSystem} {m0 m1 m2 : Nat} (o0 : Owned w m0 m1 sSig [v0] d.1) (o1 : Owned w m1 m2 sRuleS [v1] d.2) (l0 : m0 ≤ m1) (l1 : m1 ≤ m2) (hl : lo ≤ m0) (hh : m2 ≤ hi) : Owned w lo hi sSystem [v0, v1] d := by
 exact ((Owned.cat o0 o1 (Nat.le_refl _) (by omega) (by omega)) : Owned w m0 m2 sSystem [v0, v1] d).wider hl hh
theorem cells_System {w : World} {B : Nat} {es : List Value} {d : Dat sSystem} (h : Rd w B sSystem es d) : ∃ (v0 : Value) (v1 : Value), es = [v0, v1] := by
 obtain ⟨ca0, cb0, e0, p0, q0⟩ := h
 obtain ⟨u0, z0⟩ := cells_Sig p0
 obtain ⟨A1, n1, c1, z1, -⟩ := q0
 exact ⟨u0, .slice A1 n1 c1, by rw [e0, z0, z1] <;> rfl⟩
set_option maxHeartbeats 2000000 in
theorem szK_System (v0 v1 : Value) (d : Dat sSystem) (left : Int) (w : World) (h : Rd w w.heap.size sSystem [v0, v1] d) (h0 : 0 ≤ left) (h1 : left ≤ 1048576) :
  Calls Try.prog 9 #[.agg #[v0, v1], .int .i64 left] w (AnsSzK w left (sz sSystem d)) := by
 obtain ⟨g0, g1⟩ := parts_System h
 obtain ⟨t0, ht0⟩ : ∃ t, sz sSig d.1 = t := ⟨_, rfl⟩
 obtain ⟨t1, ht1⟩ : ∃ t, sz sRuleS d.2 = t := ⟨_, rfl⟩
 have HE : Hid (sz sSystem d = t0 + t1) := hid (by rw [← ht0, ← ht1]; simp only [sz]; try omega)
 have HT0 := hid ht0
 have G0 := hid g0
 have HT1 := hid ht1
 have G1 := hid g1
 obtain ⟨W, hW⟩ : ∃ W, W = w.alloc (.cells #[v0, v1] 27) := ⟨_, rfl⟩
 have r : Row W w.heap.size 27 #[v0, v1] := by rw [hW]; exact Row.new _ _ _
 have bel : Below w.heap.size w W := by rw [hW]; exact (Below.refl _ _).alloc (Nat.le_refl _) _
 have HW := hid hW
 clear hW h g0 g1 ht0 ht1
 go_enter Try.func9, Try.ntmps9
 go_wp2_with fail
 rw [← HW.out]
 refine (szK_Sig _ _ left W (G0.out.next bel) h0 h1).mono ?_
 rintro e w1 ⟨he, bb⟩
 rw [HT0.out] at he
 replace r := r.next bb
 replace bel := next_trans bel bb
 clear bb
 by_cases q0 : left - (t0 : Int) < 0
 ·rw [if_pos q0] at he
  subst he
  have F : AnsSzK w left (sz sSystem d) (.returned (.int .i64 (-1))) w1 := ⟨by rw [HE.out, if_pos (by omega)], bel⟩
  have HF := hid F
  clear F bel r
  go_wp2
  go_ret
  exact HF.out
 rw [if_neg q0] at he
 obtain ⟨l0, hl0⟩ : ∃ l, left - (t0 : Int) = l := ⟨_, rfl⟩
 rw [hl0] at he
 have a0 : 0 ≤ l0 := by omega
 have b0 : l0 ≤ 1048576 := by omega
 have HL0 := hid hl0
 clear hl0 q0
 subst he
 have c0_0 : w1.cell? ⟨w.heap.size, 1, none⟩ = some (v1) := r.cell 1
 go_wp2_with fail
 refine (szK_RuleS _ _ l0 w1 (G1.out.next bel) a0 b0).mono ?_
 rintro e w2 ⟨he, bb⟩
 rw [HT1.out] at he
 replace r := r.next bb
 replace bel := next_trans bel bb
 clear bb
 by_cases q1 : l0 - (t1 : Int) < 0
 ·rw [if_pos q1] at he
  subst he
  have F : AnsSzK w left (sz sSystem d) (.returned (.int .i64 (-1))) w2 := ⟨by have := HL0.out; rw [HE.out, if_pos (by omega)], bel⟩
  have HF := hid F
  clear F bel r
  go_wp2
  go_ret
  exact HF.out
 rw [if_neg q1] at he
 obtain ⟨l1, hl1⟩ : ∃ l, l0 - (t1 : Int) = l := ⟨_, rfl⟩
 rw [hl1] at he
 have a1 : 0 ≤ l1 := by omega
 have b1 : l1 ≤ 1048576 := by omega
 have HL1 := hid hl1
 clear hl1 q1
 subst he
 have F : AnsSzK w left (sz sSystem d) (.returned (.int .i64 l1)) w2 := ⟨by have := HL0.out; have := HL1.out; rw [HE.out, if_neg (by omega)]; exact congrArg (fun z => Ending.returned (.int .i64 z)) (by omega), bel⟩
 have HF := hid F
 clear F bel r
 go_wp2
 go_ret
 exact HF.out
def CopySystem (w : World) (d : Dat sSystem) (e : Ending) (w' : World) : Prop := ∃ A0 n0 c0 A1 n1 c1, e = .returned (.agg #[.slice A0 n0 c0, .slice A1 n1 c1]) ∧ Owned w' w.heap.size w'.heap.size sSystem [.slice A0 n0 c0, .slice A1 n1 c1] d ∧ Below w.heap.size w w'
set_option maxHeartbeats 2000000 in
theorem toK_System (v0 v1 : Value) (d : Dat sSystem) (w : World) (h : Rd w w.heap.size sSystem [v0, v1] d) (hz : sz sSystem d ≤ 1048576) :
  Calls Try.prog 11 #[.agg #[v0, v1]] w (CopySystem w d) := by
 obtain ⟨g0, g1⟩ := parts_System h
 have cp0 := CpS.zero w 27 34 #[v0, v1] #[.slice none 0 0, .slice none 0 0]
 obtain ⟨W, hW⟩ : ∃ W, W = ((w.alloc (.cells #[v0, v1] 27)).alloc (.cells #[.slice none 0 0, .slice none 0 0] 34)).alloc (.cells #[.slice none 0 0, .slice none 0 0] 34) := ⟨_, rfl⟩
 rw [← hW] at cp0
 have HW := hid hW
 have G0 := hid g0
 have Z0 : Hid (sz sSig d.1 ≤ 1048576) := hid (by have := hz; simp only [sz] at this ⊢; omega)
 have G1 := hid g1
 have Z1 : Hid (sz sRuleS d.2 ≤ 1048576) := hid (by have := hz; simp only [sz] at this ⊢; omega)
 clear hW hz h g0 g1
 go_enter Try.func11, Try.ntmps11
 go_wp2_with fail
 rw [← HW.out]
 refine (toK_Sig _ _ _ ((G0.out.below cp0.bel).more cp0.bel.size) Z0.out).mono ?_
 rintro e w1 ⟨x0A0, x0n0, x0c0, rfl, o0, bb⟩
 have zb0 := bb.size
 have zc0 := cp0.size
 replace cp0 := cp0.next bb
 clear bb
 have f0_0 : w1.frozen? ⟨w.heap.size + 1 + 1, 0, none⟩ = false := cp0.cur.free 0
 have k0_0 : w1.cell? ⟨w.heap.size + 1 + 1, 0, none⟩ = some (.slice none 0 0) := cp0.cur.cell 0
 obtain ⟨w2, hw0⟩ : ∃ x, x = (w1.setCell ⟨w.heap.size + 1 + 1, 0, none⟩ (.slice x0A0 x0n0 x0c0)) := ⟨_, rfl⟩
 replace o0 := o0.put (g := w.heap.size + 1 + 1) (i := 0) (u := .slice x0A0 x0n0 x0c0) (by omega)
 rw [← hw0] at o0
 replace cp0 : CpS w 27 34 #[v0, v1] #[.slice none 0 0, .slice none 0 0] #[.slice x0A0 x0n0 x0c0, .slice none 0 0] w2 := by rw [hw0]; exact (CpS.put cp0 0 (.slice x0A0 x0n0 x0c0))
 have zw0 : w2.heap.size = w1.heap.size := by rw [hw0]; simp
 have HW0 := hid hw0
 clear hw0
 have d1_0 : w2.cell? ⟨w.heap.size, 1, none⟩ = some (v1) := cp0.box.cell 1
 rw [HW0.out] at d1_0
 go_wp2_with fail
 rw [← HW0.out]
 clear d1_0
 refine (toK_RuleS _ _ _ ((G1.out.below cp0.bel).more cp0.bel.size) Z1.out).mono ?_
 rintro e w3 ⟨x1A0, x1n0, x1c0, rfl, o1, bb⟩
 replace o0 := o0.next bb
 have zb1 := bb.size
 have zc1 := cp0.size
 replace cp0 := cp0.next bb
 clear bb
 have f1_0 : w3.frozen? ⟨w.heap.size + 1 + 1, 1, none⟩ = false := cp0.cur.free 1
 have k1_0 : w3.cell? ⟨w.heap.size + 1 + 1, 1, none⟩ = some (.slice none 0 0) := cp0.cur.cell 1
 obtain ⟨w4, hw1⟩ : ∃ x, x = (w3.setCell ⟨w.heap.size + 1 + 1, 1, none⟩ (.slice x1A0 x1n0 x1c0)) := ⟨_, rfl⟩
 replace o0 := o0.put (g := w.heap.size + 1 + 1) (i := 1) (u := .slice x1A0 x1n0 x1c0) (by omega)
 rw [← hw1] at o0
 replace o1 := o1.put (g := w.heap.size + 1 + 1) (i := 1) (u := .slice x1A0 x1n0 x1c0) (by omega)
 rw [← hw1] at o1
 replace cp0 : CpS w 27 34 #[v0, v1] #[.slice none 0 0, .slice none 0 0] #[.slice x0A0 x0n0 x0c0, .slice x1A0 x1n0 x1c0] w4 := by rw [hw1]; exact (CpS.put cp0 1 (.slice x1A0 x1n0 x1c0))
 have zw1 : w4.heap.size = w3.heap.size := by rw [hw1]; simp
 have HW1 := hid hw1
 clear hw1
 have y0 : w4.cell? ⟨w.heap.size + 1 + 1, 0, none⟩ = some (.slice x0A0 x0n0 x0c0) := cp0.cur.cell 0
 rw [HW1.out] at y0
 have y1 : w4.cell? ⟨w.heap.size + 1 + 1, 1, none⟩ = some (.slice x1A0 x1n0 x1c0) := cp0.cur.cell 1
 rw [HW1.out] at y1
 have s0 : (w4).cell? ⟨w.heap.size + 1, 0, none⟩ = some (.slice none 0 0) := cp0.res.cell 0
 rw [HW1.out] at s0
 have r0 : (w4).frozen? ⟨w.heap.size + 1, 0, none⟩ = false := cp0.res.free 0
 rw [HW1.out] at r0
 have s1 : ((w4.setCell ⟨w.heap.size + 1, 0, none⟩ (.slice x0A0 x0n0 x0c0))).cell? ⟨w.heap.size + 1, 1, none⟩ = some (.slice none 0 0) := (CpS.fin cp0 0 (.slice x0A0 x0n0 x0c0)).res.cell 1
 rw [HW1.out] at s1
 have r1 : ((w4.setCell ⟨w.heap.size + 1, 0, none⟩ (.slice x0A0 x0n0 x0c0))).frozen? ⟨w.heap.size + 1, 1, none⟩ = false := (CpS.fin cp0 0 (.slice x0A0 x0n0 x0c0)).res.free 1
 rw [HW1.out] at r1
 have oo : Owned w4 (w.heap.size + 1 + 1 + 1) w4.heap.size sSystem [.slice x0A0 x0n0 x0c0, .slice x1A0 x1n0 x1c0] d := join_System (m0 := W.heap.size) (m1 := w2.heap.size) (m2 := w4.heap.size) (o0.wider (Nat.le_refl _) (by omega)) (o1.wider (Nat.le_refl _) (by omega)) (by omega) (by omega) (by omega) (by omega)
 have F : CopySystem w d (.returned (.agg #[.slice x0A0 x0n0 x0c0, .slice x1A0 x1n0 x1c0])) ((w4.setCell ⟨w.heap.size + 1, 0, none⟩ (.slice x0A0 x0n0 x0c0)).setCell ⟨w.heap.size + 1, 1, none⟩ (.slice x1A0 x1n0 x1c0)) := ⟨x0A0, x0n0, x0c0, x1A0, x1n0, x1c0, rfl, Owned.wider (((oo.put (g := w.heap.size + 1) (i := 0) (u := .slice x0A0 x0n0 x0c0) (by omega)).put (g := w.heap.size + 1) (i := 1) (u := .slice x1A0 x1n0 x1c0) (by omega))) (by omega) (by simp), ((CpS.fin (CpS.fin cp0 0 (.slice x0A0 x0n0 x0c0)) 1 (.slice x1A0 x1n0 x1c0))).bel⟩
 have u0 : (((w4.setCell ⟨w.heap.size + 1, 0, none⟩ (.slice x0A0 x0n0 x0c0)).setCell ⟨w.heap.size + 1, 1, none⟩ (.slice x1A0 x1n0 x1c0))).cell? ⟨w.heap.size + 1, 0, none⟩ = some (.slice x0A0 x0n0 x0c0) := (CpS.fin (CpS.fin cp0 0 (.slice x0A0 x0n0 x0c0)) 1 (.slice x1A0 x1n0 x1c0)).res.cell 0
 rw [HW1.out] at u0
 have u1 : (((w4.setCell ⟨w.heap.size + 1, 0, none⟩ (.slice x0A0 x0n0 x0c0)).setCell ⟨w.heap.size + 1, 1, none⟩ (.slice x1A0 x1n0 x1c0))).cell? ⟨w.heap.size + 1, 1, none⟩ = some (.slice x1A0 x1n0 x1c0) := (CpS.fin (CpS.fin cp0 0 (.slice x0A0 x0n0 x0c0)) 1 (.slice x1A0 x1n0 x1c0)).res.cell 1
 rw [HW1.out] at u1
 rw [HW1.out] at F
 have HF := hid F
 clear F oo cp0 o0 o1
 go_wp2
 exact bodyPost_ret (v := .agg #[.slice x0A0 x0n0 x0c0, .slice x1A0 x1n0 x1c0]) (by simp [results, Try.results11, go_sem, u0, u1]) rfl HF.out
set_option maxHeartbeats 2000000 in
theorem eqK_System (v0 v1 u0 u1 : Value) (d : Dat sSystem) (w : World) (h : Rd w w.heap.size sSystem [v0, v1] d) (h' : Rd w w.heap.size sSystem [u0, u1] d) (hz : sz sSystem d ≤ 1048576) :
  Calls Try.prog 14 #[.agg #[v0, v1], .agg #[u0, u1]] w (Yes w) := by
 obtain ⟨g0, g1⟩ := parts_System h
 obtain ⟨g0', g1'⟩ := parts_System h'
 obtain ⟨W, hW⟩ : ∃ W, W = (w.alloc (.cells #[v0, v1] 34)).alloc (.cells #[u0, u1] 34) := ⟨_, rfl⟩
 have ra : Row W w.heap.size 34 #[v0, v1] := by rw [hW]; exact (Row.new w 34 #[v0, v1]).alloc _
 have rb : Row W (w.heap.size + 1) 34 #[u0, u1] := by rw [hW]; have := Row.new (w.alloc (.cells #[v0, v1] 34)) 34 #[u0, u1]; simpa using this
 have bel : Below w.heap.size w W := by rw [hW]; exact ((Below.refl _ _).alloc (Nat.le_refl _) _).alloc (by simp) _
 have HW := hid hW
 have G0 := hid g0
 have G0' := hid g0'
 have Z0 : Hid (sz sSig d.1 ≤ 1048576) := hid (by have := hz; simp only [sz] at this ⊢; omega)
 have G1 := hid g1
 have G1' := hid g1'
 have Z1 : Hid (sz sRuleS d.2 ≤ 1048576) := hid (by have := hz; simp only [sz] at this ⊢; omega)
 clear hW hz h h' g0 g0' g1 g1'
 go_enter Try.func14, Try.ntmps14
 go_wp2_with fail
 rw [← HW.out]
 refine (eqK_Sig _ _ _ W (G0.out.next bel) (G0'.out.next bel) Z0.out).mono ?_
 rintro e w1 ⟨rfl, bb⟩
 replace ra := ra.next bb
 replace rb := rb.next bb
 replace bel := next_trans bel bb
 clear bb
 have a1_0 : w1.cell? ⟨w.heap.size, 1, none⟩ = some (v1) := ra.cell 1
 have b1_0 : w1.cell? ⟨w.heap.size + 1, 1, none⟩ = some (u1) := rb.cell 1
 go_wp2_with fail
 clear a1_0 b1_0
 refine (eqK_RuleS _ _ _ w1 (G1.out.next bel) (G1'.out.next bel) Z1.out).mono ?_
 rintro e w2 ⟨rfl, bb⟩
 replace ra := ra.next bb
 replace rb := rb.next bb
 replace bel := next_trans bel bb
 clear bb
 have F : Yes w (.returned (.bool true)) w2 := ⟨rfl, bel⟩
 have HF := hid F
 clear F ra rb bel
 go_wp2
 go_ret
 exact HF.out
end kindsR
end
section
open Go.Lib (hid)
namespace rename
open Go.RowKit base ints sig term termOk marks app sym segs termFacts varsMath varsOf renMath
set_option maxRecDepth 100000
theorem mem_of_get {t : List Int} {k : Nat} {x : Int} (hk : k < t.length) (hx : t.getD k 0 = x) : x ∈ t := by
 rw [← hx]
 simp [List.getD, hk]
theorem not_mem_of {t : List Int} {x : Int} (h : ∀ j, j < t.length → t.getD j 0 ≠ x) : x ∉ t := fun hx => by
 obtain ⟨j, hj, e⟩ := List.getElem_of_mem hx
 exact h j hj (by simp [List.getD, hj, e])
def HeadNo (n : Nat) (xs : List Int) (x : Int) (i : Value) : Prop := ∃ k : Nat, k ≤ n ∧ i = .int .i64 k ∧ ∀ j, j < k → xs.getD j 0 ≠ x
theorem headNo_step {n k : Nat} {xs : List Int} {x y : Int} (hk : k < n) (h : ∀ j, j < k → xs.getD j 0 ≠ x) (hy : Hid (xs.getD k 0 = y)) (hne : ¬ y = x) : HeadNo n xs x (.int .i64 ((k : Int) + 1)) :=
 ⟨k + 1, hk, by simp, fun j hj => by
  by_cases e : j = k
  ·subst e; rw [hy.out]; exact hne
  ·exact h j (by omega)⟩
set_option maxHeartbeats 1000000 in
theorem l1Has (A : Option Addr) (n c : Nat) (xs : List Int) (x : Int) (w : World) (h : Seg w w.heap.size A n xs) (hn : n ≤ 1048576) :
  Calls Try.prog 123 #[.slice A n c, .int .i64 x] w fun e w' => w = w' ∧ e = .returned (.bool (decide (x ∈ xs))) := by
 have HX := hid h.1
 go_enter Try.func123, Try.ntmps123
 go_wp2
 go_loop [5] (fun i => HeadNo n xs x i) (fun i => n - (intOf i).toNat)
 case atStart => exact ⟨0, Nat.zero_le _, rfl, fun j hj => absurd hj (Nat.not_lt_zero _)⟩
 case round =>
  obtain ⟨k, hk, rfl, hlow⟩ := hrel
  by_cases hlt : k < n
  ·obtain ⟨b, off, y, rfl, -, hy, ey⟩ := h.spot hlt
   by_cases he : y = x
   ·subst he
    have F := hid (show y ∈ xs from mem_of_get (by rw [HX.out]; exact hlt) ey.out)
    have e1 : (y == y) = true := by simp
    clear h ey hlow
    go_wp2
    go_ret
    exact ⟨rfl, by rw [decide_eq_true F.out]; rfl⟩
   ·have S := hid (headNo_step hlt hlow ey he)
    have e1 : (y == x) = false := by simp [he]
    clear h ey hlow
    go_wp2
    go_round
    case rel => exact S.out
    case measure => simp [intOf]; omega
  ·have F := hid (not_mem_of (t := xs) (x := x) (fun j hj => hlow j (by rw [HX.out] at hj; omega)))
   clear h hlow
   go_wp2
   go_ret
   exact ⟨rfl, by rw [decide_eq_false F.out]; rfl⟩
def indexI (xs : List Int) (x : Int) : Int := if x ∈ xs then (idx xs x : Int) else -1
set_option maxHeartbeats 1000000 in
theorem indexOf (A : Option Addr) (n c : Nat) (xs : List Int) (x : Int) (w : World) (h : Seg w w.heap.size A n xs) (hn : n ≤ 1048576) :
  Calls Try.prog 124 #[.slice A n c, .int .i64 x] w fun e w' => w = w' ∧ e = .returned (.int .i64 (indexI xs x)) := by
 have HX := hid h.1
 go_enter Try.func124, Try.ntmps124
 go_wp2
 go_loop [8] (fun i => HeadNo n xs x i) (fun i => n - (intOf i).toNat)
 case atStart => exact ⟨0, Nat.zero_le _, rfl, fun j hj => absurd hj (Nat.not_lt_zero _)⟩
 case round =>
  obtain ⟨k, hk, rfl, hlow⟩ := hrel
  by_cases hlt : k < n
  ·obtain ⟨b, off, y, rfl, -, hy, ey⟩ := h.spot hlt
   by_cases he : y = x
   ·subst he
    have F := hid (show indexI xs y = (k : Int) by
     have hkl : k < xs.length := by rw [HX.out]; exact hlt
     unfold indexI
     rw [if_pos (mem_of_get hkl ey.out), idx_first hkl hlow ey.out])
    have e1 : (y == y) = true := by simp
    clear h ey hlow
    go_wp2
    go_ret
    exact ⟨rfl, by rw [F.out]; rfl⟩
   ·have S := hid (headNo_step hlt hlow ey he)
    have e1 : (x == y) = false := by simp; exact fun e => he e.symm
    clear h ey hlow
    go_wp2
    go_round
    case rel => exact S.out
    case measure => simp [intOf]; omega
  ·have F := hid (show indexI xs x = -1 by unfold indexI; rw [if_neg (not_mem_of (fun j hj => hlow j (by rw [HX.out] at hj; omega)))])
   clear h hlow
   go_wp2
   go_ret
   exact ⟨rfl, by rw [F.out]; rfl⟩
end rename
end
section
open Go.Lib (hid)
namespace same
open Go.RowKit base ints
set_option maxHeartbeats 400000 in
theorem specSame (A A' : Option Addr) (n m c c' : Nat) (xs ys : List Int) (w : World) (h : Seg w w.heap.size A n xs) (h' : Seg w w.heap.size A' m ys) (hn : n ≤ 1048576) (hm : m ≤ 1048576) :
  Calls Try.prog 78 #[.slice A n c, .slice A' m c'] w (AnsSame w xs ys) := by
 by_cases hnm : n = m
 ·subst hnm
  go_enter Try.func78, Try.ntmps78
  go_wp2
  go_loopw [5] (fun i wr => HeadSame w n xs ys i wr) (fun i _ => n - (intOf i).toNat)
  case atStart => exact ⟨0, 0, Nat.zero_le _, rfl, rfl, fun j h => absurd h (Nat.not_lt_zero _)⟩
  case round =>
   obtain ⟨k, d, hk, rfl, rfl, hc⟩ := hrel
   by_cases hlt : k < n
   ·obtain ⟨b, off, x, rfl, -, hx, ex⟩ := h.spot hlt
    obtain ⟨b', off', y, rfl, -, hx', ey⟩ := h'.spot hlt
    by_cases he : x = y
    ·subst he
     have S := hid (alike_step (w := w) hlt hc ex ey)
     clear hc h h' ex ey
     go_wp2
     go_quiet (fail)
     go_wp2
     go_roundw
     case rel => exact S.out _
     case measure => simp [intOf]; omega
    ·have S := hid (same_not (w := w) ex ey he)
     have hne : (x != y) = true := by simp [he]
     clear hc h h' ex ey he
     go_wp2
     go_quiet (fail)
     go_wp2
     go_ret
     rw [World.drewN_drewN]
     exact S.out _
   ·have S := hid (same_yes (w := w) h.1 h'.1 hlt hc)
    clear hc h h'
    go_wp2
    go_ret
    exact S.out _
 ·have S := hid (same_len (w := w) h.1 h'.1 hnm)
  have hne : ((n : Int) != (m : Int)) = true := by simp; omega
  clear h h'
  go_enter Try.func78, Try.ntmps78
  go_wp2
  go_ret
  exact S.out
set_option maxHeartbeats 400000 in
theorem libEqual (A A' : Option Addr) (n m c c' : Nat) (xs ys : List Int) (w : World) (h : Seg w w.heap.size A n xs) (h' : Seg w w.heap.size A' m ys) (hn : n ≤ 1048576) (hm : m ≤ 1048576) :
  Calls Try.prog 137 #[.slice A n c, .slice A' m c'] w (AnsSame w xs ys) := by
 by_cases hnm : n = m
 ·subst hnm
  go_enter Try.func137, Try.ntmps137
  go_wp2
  go_loopw [13] (fun i wr => HeadSame w n xs ys i wr) (fun i _ => n - (intOf i).toNat)
  case atStart => exact ⟨0, 0, Nat.zero_le _, rfl, rfl, fun j h => absurd h (Nat.not_lt_zero _)⟩
  case round =>
   obtain ⟨k, d, hk, rfl, rfl, hc⟩ := hrel
   by_cases hlt : k < n
   ·obtain ⟨b, off, x, rfl, -, hx, ex⟩ := h.spot hlt
    obtain ⟨b', off', y, rfl, -, hx', ey⟩ := h'.spot hlt
    by_cases he : x = y
    ·subst he
     have S := hid (alike_step (w := w) hlt hc ex ey)
     clear hc h h' ex ey
     go_wp2
     go_quiet (fail)
     go_wp2
     go_roundw
     case rel => exact S.out _
     case measure => simp [intOf]; omega
    ·have S := hid (same_not (w := w) ex ey he)
     have hne : (x != y) = true := by simp [he]
     clear hc h h' ex ey he
     go_wp2
     go_quiet (fail)
     go_wp2
     go_ret
     rw [World.drewN_drewN]
     exact S.out _
   ·have S := hid (same_yes (w := w) h.1 h'.1 hlt hc)
    clear hc h h'
    go_wp2
    go_ret
    exact S.out _
 ·have S := hid (same_len (w := w) h.1 h'.1 hnm)
  have hne : ((n : Int) != (m : Int)) = true := by simp; omega
  clear h h'
  go_enter Try.func137, Try.ntmps137
  go_wp2
  go_ret
  exact S.out
theorem implSame (A A' : Option Addr) (n m c c' : Nat) (xs ys : List Int) (w : World) (h : Seg w w.heap.size A n xs) (h' : Seg w w.heap.size A' m ys) (hn : n ≤ 1048576) (hm : m ≤ 1048576) :
  Calls Try.prog 133 #[.slice A n c, .slice A' m c'] w (AnsSame w xs ys) := by
 have L := hid (libEqual A A' n m c c' xs ys w h h' hn hm)
 clear h h'
 go_enter Try.func133, Try.ntmps133
 go_wp2_with fail
 refine L.out.mono ?_
 rintro e w' ⟨rfl, d, rfl⟩
 go_wp2
 go_ret
 exact ⟨rfl, d, rfl⟩
end same
end
section
open Go.Lib (hid)
namespace ruleSpec
open Go.RowKit renMath base ints sig term termOk marks app sym segs termFacts varsMath varsOf rename same count linear shape kindsR ruleMath
set_option maxRecDepth 100000
theorem box1 (w : World) (t : TypeId) (cs : Array Value) : ∃ W, W = w.alloc (.cells cs t) ∧ Row W w.heap.size t cs ∧ Below w.heap.size w W :=
 ⟨_, rfl, Row.new _ _ _, (Below.refl _ _).alloc (Nat.le_refl _) _⟩
theorem box2 (w : World) (t t' : TypeId) (cs cs' : Array Value) : ∃ W, W = (w.alloc (.cells cs t)).alloc (.cells cs' t') ∧ Row W w.heap.size t cs ∧ Row W (w.heap.size + 1) t' cs' ∧ Below w.heap.size w W := by
 refine ⟨_, rfl, ?_, ?_, ?_⟩
 ·have := (Row.new w t cs).alloc (.cells cs' t'); simpa using this
 ·have := Row.new (w.alloc (.cells cs t)) t' cs'; simpa using this
 ·exact ((Below.refl _ _).alloc (Nat.le_refl _) _).alloc (by simp) _
theorem len_ints {xs : List Int} {n : Nat} (hl : xs.length = n) (h : sz sI xs ≤ 1048576) : n ≤ 1048576 := by rw [sz_ints, hl] at h; exact h
theorem rule_szs {d : Dat sRule} (h : sz sRule d ≤ 1048576) : sz sI d.1 ≤ 1048576 ∧ sz sI d.2 ≤ 1048576 := by
 simp only [sz] at h ⊢
 omega
theorem sys_szs {d : Dat sSystem} (h : sz sSystem d ≤ 1048576) : sz sI d.1 ≤ 1048576 ∧ sz sRuleS d.2 ≤ 1048576 := by
 have h : sz sI d.1 + sz sRuleS d.2 ≤ 1048576 := h
 omega
theorem rd_rule {w : World} {B : Nat} {l r : Value} {d : Dat sRule} (h : Rd w B sRule [l, r] d) (hz : sz sRule d ≤ 1048576) : ∃ A n c A' n' c', l = .slice A n c ∧ r = .slice A' n' c' ∧ Seg w B A n d.1 ∧ Cap A n c ∧ Seg w B A' n' d.2 ∧ Cap A' n' c' ∧ n ≤ 1048576 ∧ n' ≤ 1048576 := by
 obtain ⟨g0, g1⟩ := parts_Rule h
 obtain ⟨z0, z1⟩ := rule_szs hz
 obtain ⟨A, n, c, e, h1, h2⟩ := rd_ints.1 g0
 obtain ⟨A', n', c', e', h3, h4⟩ := rd_ints.1 g1
 exact ⟨A, n, c, A', n', c', e, e', h1, h2, h3, h4, len_ints h1.1 z0, len_ints h3.1 z1⟩
theorem rule_noL {sg : List Int} {d : Rl} (h : termOkB sg d.1 = false) : ruleOkB sg d = false := by unfold ruleOkB; rw [h]; rfl
theorem rule_noR {sg : List Int} {d : Rl} (h : termOkB sg d.2 = false) : ruleOkB sg d = false := by unfold ruleOkB; rw [h]; simp
theorem rule_var {sg : List Int} {d : Rl} (h : hd d.1 < 0) : ruleOkB sg d = false := by unfold ruleOkB; rw [decide_eq_true h]; simp
theorem rule_new {sg : List Int} {d : Rl} {x : Int} (hx : x ∈ d.2) (h0 : x < 0) (hn : x ∉ d.1) : ruleOkB sg d = false := by
 unfold ruleOkB
 have : d.2.any (newB d.1) = true := List.any_eq_true.2 ⟨x, hx, by unfold newB; exact decide_eq_true ⟨h0, hn⟩⟩
 rw [this]; simp
theorem rule_yes {sg : List Int} {d : Rl} {n : Nat} (h1 : termOkB sg d.1 = true) (h2 : termOkB sg d.2 = true) (h0 : ¬ hd d.1 < 0) (hl : d.2.length = n) (h : ∀ j, j < n → newB d.1 (d.2.getD j 0) = false) : ruleOkB sg d = true := by
 unfold ruleOkB
 have : d.2.any (newB d.1) = false := by
  rw [List.any_eq_false]
  intro x hx
  obtain ⟨i, hi, rfl⟩ := List.getElem_of_mem hx
  have := h i (by omega)
  have e : d.2.getD i 0 = d.2[i] := by simp [List.getD, hi]
  rw [e] at this; simp [this]
 rw [this, h1, h2, decide_eq_false h0]; rfl
def HeadRu (w : World) (T : TypeId) (cs : Array Value) (n : Nat) (d : Rl) (i : Value) (wr : World) : Prop :=
 ∃ k : Nat, k ≤ n ∧ i = .int .i64 k ∧ (∀ j, j < k → newB d.1 (d.2.getD j 0) = false) ∧ Row wr (w.heap.size + 1) T cs ∧ Below w.heap.size w wr
theorem headRu_step {w wr : World} {T : TypeId} {cs : Array Value} {n k : Nat} {d : Rl} {x : Int} (hk : k < n) (hlow : ∀ j, j < k → newB d.1 (d.2.getD j 0) = false) (ex : Hid (d.2.getD k 0 = x)) (h : ¬ x < 0 ∨ x ∈ d.1) (hr : Row wr (w.heap.size + 1) T cs) (hb : Below w.heap.size w wr) : HeadRu w T cs n d (.int .i64 ((k : Int) + 1)) wr :=
 ⟨k + 1, hk, by simp, fun j hj => by
  by_cases e : j = k
  ·subst e
   rw [ex.out]; unfold newB
   exact decide_eq_false fun hh => by rcases h with h | h; exact h hh.1; exact hh.2 h
  ·exact hlow j (by omega), hr, hb⟩
set_option maxHeartbeats 4000000 in
theorem specRuleOk (a l r : Value) (sg : List Int) (d : Dat sRule) (w : World) (h : Rd w w.heap.size sI [a] sg) (h' : Rd w w.heap.size sRule [l, r] d) (hz : sz sI sg ≤ 1048576) (hz' : sz sRule d ≤ 1048576) :
  Calls Try.prog 107 #[.agg #[a], .agg #[l, r]] w (AnsB w (ruleOkB sg d)) := by
 obtain ⟨A, n, c, rfl, hs, hc⟩ := rd_ints.1 h
 have hn := len_ints hs.1 hz
 obtain ⟨A1, n1, c1, A2, n2, c2, rfl, rfl, s1, k1, s2, k2, hn1, hn2⟩ := rd_rule h' hz'
 obtain ⟨W, hW, rA, rR, bel⟩ := box2 w 31 109 #[.slice A n c] #[.slice A1 n1 c1, .slice A2 n2 c2]
 have HW := hid hW
 have HL1 := hid s1.1
 have HL2 := hid s2.1
 have L1 := hid (specTermOk A A1 n c n1 c1 sg d.1 W (hs.next bel) (s1.next bel) hn hn1)
 have L2 := hid (fun (w1 : World) (bb : Below w.heap.size w w1) => specTermOk A A2 n c n2 c2 sg d.2 w1 (hs.next bb) (s2.next bb) hn hn2)
 clear hW h h' hz hz' hs hc k1 k2
 cases ok1 : termOkB sg d.1 with
 | false =>
  have HS := hid ok1
  clear ok1 s1 s2
  go_enter Try.func107, Try.ntmps107
  go_wp2_with fail
  rw [← HW.out]
  refine L1.out.mono ?_
  rintro e w1 ⟨he, bb⟩
  rw [HS.out] at he
  subst he
  have F := hid (ansB (b := ruleOkB sg d) (a := false) (by rw [rule_noL HS.out]) (next_trans bel bb))
  clear bb bel rA rR
  go_wp2
  go_ret
  exact F.out
 | true =>
  have hp1 := (term_len ok1).1
  rw [s1.1] at hp1
  obtain ⟨b, off, x, rfl, hbB, hx, ex⟩ := s1.spot (k := 0) (by omega)
  have HS := hid ok1
  have EX := hid (show hd d.1 = x from ex.out)
  have i0 : (0 : Int) < (n1 : Int) := by omega
  clear ok1 ex
  go_enter Try.func107, Try.ntmps107
  go_wp2_with fail
  rw [← HW.out]
  refine L1.out.mono ?_
  rintro e w1 ⟨he, bb⟩
  rw [HS.out] at he
  subst he
  replace rA := rA.next bb
  replace rR := rR.next bb
  replace bel := next_trans bel bb
  have cA : w1.cell? ⟨w.heap.size, 0, none⟩ = some (.slice A n c) := rA.cell 0
  have cR : w1.cell? ⟨w.heap.size + 1, 1, none⟩ = some (.slice A2 n2 c2) := rR.cell 1
  clear bb L1
  go_wp2_with fail
  refine (L2.out w1 bel).mono ?_
  cases ok2 : termOkB sg d.2 with
  | false =>
   have HS2 := hid ok2
   clear ok2
   rintro e w2 ⟨he, bb⟩
   rw [HS2.out] at he
   subst he
   have F := hid (ansB (b := ruleOkB sg d) (a := false) (by rw [rule_noR HS2.out]) (next_trans bel bb))
   clear bb bel rA rR cA cR s1 s2
   go_wp2
   go_ret
   exact F.out
  | true =>
   have HS2 := hid ok2
   clear ok2
   rintro e w2 ⟨he, bb⟩
   rw [HS2.out] at he
   subst he
   replace rR := rR.next bb
   replace bel := next_trans bel bb
   have cR0 : w2.cell? ⟨w.heap.size + 1, 0, none⟩ = some (.slice (some ⟨b, off, none⟩) n1 c1) := rR.cell 0
   have cX : w2.cell? ⟨b, off, none⟩ = some (.int .i64 x) := by have := (bel.cell (p := ⟨b, off + 0, none⟩) hbB).trans hx; simpa using this
   clear bb rA cA cR L2
   by_cases hneg : x < 0
   ·have F := hid (ansB (b := ruleOkB sg d) (a := false) (by rw [rule_var (by rw [EX.out]; exact hneg)]) bel)
    have hdx : decide (x < 0) = true := decide_eq_true hneg
    clear bel rR s1 s2
    go_wp2
    go_ret
    exact F.out
   ·have hdx : decide (x < 0) = false := decide_eq_false hneg
    have H0 : Hid (HeadRu w 109 #[.slice (some ⟨b, off, none⟩) n1 c1, .slice A2 n2 c2] n2 d (.int .i64 0) w2) := hid ⟨0, Nat.zero_le _, rfl, fun j hj => absurd hj (Nat.not_lt_zero _), rR, bel⟩
    clear bel rR
    go_wp2_with fail
    go_loopw [5] (fun i wr => HeadRu w 109 #[.slice (some ⟨b, off, none⟩) n1 c1, .slice A2 n2 c2] n2 d i wr) (fun i _ => n2 - (intOf i).toNat)
    case atStart => exact H0.out
    case round =>
     obtain ⟨k, hk, rfl, hlow, rr, hb⟩ := hrel
     have HLOW := hid hlow
     clear hlow H0
     have cR0 : wr.cell? ⟨w.heap.size + 1, 0, none⟩ = some (.slice (some ⟨b, off, none⟩) n1 c1) := rr.cell 0
     have cR1 : wr.cell? ⟨w.heap.size + 1, 1, none⟩ = some (.slice A2 n2 c2) := rr.cell 1
     by_cases hlt : k < n2
     ·obtain ⟨b2, off2, y, rfl, hbB2, hy, ey⟩ := s2.spot hlt
      have hy1 : wr.cell? ⟨b2, off2 + k, none⟩ = some (.int .i64 y) := (hb.cell (p := ⟨b2, off2 + k, none⟩) hbB2).trans hy
      have hmem := mem_of_get (by rw [HL2.out]; exact hlt) ey.out
      have j0 : (0 : Int) ≤ (k : Int) := by omega
      have j1 : (k : Int) < (n2 : Int) := by omega
      have LH := hid (fun d' : Nat => l1Has (some ⟨b, off, none⟩) n1 c1 d.1 y (wr.drewN d') (((s1.next hb).drewN d')) hn1)
      by_cases hyn : y < 0
      ·have hdy : decide (y < 0) = true := decide_eq_true hyn
       by_cases hin : y ∈ d.1
       ·have E := hid (decide_eq_true hin)
        have S := hid (fun d' : Nat => headRu_step (w := w) (wr := wr.drewN d') hlt HLOW.out ey (.inr hin) (rr.drewN d') (below_drewN hb d'))
        clear s1 s2 rr hb hmem hin hy ey
        go_wp2_with fail
        go_quiet ((go_at_call 123; exact Calls.quiet_of_same (v := .bool true) ((LH.out _).mono fun _ _ ⟨h1, h2⟩ => ⟨by rw [h2, E.out], h1.symm⟩)))
        go_wp2
        go_roundw
        case rel => exact S.out _
        case measure => simp [intOf]; omega
       ·have E := hid (decide_eq_false hin)
        have F := hid (fun d' : Nat => ansB (w' := wr.drewN d') (b := ruleOkB sg d) (a := false) (by rw [rule_new hmem hyn hin]) (below_drewN hb d'))
        clear s1 s2 rr hb hmem hin hy ey
        go_wp2_with fail
        go_quiet ((go_at_call 123; exact Calls.quiet_of_same (v := .bool false) ((LH.out _).mono fun _ _ ⟨h1, h2⟩ => ⟨by rw [h2, E.out], h1.symm⟩)))
        go_wp2
        go_ret
        exact F.out _
      ·have S := hid (fun d' : Nat => headRu_step (w := w) (wr := wr.drewN d') hlt HLOW.out ey (.inl hyn) (rr.drewN d') (below_drewN hb d'))
       have hdy : decide (y < 0) = false := decide_eq_false hyn
       clear s1 s2 rr hb hmem hy ey
       go_wp2_with fail
       go_quiet (fail)
       go_wp2
       go_roundw
       case rel => exact S.out _
       case measure => simp [intOf]; omega
     ·have F := hid (ansB (b := ruleOkB sg d) (a := true) (by rw [rule_yes HS.out HS2.out (by rw [EX.out]; omega) HL2.out (fun j hj => HLOW.out j (by omega))]) hb)
      clear s1 s2 rr hb
      go_wp2
      go_ret
      exact F.out
def HeadSy (w : World) (T : TypeId) (cs : Array Value) (n : Nat) (f : Rl → Bool) (rs : List Rl) (i : Value) (wr : World) : Prop :=
 ∃ k : Nat, k ≤ n ∧ i = .int .i64 k ∧ (∀ j, j < k → f (rs.getD j ([], [])) = true) ∧ Row wr w.heap.size T cs ∧ Below w.heap.size w wr
theorem headSy_step {w wr : World} {T : TypeId} {cs : Array Value} {n k : Nat} {f : Rl → Bool} {rs : List Rl} {x : Rl} (hk : k < n) (hlow : ∀ j, j < k → f (rs.getD j ([], [])) = true) (ex : Hid (rs.getD k ([], []) = x)) (h : f x = true) (hr : Row wr w.heap.size T cs) (hb : Below w.heap.size w wr) : HeadSy w T cs n f rs (.int .i64 ((k : Int) + 1)) wr :=
 ⟨k + 1, hk, by simp, fun j hj => by
  by_cases e : j = k
  ·subst e; rw [ex.out]; exact h
  ·exact hlow j (by omega), hr, hb⟩
theorem rd_sys {w : World} {B : Nat} {a v : Value} {d : Dat sSystem} (h : Rd w B sSystem [a, v] d) (hz : sz sSystem d ≤ 1048576) : ∃ A n c A' n' c', a = .slice A n c ∧ v = .slice A' n' c' ∧ Seg w B A n d.1 ∧ Cap A n c ∧ Cap A' n' c' ∧ d.2.length = n' ∧ n ≤ 1048576 ∧ n' ≤ 1048576 ∧ Rd w B sRuleS [.slice A' n' c'] d.2 ∧ Rd w B sI [.slice A n c] d.1 ∧ (∀ j, j < n' → sz sRule (d.2.getD j ([], [])) ≤ 1048576) := by
 obtain ⟨g0, g1⟩ := parts_System h
 obtain ⟨z0, z1⟩ := sys_szs hz
 obtain ⟨A, n, c, e, h1, h2⟩ := rd_ints.1 g0
 obtain ⟨A', c', e', h3⟩ := g1.slice
 subst e e'
 exact ⟨A, n, c, A', d.2.length, c', rfl, rfl, h1, h2, h3, rfl, len_ints h1.1 z0, sz_len z1, g1, g0, fun j hj => sz_each z1 hj⟩
theorem rd_at {w wr : World} {B : Nat} {A : Option Addr} {n c : Nat} {rs : List Rl} {k : Nat} (h : Rd w B sRuleS [.slice A n c] rs) (hb : Below B w wr) (hl : rs.length = n) (hk : k < n) : ∃ b off l r x, A = some ⟨b, off, none⟩ ∧ b < B ∧ Hid (rs.getD k ([], []) = x) ∧ wr.cell? ⟨b, off + k * 2, none⟩ = some l ∧ wr.cell? ⟨b, off + k * 2 + 1, none⟩ = some r ∧ Rd wr B sRule [l, r] x := by
 obtain ⟨b, off, n2, c2, es, ev, -, -, hbB, hel, hp, hr⟩ := h.elem (j := k) (by omega)
 injection ev with e1 e2 e3
 subst e1 e2 e3
 obtain ⟨v0, v1, rfl⟩ := cells_Rule hr
 have hpw := hp.keep (w' := wr) (fun p hp => hb.cell (p := p) (by rw [hp]; exact hbB))
 exact ⟨b, off, v0, v1, _, rfl, hbB, hid rfl, hpw 0 (by simp), hpw 1 (by simp), hr.below hb⟩
set_option maxHeartbeats 4000000 in
theorem specSystemOk (a v : Value) (d : Dat sSystem) (w : World) (h : Rd w w.heap.size sSystem [a, v] d) (hz : sz sSystem d ≤ 1048576) :
  Calls Try.prog 85 #[.agg #[a, v]] w (AnsB w (sysOkB d.1 d.2)) := by
 have hzs := hid (sys_szs hz)
 obtain ⟨A, n, c, A', m, c', rfl, rfl, hs, hc, hc', hm, hn, hm1, hrs, hsg, hE⟩ := rd_sys h hz
 obtain ⟨W, hW, rA, bel⟩ := box1 w 34 #[.slice A n c, .slice A' m c']
 have HW := hid hW
 have HM := hid hm
 have HE := hid hE
 have HR := hid hrs
 have L1 := hid (specSigOk A n c d.1 W (hs.next bel) hn)
 have LR := hid (fun (w1 : World) (l r : Value) (x : Dat sRule) (bb : Below w.heap.size w w1) (hx : Rd w1 w1.heap.size sRule [l, r] x) (hzx : sz sRule x ≤ 1048576) => specRuleOk (.slice A n c) l r d.1 x w1 (hsg.next bb) hx hzs.out.1 hzx)
 clear hW h hz hs hc hc' hm hE hrs hsg
 cases ok1 : sigOkB d.1 with
 | false =>
  have HS := hid ok1
  clear ok1
  go_enter Try.func85, Try.ntmps85
  go_wp2_with fail
  rw [← HW.out]
  refine L1.out.mono ?_
  rintro e w1 ⟨he, bb⟩
  rw [HS.out] at he
  subst he
  have F := hid (ansB (b := sysOkB d.1 d.2) (a := false) (by rw [sys_sig HS.out]) (next_trans bel bb))
  clear bb bel rA
  go_wp2
  go_ret
  exact F.out
 | true =>
  have HS := hid ok1
  clear ok1
  go_enter Try.func85, Try.ntmps85
  go_wp2_with fail
  rw [← HW.out]
  refine L1.out.mono ?_
  rintro e w1 ⟨he, bb⟩
  rw [HS.out] at he
  subst he
  replace rA := rA.next bb
  replace bel := next_trans bel bb
  have cR : w1.cell? ⟨w.heap.size, 1, none⟩ = some (.slice A' m c') := rA.cell 1
  clear bb L1
  by_cases h12 : m ≤ 12
  ·have H0 : Hid (HeadSy w 34 #[.slice A n c, .slice A' m c'] m (ruleOkB d.1) d.2 (.int .i64 0) w1) := hid ⟨0, Nat.zero_le _, rfl, fun j hj => absurd hj (Nat.not_lt_zero _), rA, bel⟩
   clear rA bel
   go_wp2_with fail
   go_loopw [3] (fun i wr => HeadSy w 34 #[.slice A n c, .slice A' m c'] m (ruleOkB d.1) d.2 i wr) (fun i _ => m - (intOf i).toNat)
   case atStart => exact H0.out
   case round =>
    obtain ⟨k, hk, rfl, hlow, rr, hb⟩ := hrel
    have HLOW := hid hlow
    clear hlow H0 cR
    by_cases hlt : k < m
    ·obtain ⟨b, off, l, r, x, rfl, hbB, ex, hc0, hc1, hx⟩ := rd_at HR.out hb HM.out hlt
     have cA : wr.cell? ⟨w.heap.size, 0, none⟩ = some (.slice A n c) := rr.cell 0
     have cR : wr.cell? ⟨w.heap.size, 1, none⟩ = some (.slice (some ⟨b, off, none⟩) m c') := rr.cell 1
     have hzx : sz sRule x ≤ 1048576 := by have := HE.out k hlt; rw [ex.out] at this; exact this
     have L := hid (LR.out wr.drew l r x hb.drew ((hx.more hb.size).keep (fun _ _ => rfl)) hzx)
     have i0 : (0 : Int) ≤ (k : Int) := by omega
     have i1 : (k : Int) < (m : Int) := by omega
     have hbr : b < wr.drew.heap.size := Nat.lt_of_lt_of_le hbB hb.size
     have rd := rr.drew
     have hbd := hb.drew
     clear hx rr hb hzx
     cases ok : ruleOkB d.1 x with
     | false =>
      have HO := hid ok
      clear ok
      have BAD := hid (show sysOkB d.1 d.2 = false from sys_bad (k := k) (by rw [HM.out]; exact hlt) (by rw [ex.out]; exact HO.out))
      have bA := rd.lt
      go_wp2_with fail
      go_region_held3 (fun w' => w'.cell? ⟨w.heap.size, 0, none⟩ = some (.slice A n c) ∧ w'.cell? ⟨w.heap.size, 1, none⟩ = some (.slice (some ⟨b, off, none⟩) m c') ∧ w'.cell? ⟨b, off + k * 2, none⟩ = some l ∧ w'.cell? ⟨b, off + k * 2 + 1, none⟩ = some r)
       (go_keep)
       (first
        | (go_at_call 107; refine L.out.mono ?_; rintro e w2 ⟨he, bb⟩; rw [HO.out] at he; subst he; have c1 : w2.cell? ⟨w.heap.size, 0, none⟩ = some (.slice A n c) := (rd.next bb).cell 0; have c2 : w2.cell? ⟨w.heap.size, 1, none⟩ = some (.slice (some ⟨b, off, none⟩) m c') := (rd.next bb).cell 1; have c3 := (bb.cell (p := ⟨b, off + k * 2, none⟩) hbr).trans hc0; have c4 := (bb.cell (p := ⟨b, off + k * 2 + 1, none⟩) hbr).trans hc1))
      have F := hid (ansB (b := sysOkB d.1 d.2) (a := false) BAD.out.symm (next_trans hbd bb))
      clear bb rd hbd L c1 c2 c3 c4 cA cR hc0 hc1
      go_wp2
      go_ret
      exact F.out
     | true =>
      have HO := hid ok
      clear ok
      have bA := rd.lt
      go_wp2_with fail
      go_region_held3 (fun w' => w'.cell? ⟨w.heap.size, 0, none⟩ = some (.slice A n c) ∧ w'.cell? ⟨w.heap.size, 1, none⟩ = some (.slice (some ⟨b, off, none⟩) m c') ∧ w'.cell? ⟨b, off + k * 2, none⟩ = some l ∧ w'.cell? ⟨b, off + k * 2 + 1, none⟩ = some r)
       (go_keep)
       (first
        | (go_at_call 107; refine L.out.mono ?_; rintro e w2 ⟨he, bb⟩; rw [HO.out] at he; subst he; have c1 : w2.cell? ⟨w.heap.size, 0, none⟩ = some (.slice A n c) := (rd.next bb).cell 0; have c2 : w2.cell? ⟨w.heap.size, 1, none⟩ = some (.slice (some ⟨b, off, none⟩) m c') := (rd.next bb).cell 1; have c3 := (bb.cell (p := ⟨b, off + k * 2, none⟩) hbr).trans hc0; have c4 := (bb.cell (p := ⟨b, off + k * 2 + 1, none⟩) hbr).trans hc1))
      have F := hid (headSy_step (f := ruleOkB d.1) (w := w) hlt HLOW.out ex HO.out (rd.next bb) (next_trans hbd bb))
      clear bb rd hbd L c1 c2 c3 c4 cA cR hc0 hc1
      go_wp2
      go_roundw
      case rel => exact F.out
      case measure => simp [intOf]; omega
    ·have cR : wr.cell? ⟨w.heap.size, 1, none⟩ = some (.slice A' m c') := rr.cell 1
     have F := hid (ansB (b := sysOkB d.1 d.2) (a := true) (by rw [sys_good HS.out (by rw [HM.out]; exact h12) (fun j hj => HLOW.out j (by rw [HM.out] at hj; omega))]) hb)
     clear rr hb
     go_wp2
     go_ret
     exact F.out
  ·have i1 : (12 : Int) < (m : Int) := by omega
   have F := hid (ansB (b := sysOkB d.1 d.2) (a := false) (by rw [sys_long HM.out h12]) bel)
   clear bel rA
   go_wp2
   go_ret
   exact F.out
end ruleSpec
end
section
namespace inside
open Go.RowKit base ints sig term arity endOf cursor termOk endAt
set_option maxRecDepth 100000
def Tells (w : World) (b : Bool) (e : Ending) (w' : World) : Prop := e = .returned (.bool b) ∧ Below w.heap.size w w'
structure Fr (w wr : World) (A : Option Addr) (n c : Nat) (sg : List Int) (A' : Option Addr) (m : Nat) (t : List Int) : Prop where
 r : Row wr w.heap.size 31 #[.slice A n c]
 s : Seg wr w.heap.size A n sg
 s' : Seg wr w.heap.size A' m t
 b : Below w.heap.size w wr
section
variable {w wr w' : World} {A : Option Addr} {n c : Nat} {sg : List Int} {A' : Option Addr} {m : Nat} {t : List Int}
theorem Fr.start (h : Seg w w.heap.size A n sg) (h' : Seg w w.heap.size A' m t) : Fr w (w.alloc (.cells #[.slice A n c] 31)) A n c sg A' m t :=
 have b : Below w.heap.size w (w.alloc (.cells #[.slice A n c] 31)) := (Below.refl _ _).alloc (Nat.le_refl _) _
 ⟨Row.new _ _ _, h.below b, h'.below b, b⟩
theorem Fr.next (f : Fr w wr A n c sg A' m t) (hb : Below wr.heap.size wr w') : Fr w w' A n c sg A' m t :=
 have b : Below w.heap.size wr w' := hb.mono (Nat.le_of_lt f.r.lt)
 ⟨f.r.next hb, f.s.below b, f.s'.below b, f.b.trans b⟩
theorem Fr.over (f : Fr w wr A n c sg A' m t) (hb : Below (w.heap.size + 1) wr w') : Fr w w' A n c sg A' m t :=
 have b : Below w.heap.size wr w' := hb.mono (Nat.le_succ _)
 ⟨f.r.below hb (Nat.lt_succ_self _), f.s.below b, f.s'.below b, f.b.trans b⟩
theorem Fr.s1 (f : Fr w wr A n c sg A' m t) : Seg wr wr.heap.size A n sg := f.s.more (Nat.le_of_lt f.r.lt)
theorem Fr.t1 (f : Fr w wr A n c sg A' m t) : Seg wr wr.heap.size A' m t := f.s'.more (Nat.le_of_lt f.r.lt)
theorem Fr.size (f : Fr w wr A n c sg A' m t) : w.heap.size < wr.heap.size := f.r.lt
end
set_option maxHeartbeats 1000000 in
theorem placeIn (A A' : Option Addr) (n c m c' : Nat) (sg t : List Int) (x : Int) (w : World) (h : Seg w w.heap.size A n sg) (h' : Seg w w.heap.size A' m t) (hn : n ≤ 1048576) (hm : m ≤ 1048576) :
  Calls Try.prog 95 #[.agg #[.slice A n c], .slice A' m c', .int .i64 x] w (Tells w (thereB sg t x)) := by
 obtain ⟨W, hW⟩ : ∃ W, W = w.alloc (.cells #[.slice A n c] 31) := ⟨_, rfl⟩
 have f : Fr w W A n c sg A' m t := by rw [hW]; exact Fr.start h h'
 have HW := Lib.hid hW
 have L := Lib.hid (cursorAt A A' n c m c' sg t x W f.s1 f.t1 hn hm)
 clear hW h h'
 go_enter Try.func95, Try.ntmps95
 go_wp2_with fail
 rw [← HW.out]
 refine L.out.mono ?_
 rintro e w1 ⟨bb, ⟨ht, p, rfl, hp, hc⟩ | ⟨ht, rfl⟩⟩
 ·have F := Lib.hid (show Tells w (thereB sg t x) (.returned (.bool true)) w1 from ⟨by rw [ht], (f.next bb).b⟩)
  clear f L bb hc hp
  go_wp2
  go_ret
  exact F.out
 ·have F := Lib.hid (show Tells w (thereB sg t x) (.returned (.bool false)) w1 from ⟨by rw [ht], (f.next bb).b⟩)
  clear f L bb
  go_wp2
  go_ret
  exact F.out
end inside
end
section
namespace plainMath
open fillMath
def strip : List (List Int) → List (List Int)
 | [] => []
 | x :: r => if strip r = [] then (if x = [] then [] else [x]) else x :: strip r
theorem strip_snoc : ∀ (l : List (List Int)) (x : List Int), strip (l ++ [x]) = if x = [] then strip l else l ++ [x]
 | [], x => by
  show strip [x] = _
  by_cases h : x = [] <;> simp [strip, h]
 | y :: r, x => by
  rw [List.cons_append, strip, strip_snoc r x]
  by_cases h : x = []
  ·simp [h, strip]
  ·simp [h]
theorem strip_last {l : List (List Int)} {q : Nat} (hq : q < l.length) (h : l.getD q [] ≠ []) : strip (l.take (q + 1)) = l.take (q + 1) := by
 have e : l.take (q + 1) = l.take q ++ [l.getD q []] := by
  rw [List.take_succ_eq_append_getElem hq]
  simp [List.getD, hq]
 rw [e, strip_snoc, if_neg h]
theorem strip_drop {l : List (List Int)} {q : Nat} (hq : q < l.length) (h : l.getD q [] = []) : strip (l.take (q + 1)) = strip (l.take q) := by
 have e : l.take (q + 1) = l.take q ++ [l.getD q []] := by
  rw [List.take_succ_eq_append_getElem hq]
  simp [List.getD, hq]
 rw [e, strip_snoc, if_pos h]
def bare (L : Nat → List Int) (i : Nat) : List Int := if L i = vt i then [] else L i
def rowsL (L : Nat → List Int) (m : Nat) : List (List Int) := (List.range m).map (bare L)
def plainL (L : Nat → List Int) (m : Nat) : List (List Int) := strip (rowsL L m)
theorem rows_len (L : Nat → List Int) (m : Nat) : (rowsL L m).length = m := by simp [rowsL]
theorem rows_succ (L : Nat → List Int) (m : Nat) : rowsL L (m + 1) = rowsL L m ++ [bare L m] := by simp [rowsL, List.range_succ]
end plainMath
end
end Go.Proofs.Ytblhmplpcdcejaa
