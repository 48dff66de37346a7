/-
  MERGED: my texts OvsMath, RenPure, PkMath, PkVars, UfMath, WholeUn, Nodes, OvImpl, LinkImpl, OvStart, PkMgu, PkAns, PkAll, PksMath, PksAns, one behind the other, as they are. By an AI agent.
-/
import Derived.Test.YtlmofkeemlfpgaaGreatMFnExactClosedIn6
namespace Go.Proofs.YtlmofkeemlfpgaaGreat
section
namespace ovsMath
open sig ruleMath trySpec overSpec
section
variable (met : Nat → Nat → Nat → Bool) (wB : Nat → Nat → Bool) (len : Nat → Nat) (n : Nat)
def rowV (o a k : Nat) : List (Nat × Nat × Nat) := (List.range k).filterMap fun u => if (wB o u && met o a u) = true then some (o, a, u) else none
def colV (o k : Nat) : List (Nat × Nat × Nat) := (List.range k).flatMap fun a => rowV met wB o a n
def allV (k : Nat) : List (Nat × Nat × Nat) := (List.range k).flatMap fun o => colV met wB n o (len o)
end
section
variable {met : Nat → Nat → Nat → Bool} {wB : Nat → Nat → Bool} {len : Nat → Nat} {n : Nat}
theorem row_zero (o a : Nat) : rowV met wB o a 0 = [] := rfl
theorem row_yes {o a u : Nat} (h1 : wB o u = true) (h2 : met o a u = true) : rowV met wB o a (u + 1) = rowV met wB o a u ++ [(o, a, u)] := by
 unfold rowV
 rw [List.range_succ, List.filterMap_append]
 simp [h1, h2]
theorem row_no {o a u : Nat} (h : (wB o u && met o a u) = false) : rowV met wB o a (u + 1) = rowV met wB o a u := by
 unfold rowV
 rw [List.range_succ, List.filterMap_append]
 simp only [List.filterMap_cons, h, Bool.false_eq_true, if_false, List.filterMap_nil, List.append_nil]
theorem col_zero (o : Nat) : colV met wB n o 0 = [] := rfl
theorem col_succ (o a : Nat) : colV met wB n o (a + 1) = colV met wB n o a ++ rowV met wB o a n := by simp [colV, List.range_succ]
theorem all_succ (o : Nat) : allV met wB len n (o + 1) = allV met wB len n o ++ colV met wB n o (len o) := by simp [allV, List.range_succ]
theorem pre_of_le {α : Type} {f : Nat → List α} (h : ∀ k, f k <+: f (k + 1)) : ∀ {x y : Nat}, x ≤ y → f x <+: f y := by
 intro x y hxy
 obtain ⟨d, rfl⟩ : ∃ d, y = x + d := ⟨y - x, by omega⟩
 clear hxy
 induction d with
 | zero => exact List.prefix_refl _
 | succ d ih => exact ih.trans (h (x + d))
theorem row_pre {o a k q : Nat} (h : k ≤ q) : rowV met wB o a k <+: rowV met wB o a q := by
 refine pre_of_le (f := rowV met wB o a) (fun j => ?_) h
 cases hb : wB o j && met o a j with
 | false => rw [row_no hb]; exact List.prefix_refl _
 | true =>
  rw [Bool.and_eq_true] at hb
  rw [row_yes hb.1 hb.2]
  exact List.prefix_append _ _
theorem col_pre {o k q : Nat} (h : k ≤ q) : colV met wB n o k <+: colV met wB n o q :=
 pre_of_le (f := colV met wB n o) (fun j => by rw [col_succ]; exact List.prefix_append _ _) h
theorem all_pre {k q : Nat} (h : k ≤ q) : allV met wB len n k <+: allV met wB len n q :=
 pre_of_le (f := allV met wB len n) (fun j => by rw [all_succ]; exact List.prefix_append _ _) h
theorem part_pre {o a u r : Nat} (ho : o < r) (ha : a < len o) (hu : u ≤ n) : allV met wB len n o ++ (colV met wB n o a ++ rowV met wB o a u) <+: allV met wB len n r := by
 have h1 : rowV met wB o a u <+: rowV met wB o a n := row_pre hu
 have h2 : colV met wB n o a ++ rowV met wB o a n <+: colV met wB n o (len o) := by
  rw [← col_succ]
  exact col_pre ha
 have h3 : allV met wB len n o ++ colV met wB n o (len o) <+: allV met wB len n r := by
  rw [← all_succ]
  exact all_pre ho
 exact ((List.prefix_append_right_inj _).2 (((List.prefix_append_right_inj _).2 h1).trans h2)).trans h3
theorem mem_all {o a u r : Nat} (h : (o, a, u) ∈ allV met wB len n r) : (o < r ∧ a < len o ∧ u < n) ∧ wB o u = true ∧ met o a u = true := by
 unfold allV at h
 obtain ⟨o', ho', h⟩ := List.mem_flatMap.1 h
 unfold colV at h
 obtain ⟨a', ha', h⟩ := List.mem_flatMap.1 h
 unfold rowV at h
 obtain ⟨u', hu', h⟩ := List.mem_filterMap.1 h
 split at h
 ·rename_i hb
  injection h with h
  injection h with e1 h
  injection h with e2 e3
  subst e1 e2 e3
  rw [Bool.and_eq_true] at hb
  exact ⟨⟨List.mem_range.1 ho', List.mem_range.1 ha', List.mem_range.1 hu'⟩, hb⟩
 ·cases h
end
section
variable {met : Nat → Nat → Nat → Bool} {len : Nat → Nat} {n X Y : Nat}
end
noncomputable def ovs (sg : List Int) (rs : List Rl) (wB : Nat → Nat → Bool) : List (Nat × Nat × Nat) := allV (fun o a u => metB sg rs (o : Int) (a : Int) (u : Int)) wB (fun o => (lh rs o).length) rs.length rs.length
end ovsMath
end
section
namespace renPure
open sig term termOk termFacts varsMath fillMath renMath
theorem ren_fill (t : List Int) (o : List Int) : fillL (fun i => vt (idx o (-1 - (i : Int)))) t = t.map (ren o) := by
 induction t with
 | nil => rfl
 | cons x r ih =>
  rw [fill_cons, ih, List.map_cons]
  unfold rep ren
  by_cases h : 0 ≤ x
  ·rw [if_pos h, if_neg (by omega)]; rfl
  ·rw [if_neg h, if_pos (by omega)]
   show vt (idx o (-1 - (((-1 - x).toNat : Nat) : Int))) ++ _ = _
   rw [show (-1 - (((-1 - x).toNat : Nat) : Int) : Int) = x by omega]
   rfl
theorem ren_yes {o : List Int} {x : Int} (h : x < 0) : ren o x = -1 - (idx o x : Int) := by unfold ren; rw [if_pos h]
theorem ren_no {o : List Int} {x : Int} (h : ¬ x < 0) : ren o x = x := by unfold ren; rw [if_neg h]
theorem idx_map_on {f : Int → Int} {o : List Int} {x : Int} (hx : x ∈ o) (hf : ∀ a ∈ o, f a = f x → a = x) : idx (o.map f) (f x) = idx o x := by
 induction o with
 | nil => cases hx
 | cons y r ih =>
  rw [List.map_cons, idx, idx]
  by_cases h : y = x
  ·rw [if_pos (by rw [h]), if_pos h]
  ·rw [if_neg (fun e => h (hf y (List.mem_cons_self ..) e)), if_neg h]
   rcases List.mem_cons.1 hx with e | e
   ·exact absurd e.symm h
   ·rw [ih e (fun a ha => hf a (List.mem_cons_of_mem _ ha))]
theorem fold_map {f : Int → Int} {t : List Int} (hf : ∀ a ∈ t, ∀ b ∈ t, f a = f b → a = b) (hn : ∀ x, f x < 0 ↔ x < 0) : ∀ (l o : List Int), (∀ x ∈ l, x ∈ t) → (∀ x ∈ o, x ∈ t) → (l.map f).foldl extV (o.map f) = (l.foldl extV o).map f
 | [], _, _, _ => rfl
 | x :: l, o, hl, ho => by
  have hx := hl x (List.mem_cons_self ..)
  rw [List.map_cons, List.foldl_cons, List.foldl_cons]
  have e : extV (o.map f) (f x) = (extV o x).map f := by
   unfold extV
   by_cases h : x < 0
   ·rw [if_pos ((hn x).2 h), if_pos h]
    unfold ext
    by_cases hm : x ∈ o
    ·rw [if_pos hm, if_pos (List.mem_map.2 ⟨x, hm, rfl⟩)]
    ·rw [if_neg hm, if_neg, List.map_append]
     ·rfl
     ·intro h2
      obtain ⟨y, hy, e⟩ := List.mem_map.1 h2
      exact hm (hf y (ho y hy) x hx e ▸ hy)
   ·rw [if_neg (fun h2 => h ((hn x).1 h2)), if_neg h]
  rw [e]
  refine fold_map hf hn l (extV o x) (fun y hy => hl y (List.mem_cons_of_mem _ hy)) (fun y hy => ?_)
  rcases extV_mem.1 hy with ⟨rfl, _⟩ | h
  ·exact hx
  ·exact ho y h
end renPure
end
section
namespace pkMath
open sig term termOk termFacts fillMath renMath renPure matchMath unifMath forest triMath ruleMath
def nu (N : Nat → List Int) (Z : List Int) (x : Int) : Int := if x ∈ Z ∧ x < 0 then (N (vr x)).getD 0 0 else x
theorem nu_facts {N N' : Nat → List Int} {Z : List Int} (hN : ∀ i, 1 ≤ (N i).length) (hN' : ∀ i, 1 ≤ (N' i).length) (h : fillL N' (fillL N Z) = Z) :
  (∀ x, nu N Z x < 0 ↔ x < 0) ∧ (∀ x ∈ Z, ∀ y ∈ Z, nu N Z x = nu N Z y → x = y) ∧ (∀ x ∈ Z, rep N x = [nu N Z x]) := by
 have h1 : ∀ x ∈ Z, x < 0 → fillL N' (N (vr x)) = [x] := by
  rw [fill_fill] at h
  exact fill_fix (L := fun i => fillL N' (N i)) (fun i => Nat.le_trans (hN i) (fill_ge hN' _)) h
 have h2 : ∀ x ∈ Z, x < 0 → ∃ y, y < 0 ∧ N (vr x) = [y] ∧ N' (vr y) = [x] := by
  intro x hx h0
  have h3 := h1 x hx h0
  have h4 := fill_ge hN' (N (vr x))
  rw [h3] at h4
  obtain ⟨y, hy⟩ : ∃ y, N (vr x) = [y] := List.length_eq_one_iff.1 (by have := hN (vr x); simp at h4; omega)
  rw [hy, fill_one] at h3
  by_cases hy0 : y < 0
  ·rw [rep_vr hy0] at h3
   exact ⟨y, hy0, hy, h3⟩
  ·rw [rep_sym (by omega)] at h3
   injection h3 with h3
   omega
 have h3 : ∀ x, x ∈ Z → x < 0 → nu N Z x < 0 ∧ N (vr x) = [nu N Z x] ∧ N' (vr (nu N Z x)) = [x] := by
  intro x hx h0
  obtain ⟨y, h4, h5, h6⟩ := h2 x hx h0
  have e : nu N Z x = y := by unfold nu; rw [if_pos ⟨hx, h0⟩, h5]; rfl
  rw [e]
  exact ⟨h4, h5, h6⟩
 have h4 : ∀ x, ¬ x < 0 → nu N Z x = x := fun x h0 => by unfold nu; rw [if_neg (fun h => h0 h.2)]
 have h5 : ∀ x, nu N Z x < 0 ↔ x < 0 := by
  intro x
  by_cases h0 : x < 0
  ·by_cases hx : x ∈ Z
   ·exact ⟨fun _ => h0, fun _ => (h3 x hx h0).1⟩
   ·unfold nu; rw [if_neg (fun h => hx h.1)]
  ·rw [h4 x h0]
 refine ⟨h5, ?_, ?_⟩
 ·intro x hx y hy e
  by_cases h0 : x < 0
  ·have h6 : y < 0 := by rw [← h5 y, ← e, h5]; exact h0
   have h7 := (h3 x hx h0).2.2
   rw [e, (h3 y hy h6).2.2] at h7
   injection h7 with h7
   exact h7.symm
  ·have h6 : ¬ y < 0 := by rw [← h5 y, ← e, h5]; exact h0
   rw [h4 x h0, h4 y h6] at e
   exact e
 ·intro x hx
  by_cases h0 : x < 0
  ·rw [rep_vr h0]; exact (h3 x hx h0).2.1
  ·rw [rep_sym (by omega), h4 x h0]
theorem fill_nu {N : Nat → List Int} {Z : List Int} (h : ∀ x ∈ Z, rep N x = [nu N Z x]) : ∀ {t : List Int}, (∀ x ∈ t, x ∈ Z) → fillL N t = t.map (nu N Z)
 | [], _ => rfl
 | x :: t, ht => by
  rw [fill_cons, h x (ht x (List.mem_cons_self ..)), fill_nu h (fun y hy => ht y (List.mem_cons_of_mem _ hy))]
  rfl
def pk3 (T A R : List Int) : Option (List Int × List Int × List Int) := if T.length ≤ 60 ∧ A.length ≤ 60 ∧ R.length ≤ 60 ∧ (orderL T).length ≤ 24 then some (byL (orderL T) T, byL (orderL T) A, byL (orderL T) R) else none
theorem pk_same {T A R T' A' R' : List Int} {N N' : Nat → List Int} (hN : ∀ i, 1 ≤ (N i).length) (hN' : ∀ i, 1 ≤ (N' i).length)
  (e1 : T' = fillL N T) (e2 : A' = fillL N A) (e3 : R' = fillL N R) (f1 : T = fillL N' T') (f2 : A = fillL N' A') (f3 : R = fillL N' R')
  (vA : ∀ x ∈ A, x < 0 → x ∈ T) (vR : ∀ x ∈ R, x < 0 → x ∈ T) : pk3 T A R = pk3 T' A' R' := by
 obtain ⟨Z, hZ⟩ : ∃ Z, T ++ (A ++ R) = Z := ⟨_, rfl⟩
 have hz : fillL N' (fillL N Z) = Z := by rw [← hZ, fill_append, fill_append, fill_append, fill_append, ← e1, ← e2, ← e3, ← f1, ← f2, ← f3]
 have hT : ∀ x ∈ T, x ∈ Z := fun x h => by rw [← hZ]; exact List.mem_append_left _ h
 have hA : ∀ x ∈ A, x ∈ Z := fun x h => by rw [← hZ]; exact List.mem_append_right _ (List.mem_append_left _ h)
 have hR : ∀ x ∈ R, x ∈ Z := fun x h => by rw [← hZ]; exact List.mem_append_right _ (List.mem_append_right _ h)
 obtain ⟨n1, n2, n3⟩ := nu_facts hN hN' hz
 have g1 : T' = T.map (nu N Z) := e1.trans (fill_nu n3 hT)
 have g2 : A' = A.map (nu N Z) := e2.trans (fill_nu n3 hA)
 have g3 : R' = R.map (nu N Z) := e3.trans (fill_nu n3 hR)
 have o1 : orderL T' = (orderL T).map (nu N Z) := by
  rw [g1]
  exact fold_map (t := T) (o := []) (fun a ha b hb => n2 a (hT a ha) b (hT b hb)) n1 T (fun x h => h) (fun x h => by cases h)
 have by_ : ∀ X : List Int, (∀ x ∈ X, x ∈ Z) → (∀ x ∈ X, x < 0 → x ∈ T) → byL (orderL T') (X.map (nu N Z)) = byL (orderL T) X := by
  intro X hX hv
  unfold byL
  rw [List.map_map]
  refine List.map_congr_left fun x hx => ?_
  simp only [Function.comp_def]
  by_cases h0 : x < 0
  ·rw [ren_yes h0, ren_yes ((n1 x).2 h0), o1, idx_map_on (order_mem.2 ⟨hv x hx h0, h0⟩)]
   intro a ha e
   exact n2 a (hT a (order_mem.1 ha).1) x (hX x hx) e
  ·rw [ren_no h0, ren_no (by rw [n1]; exact h0)]
   unfold nu
   rw [if_neg (fun h => h0 h.2)]
 unfold pk3
 have l1 : T'.length = T.length := by rw [g1, List.length_map]
 have l2 : A'.length = A.length := by rw [g2, List.length_map]
 have l3 : R'.length = R.length := by rw [g3, List.length_map]
 have l4 : (orderL T').length = (orderL T).length := by rw [o1, List.length_map]
 rw [l1, l2, l3, l4]
 split
 ·congr 1
  have p1 := by_ T hT (fun x h _ => h)
  have p2 := by_ A hA vA
  have p3 := by_ R hR vR
  rw [← g1] at p1
  rw [← g2] at p2
  rw [← g3] at p3
  rw [p1, p2, p3]
 ·rfl
end pkMath
end
section
namespace pkVars
open sig term termOk termFacts sub fillMath renMath matchMath unifMath forest triMath ruleMath peakMath pkMath trySpec
set_option maxRecDepth 100000
def leftA (sg : List Int) (rs : List Rl) (o a u : Nat) : List Int := (lh rs o).take a ++ (shiftL 24 (rh rs u) ++ (lh rs o).drop (a + (oS sg rs o a).length))
def pkO (r : Option (List Int × List Int × List Int)) (o a u : Nat) : Pk := match r with
 | some (t, l, x) => (t, l, x, (a : Int), (u : Int), (o : Int))
 | none => ([], [], [], 0, 0, 0)
theorem mem_rep {L : Nat → List Int} {t : List Int} {x : Int} : x ∈ fillL L t ↔ ∃ y ∈ t, x ∈ rep L y := by
 unfold fillL
 exact List.mem_flatMap
section
variable {sg : List Int} {rs : List Rl} {o a u : Nat} {θ : Nat → List Int}
theorem lo_parts (h : termOkB sg (lh rs o) = true) (ha : a < (lh rs o).length) : lh rs o = (lh rs o).take a ++ (oS sg rs o a ++ (lh rs o).drop (a + (oS sg rs o a).length)) := by
 have := drop_sub h ha
 conv => lhs; rw [← List.take_append_drop a (lh rs o), this]
 rfl
theorem fill_lo (h : termOkB sg (lh rs o) = true) (ha : a < (lh rs o).length) : fillL θ (lh rs o) = fillL θ ((lh rs o).take a) ++ (fillL θ (oS sg rs o a) ++ fillL θ ((lh rs o).drop (a + (oS sg rs o a).length))) := by
 conv => lhs; rw [lo_parts h ha]
 rw [fill_append, fill_append]
theorem fill_left : fillL θ (leftA sg rs o a u) = fillL θ ((lh rs o).take a) ++ (fillL θ (shiftL 24 (rh rs u)) ++ fillL θ ((lh rs o).drop (a + (oS sg rs o a).length))) := by
 unfold leftA
 rw [fill_append, fill_append]
theorem mid_vars (hu : ∀ x, x ∈ rh rs u → x < 0 → x ∈ lh rs u) {x : Int} (hx : x ∈ fillL θ (shiftL 24 (rh rs u))) (h0 : x < 0) : x ∈ fillL θ (shiftL 24 (lh rs u)) := by
 obtain ⟨y, hy, hxy⟩ := mem_rep.1 hx
 obtain ⟨z, hz, rfl⟩ := List.mem_map.1 hy
 by_cases hz0 : z < 0
 ·exact mem_rep.2 ⟨_, List.mem_map.2 ⟨z, hu z hz hz0, rfl⟩, hxy⟩
 ·exfalso
  have e : sh 24 z = z := by unfold sh; rw [if_neg hz0]
  rw [e, rep_sym (by omega), List.mem_singleton] at hxy
  omega
theorem left_vars (h : termOkB sg (lh rs o) = true) (ha : a < (lh rs o).length) (hu : ∀ x, x ∈ rh rs u → x < 0 → x ∈ lh rs u) (he : fillL θ (oS sg rs o a) = fillL θ (oT rs u)) : ∀ x ∈ fillL θ (leftA sg rs o a u), x < 0 → x ∈ fillL θ (lh rs o) := by
 intro x hx h0
 rw [fill_lo h ha]
 rw [fill_left] at hx
 rcases List.mem_append.1 hx with hx | hx
 ·exact List.mem_append_left _ hx
 ·refine List.mem_append_right _ ?_
  rcases List.mem_append.1 hx with hx | hx
  ·refine List.mem_append_left _ ?_
   rw [he]
   exact mid_vars hu hx h0
  ·exact List.mem_append_right _ hx
theorem right_vars (ho : ∀ x, x ∈ rh rs o → x < 0 → x ∈ lh rs o) : ∀ x ∈ fillL θ (rh rs o), x < 0 → x ∈ fillL θ (lh rs o) := by
 intro x hx h0
 obtain ⟨y, hy, hxy⟩ := mem_rep.1 hx
 by_cases hy0 : y < 0
 ·exact mem_rep.2 ⟨y, ho y hy hy0, hxy⟩
 ·exfalso
  rw [rep_sym (by omega), List.mem_singleton] at hxy
  omega
end
theorem order_mem9 {t : List Int} {x : Int} : x ∈ orderL t ↔ x ∈ t ∧ x < 0 := by
 unfold orderL
 rw [fold_ext_mem]
 simp
end pkVars
end
section
namespace ufMath
open sig term termOk termFacts fillMath renMath matchMath unifMath forest triMath
structure Gr (sg : List Int) (n : Nat) (nm : Nat → Int) (nd : Nat → List Int) (ch : Nat → List Nat) (Inn : Nat → Prop) (a u : Nat) : Prop where
 fo : ∀ i, i < n → Fo sg 1 (nd i)
 sym : ∀ i, i < n → 0 ≤ nm i → Prt sg (nd i) ((ch i).map nd) ∧ (nd i).getD 0 0 = nm i
 lt : ∀ i, i < n → 0 ≤ nm i → ∀ c ∈ ch i, c < n
 var : ∀ i, i < n → nm i < 0 → ∃ x, x < 0 ∧ nd i = [x]
 inn : ∀ i, i < n → 0 ≤ nm i → Inn i → ∀ c ∈ ch i, Inn c
 ia : Inn a ∧ a < n
 iu : Inn u ∧ u < n
inductive Eqc (rt : Nat → Nat) (P : Nat → Nat → Prop) : Nat → Nat → Prop
 | same (i j : Nat) (h : rt i = rt j) : Eqc rt P i j
 | pend (i j : Nat) (h : P i j) : Eqc rt P i j
 | symm (i j : Nat) (h : Eqc rt P i j) : Eqc rt P j i
 | trans (i j k : Nat) (h : Eqc rt P i j) (h' : Eqc rt P j k) : Eqc rt P i k
theorem Eqc.mono {rt rt' : Nat → Nat} {P P' : Nat → Nat → Prop} (h1 : ∀ i j, rt i = rt j → Eqc rt' P' i j) (h2 : ∀ i j, P i j → Eqc rt' P' i j) {i j : Nat} (h : Eqc rt P i j) : Eqc rt' P' i j := by
 induction h with
 | same i j h => exact h1 i j h
 | pend i j h => exact h2 i j h
 | symm i j h ih => exact ih.symm
 | trans i j k h h' ih ih' => exact ih.trans _ _ _ ih'
theorem Eqc.none {rt : Nat → Nat} {i j : Nat} (h : Eqc rt (fun _ _ => False) i j) : rt i = rt j := by
 induction h with
 | same i j h => exact h
 | pend i j h => exact h.elim
 | symm i j h ih => exact ih.symm
 | trans i j k h h' ih ih' => exact ih.trans ih'
structure Lk (n : Nat) (nm : Nat → Int) (nd : Nat → List Int) (Inn : Nat → Prop) (lk : List Nat) (rt rk : Nat → Nat) : Prop where
 len : lk.length = n
 lt : ∀ i, i < n → lk.getD i 0 < n ∧ rt i < n
 root : ∀ i, i < n → lk.getD (rt i) 0 = rt i ∧ rt (rt i) = rt i
 step : ∀ i, i < n → rt (lk.getD i 0) = rt i
 self : ∀ i, i < n → lk.getD i 0 = i → rt i = i
 rnk : ∀ i, i < n → lk.getD i 0 ≠ i → rk (lk.getD i 0) < rk i
 top : ∀ i, i < n → 0 ≤ nm i → 0 ≤ nm (rt i)
 vars : ∀ i j, i < n → j < n → nm i < 0 → nd i = nd j → rt i = rt j
 one : ∀ i, i < n → 0 ≤ nm i → ¬ Inn i → ∀ j, j < n → rt j = rt i → j = i
def Snd (sg : List Int) (n : Nat) (nd : Nat → List Int) (a u : Nat) (rt : Nat → Nat) : Prop := ∀ θ, Unis sg (nd a) (nd u) θ → ∀ i, i < n → fillL θ (nd i) = fillL θ (nd (rt i))
def Clo (n : Nat) (nm : Nat → Int) (ch : Nat → List Nat) (rt : Nat → Nat) (P : Nat → Nat → Prop) : Prop := ∀ i, i < n → 0 ≤ nm i → nm (rt i) = nm i ∧ ∀ k, k < (ch i).length → Eqc rt P ((ch i).getD k 0) ((ch (rt i)).getD k 0)
def roots (lk : List Nat) : Nat := (List.range lk.length).countP fun i => decide (lk.getD i 0 = i)
variable {sg : List Int} {n : Nat} {nm : Nat → Int} {nd : Nat → List Int} {ch : Nat → List Nat} {Inn : Nat → Prop} {a u : Nat} {lk : List Nat} {rt rk : Nat → Nat} {P : Nat → Nat → Prop}
def rt2 (rt : Nat → Nat) (x y : Nat) (i : Nat) : Nat := if rt i = y then x else rt i
def rk2 (rt rk : Nat → Nat) (x y : Nat) (i : Nat) : Nat := if rt i = y then rk i + rk x + 1 else rk i
theorem get_set (lk : List Nat) {y : Nat} (hy : y < lk.length) (x i : Nat) : (lk.set y x).getD i 0 = if i = y then x else lk.getD i 0 := by
 by_cases h : i = y
 ·subst h; simp [List.getD, hy]
 ·simp [List.getD, h, Ne.symm h]
theorem Lk.link (h : Lk n nm nd Inn lk rt rk) {x y : Nat} (hx : x < n) (hy : y < n) (hx1 : rt x = x) (hy1 : rt y = y) (hne : x ≠ y) (hs : 0 ≤ nm x ∨ nm y < 0) (ix : ∃ p, p < n ∧ Inn p ∧ rt p = x) (iy : ∃ p, p < n ∧ Inn p ∧ rt p = y) :
  Lk n nm nd Inn (lk.set y x) (rt2 rt x y) (rk2 rt rk x y) := by
 have hyl : y < lk.length := by rw [h.len]; exact hy
 refine ⟨by rw [List.length_set]; exact h.len, ?_, ?_, ?_, ?_, ?_, ?_, ?_, ?_⟩
 ·intro i hi
  rw [get_set lk hyl]
  refine ⟨?_, ?_⟩
  ·split
   ·exact hx
   ·exact (h.lt i hi).1
  ·unfold rt2
   split
   ·exact hx
   ·exact (h.lt i hi).2
 ·intro i hi
  unfold rt2
  split
  ·rw [get_set lk hyl, if_neg hne, hx1, if_neg hne]
   have := (h.root x hx).1
   rw [hx1] at this
   exact ⟨this, rfl⟩
  ·rename_i e
   rw [get_set lk hyl, if_neg e, (h.root i hi).2, if_neg e]
   exact ⟨(h.root i hi).1, rfl⟩
 ·intro i hi
  rw [get_set lk hyl]
  unfold rt2
  split
  ·rename_i e
   rw [e, hx1, if_neg hne, hy1, if_pos rfl]
  ·rw [h.step i hi]
 ·intro i hi e
  rw [get_set lk hyl] at e
  split at e
  ·rename_i e1; exact absurd (e.trans e1) hne
  ·rename_i e1
   unfold rt2
   rw [h.self i hi e, if_neg e1]
 ·intro i hi e
  rw [get_set lk hyl] at e ⊢
  unfold rk2
  split at e
  ·rename_i e1
   rw [if_pos e1, e1, hx1, if_neg hne, hy1, if_pos rfl]
   omega
  ·rename_i e1
   rw [if_neg e1, h.step i hi]
   have := h.rnk i hi e
   split <;> omega
 ·intro i hi h0
  have h1 := h.top i hi h0
  unfold rt2
  split
  ·rename_i e
   rw [e] at h1
   omega
  ·exact h1
 ·intro i j hi hj h0 e
  unfold rt2
  rw [h.vars i j hi hj h0 e]
 ·intro i hi h0 hni j hj e
  have k1 : ∀ {z : Nat}, (∃ p, p < n ∧ Inn p ∧ rt p = z) → rt i ≠ z := by
   rintro z ⟨p, hp, hip, rfl⟩ e1
   have := h.one i hi h0 hni p hp e1.symm
   subst this
   exact hni hip
  unfold rt2 at e
  rw [if_neg (k1 iy)] at e
  split at e
  ·exact absurd e.symm (k1 ix)
  ·exact h.one i hi h0 hni j hj e
theorem rt2_coarse {x y i j : Nat} (e : rt i = rt j) : rt2 rt x y i = rt2 rt x y j := by unfold rt2; rw [e]
theorem rt2_joins {x y p q : Nat} (hp : rt p = x) (hq : rt q = y) (hne : x ≠ y) : rt2 rt x y p = rt2 rt x y q := by
 unfold rt2
 rw [hp, hq, if_neg hne, if_pos rfl]
theorem roots_link (h : Lk n nm nd Inn lk rt rk) {x y : Nat} (hy : y < n) (hy1 : rt y = y) (hne : x ≠ y) : roots (lk.set y x) + 1 = roots lk := by
 have hyl : y < lk.length := by rw [h.len]; exact hy
 have hl : lk.getD y 0 = y := by have := (h.root y hy).1; rw [hy1] at this; exact this
 unfold roots
 rw [List.length_set]
 have key : ∀ m, m ≤ lk.length → (List.range m).countP (fun i => decide ((lk.set y x).getD i 0 = i)) + (if y < m then 1 else 0) = (List.range m).countP fun i => decide (lk.getD i 0 = i) := by
  intro m
  induction m with
  | zero => intro _; simp
  | succ m ih =>
   intro hm
   have ih := ih (by omega)
   rw [List.range_succ, List.countP_append, List.countP_append, ← ih, List.countP_singleton, List.countP_singleton, get_set lk hyl]
   by_cases e : m = y
   ·subst e
    have a1 : (if m < m then 1 else 0) = (0 : Nat) := if_neg (Nat.lt_irrefl _)
    have a2 : (if m < m + 1 then 1 else 0) = (1 : Nat) := if_pos (Nat.lt_succ_self _)
    have a3 : ¬ decide (x = m) = true := by simpa using hne
    have a4 : decide (lk.getD m 0 = m) = true := by simpa using hl
    rw [a1, a2, if_pos rfl, if_neg a3, if_pos a4]
   ·rw [if_neg e]
    have a5 : (if y < m + 1 then 1 else 0) = (if y < m then 1 else (0 : Nat)) := by
     by_cases h1 : y < m
     ·rw [if_pos h1, if_pos (by omega)]
     ·rw [if_neg h1, if_neg (by omega)]
    rw [a5]
    omega
 have := key lk.length (Nat.le_refl _)
 rw [if_pos hyl] at this
 exact this
theorem Snd.link (hG : Gr sg n nm nd ch Inn a u) (h : Snd sg n nd a u rt) {x y : Nat} (hv : ∀ θ, Unis sg (nd a) (nd u) θ → fillL θ (nd x) = fillL θ (nd y)) : Snd sg n nd a u (rt2 rt x y) := by
 intro θ hθ i hi
 unfold rt2
 split
 ·rename_i e
  rw [h θ hθ i hi, e, hv θ hθ]
 ·exact h θ hθ i hi
theorem Clo.linkV (hL : Lk n nm nd Inn lk rt rk) (h : Clo n nm ch rt P) {x y : Nat} (hy0 : nm y < 0) : Clo n nm ch (rt2 rt x y) P := by
 intro i hi h0
 have e : rt i ≠ y := fun e => by have := hL.top i hi h0; rw [e] at this; omega
 have e2 : rt2 rt x y i = rt i := by unfold rt2; rw [if_neg e]
 rw [e2]
 obtain ⟨h1, h2⟩ := h i hi h0
 refine ⟨h1, fun k hk => ?_⟩
 have := h2 k hk
 exact this.mono (fun i j e => .same i j (rt2_coarse e)) (fun i j e => .pend i j e)
def pendS (ch : Nat → List Nat) (x y k : Nat) (P : Nat → Nat → Prop) (i j : Nat) : Prop := P i j ∨ ∃ m, k ≤ m ∧ m < (ch x).length ∧ i = (ch x).getD m 0 ∧ j = (ch y).getD m 0
theorem Clo.linkS (h : Clo n nm ch rt P) {x y : Nat} (hy : y < n) (hy1 : rt y = y) (hx1 : rt x = x) (e0 : nm x = nm y) (hy0 : 0 ≤ nm y) (hl : (ch x).length = (ch y).length) (hc : ∀ i, i < n → 0 ≤ nm i → rt i = y → (ch i).length = (ch y).length) :
  Clo n nm ch (rt2 rt x y) (pendS ch x y 0 P) := by
 intro i hi h0
 obtain ⟨h1, h2⟩ := h i hi h0
 have h3 : ∀ k, k < (ch i).length → Eqc (rt2 rt x y) (pendS ch x y 0 P) ((ch i).getD k 0) ((ch (rt i)).getD k 0) := fun k hk =>
  (h2 k hk).mono (fun i j e => .same i j (rt2_coarse e)) (fun i j e => .pend i j (.inl e))
 by_cases e : rt i = y
 ·have e2 : rt2 rt x y i = x := by unfold rt2; rw [if_pos e]
  rw [e2]
  rw [e] at h1 h3
  refine ⟨by rw [e0, h1], fun k hk => ?_⟩
  have hk2 : k < (ch x).length := by rw [hl, ← hc i hi h0 e]; exact hk
  exact (h3 k hk).trans _ _ _ (.symm _ _ (.pend _ _ (.inr ⟨k, Nat.zero_le _, hk2, rfl, rfl⟩)))
 ·have e2 : rt2 rt x y i = rt i := by unfold rt2; rw [if_neg e]
  rw [e2]
  exact ⟨h1, h3⟩
theorem Clo.next {x y k : Nat} (h : Clo n nm ch rt (pendS ch x y k P)) (e : rt ((ch x).getD k 0) = rt ((ch y).getD k 0)) : Clo n nm ch rt (pendS ch x y (k + 1) P) := by
 intro i hi h0
 obtain ⟨h1, h2⟩ := h i hi h0
 refine ⟨h1, fun m hm => (h2 m hm).mono (fun i j e => .same i j e) ?_⟩
 rintro i j (hp | ⟨m, hm, hm2, rfl, rfl⟩)
 ·exact .pend _ _ (.inl hp)
 ·by_cases e1 : m = k
  ·subst e1; exact .same _ _ e
  ·exact .pend _ _ (.inr ⟨m, by omega, hm2, rfl, rfl⟩)
theorem Clo.done {x y k : Nat} (h : Clo n nm ch rt (pendS ch x y k P)) (hk : (ch x).length ≤ k) : Clo n nm ch rt P := by
 intro i hi h0
 obtain ⟨h1, h2⟩ := h i hi h0
 refine ⟨h1, fun m hm => (h2 m hm).mono (fun i j e => .same i j e) ?_⟩
 rintro i j (hp | ⟨m, hm, hm2, rfl, rfl⟩)
 ·exact .pend _ _ hp
 ·omega
theorem Gr.chl (hG : Gr sg n nm nd ch Inn a u) {i : Nat} (hi : i < n) (h0 : 0 ≤ nm i) : (ch i).length = (ar sg (nm i)).toNat := by
 obtain ⟨⟨⟨x, -, -, e, hl⟩, -⟩, e2⟩ := hG.sym i hi h0
 rw [e] at e2
 have e2 : x = nm i := e2
 rw [← e2, ← hl, List.length_map]
theorem Gr.kids (hG : Gr sg n nm nd ch Inn a u) {x y : Nat} (hx : x < n) (hy : y < n) (hx0 : 0 ≤ nm x) (e : nm x = nm y) {θ : Nat → List Int} (hθ : Sb sg θ) (he : fillL θ (nd x) = fillL θ (nd y)) {k : Nat} (hk : k < (ch x).length) :
  fillL θ (nd ((ch x).getD k 0)) = fillL θ (nd ((ch y).getD k 0)) := by
 obtain ⟨h1, h2⟩ := hG.sym x hx hx0
 obtain ⟨h3, h4⟩ := hG.sym y hy (by omega)
 have h5 := (prt_same h1 h3 hθ (by rw [h2, h4, e])).1 he
 have hl : (ch x).length = (ch y).length := by rw [hG.chl hx hx0, hG.chl hy (by omega), e]
 have h6 := congrArg (fun l => l.getD k []) h5
 simpa [List.getD, hk, hl ▸ hk] using h6
theorem Gr.clash (hG : Gr sg n nm nd ch Inn a u) {x y : Nat} (hx : x < n) (hy : y < n) (hx0 : 0 ≤ nm x) (hy0 : 0 ≤ nm y) (e : nm x ≠ nm y) {θ : Nat → List Int} (he : fillL θ (nd x) = fillL θ (nd y)) : False := by
 obtain ⟨⟨⟨c, hc, -, e1, -⟩, -⟩, h2⟩ := hG.sym x hx hx0
 obtain ⟨⟨⟨d, hd, -, e3, -⟩, -⟩, h4⟩ := hG.sym y hy hy0
 rw [e1] at h2 he
 rw [e3] at h4 he
 rw [fill_cons, fill_cons, rep_sym hc, rep_sym hd] at he
 simp only [List.singleton_append, List.cons.injEq] at he
 have h2 : c = nm x := h2
 have h4 : d = nm y := h4
 omega
theorem Gr.less (hG : Gr sg n nm nd ch Inn a u) {x : Nat} (hx : x < n) (hx0 : 0 ≤ nm x) {θ : Nat → List Int} (hθ : Sb sg θ) {c : Nat} (hc : c ∈ ch x) : (fillL θ (nd c)).length < (fillL θ (nd x)).length := by
 obtain ⟨h1, -⟩ := hG.sym x hx hx0
 have h2 := (h1.fill hθ).len
 rw [h2, List.map_map, List.map_map]
 have : ∀ (l : List Nat) (f : Nat → Nat), c ∈ l → f c ≤ (l.map f).sum := by
  intro l f
  induction l with
  | nil => intro h; cases h
  | cons z l ih =>
   intro h
   rw [List.map_cons, List.sum_cons]
   rcases List.mem_cons.1 h with e | e
   ·rw [e]; omega
   ·have := ih e; omega
 have := this (ch x) (fun c => (fillL θ (nd c)).length) hc
 simp only [Function.comp_def]
 omega
def Good (n : Nat) (nm : Nat → Int) (ch : Nat → List Nat) (rt : Nat → Nat) (D : List Nat) : Prop := ∀ j, j < D.length → D.getD j 0 < n ∧ rt (D.getD j 0) = D.getD j 0 ∧ (0 ≤ nm (D.getD j 0) → ∀ c ∈ ch (D.getD j 0), ∃ i, i < j ∧ D.getD i 0 = rt c)
theorem getD_app {D E : List Nat} {j : Nat} (h : j < D.length) : (D ++ E).getD j 0 = D.getD j 0 := by simp [List.getD, List.getElem?_append_left h]
theorem getD_end (D : List Nat) (r : Nat) : (D ++ [r]).getD D.length 0 = r := by simp [List.getD]
theorem mem_at {D : List Nat} {x : Nat} : x ∈ D ↔ ∃ i, i < D.length ∧ D.getD i 0 = x := by
 rw [List.mem_iff_getElem]
 constructor
 ·rintro ⟨i, hi, e⟩; exact ⟨i, hi, by simp [List.getD, hi, e]⟩
 ·rintro ⟨i, hi, e⟩; exact ⟨i, hi, by simpa [List.getD, hi] using e⟩
theorem Good.snoc {D : List Nat} (h : Good n nm ch rt D) {r : Nat} (hr : r < n) (hr1 : rt r = r) (hc : 0 ≤ nm r → ∀ c ∈ ch r, rt c ∈ D) : Good n nm ch rt (D ++ [r]) := by
 intro j hj
 rw [List.length_append] at hj
 by_cases e : j < D.length
 ·rw [getD_app e]
  obtain ⟨h1, h2, h3⟩ := h j e
  refine ⟨h1, h2, fun h0 c hc => ?_⟩
  obtain ⟨i, hi, e2⟩ := h3 h0 c hc
  exact ⟨i, hi, by rw [getD_app (by omega)]; exact e2⟩
 ·have e : j = D.length := by simp at hj; omega
  rw [e, getD_end]
  refine ⟨hr, hr1, fun h0 c hc' => ?_⟩
  obtain ⟨i, hi, e2⟩ := mem_at.1 (hc h0 c hc')
  exact ⟨i, hi, by rw [getD_app hi]; exact e2⟩
def rsv (nm : Nat → Int) (ch : Nat → List Nat) (rt : Nat → Nat) : Nat → Nat → List Int
 | 0, r => [-1 - (r : Int)]
 | f + 1, r => if nm r < 0 then [-1 - (r : Int)] else nm r :: ((ch r).map fun c => rsv nm ch rt f (rt c)).flatten
theorem rsv_var {f r : Nat} (h : nm r < 0) : rsv nm ch rt f r = [-1 - (r : Int)] := by
 cases f with
 | zero => rfl
 | succ f => unfold rsv; rw [if_pos h]
theorem rsv_enough {D : List Nat} (h : Good n nm ch rt D) : ∀ (j f g : Nat), j < D.length → j < f → j < g → rsv nm ch rt f (D.getD j 0) = rsv nm ch rt g (D.getD j 0) := by
 intro j
 induction j using Nat.strongRecOn with
 | _ j ih =>
  intro f g hj hf hg
  obtain ⟨f, rfl⟩ : ∃ z, f = z + 1 := ⟨f - 1, by omega⟩
  obtain ⟨g, rfl⟩ : ∃ z, g = z + 1 := ⟨g - 1, by omega⟩
  unfold rsv
  split
  ·rfl
  ·rename_i h0
   congr 2
   refine List.map_congr_left fun c hc => ?_
   obtain ⟨i, hi, e⟩ := (h j hj).2.2 (by omega) c hc
   rw [← e]
   exact ih i hi f g (by omega) (by omega) (by omega)
def rnd (nm : Nat → Int) (ch : Nat → List Nat) (rt : Nat → Nat) (D : List Nat) (i : Nat) : List Int := rsv nm ch rt D.length (rt i)
theorem rnd_sym {D : List Nat} (h : Good n nm ch rt D) {r : Nat} (hr : rt r ∈ D) (h0 : 0 ≤ nm (rt r)) : rnd nm ch rt D r = nm (rt r) :: ((ch (rt r)).map (rnd nm ch rt D)).flatten := by
 obtain ⟨j, hj, e⟩ := mem_at.1 hr
 unfold rnd
 rw [← e] at h0 ⊢
 rw [rsv_enough h j D.length (D.length + 1) hj hj (by omega)]
 rw [show rsv nm ch rt (D.length + 1) (D.getD j 0) = if nm (D.getD j 0) < 0 then [-1 - (D.getD j 0 : Int)] else nm (D.getD j 0) :: ((ch (D.getD j 0)).map fun c => rsv nm ch rt D.length (rt c)).flatten from rfl, if_neg (by omega)]
theorem rnd_same {D : List Nat} {i j : Nat} (e : rt i = rt j) : rnd nm ch rt D i = rnd nm ch rt D j := by unfold rnd; rw [e]
theorem rnd_var {D : List Nat} {i : Nat} (h : nm (rt i) < 0) : rnd nm ch rt D i = [-1 - (rt i : Int)] := rsv_var h
structure Whole (sg : List Int) (n : Nat) (nm : Nat → Int) (nd : Nat → List Int) (ch : Nat → List Nat) (Inn : Nat → Prop) (a u : Nat) (lk : List Nat) (rt rk : Nat → Nat) (D : List Nat) : Prop where
 gr : Gr sg n nm nd ch Inn a u
 lk : Lk n nm nd Inn lk rt rk
 snd : Snd sg n nd a u rt
 clo : Clo n nm ch rt fun _ _ => False
 eq : rt a = rt u
 good : Good n nm ch rt D
 all : ∀ i, i < n → Inn i → rt i ∈ D
variable {D : List Nat}
theorem Whole.hasD (h : Whole sg n nm nd ch Inn a u lk rt rk D) {i : Nat} (hi : i < n) (h0 : 0 ≤ nm (rt i)) (hv : nm i < 0 ∨ Inn i) : rt i ∈ D := by
 by_cases hin : Inn (rt i)
 ·have := h.all (rt i) (h.lk.lt i hi).2 hin
  rw [(h.lk.root i hi).2] at this
  exact this
 ·have e := h.lk.one (rt i) (h.lk.lt i hi).2 h0 hin i hi (h.lk.root i hi).2.symm
  rcases hv with hv | hv
  ·rw [← e] at h0; omega
  ·exact absurd (e ▸ hv) hin
theorem Good.fo (hG : Gr sg n nm nd ch Inn a u) {D : List Nat} (h : Good n nm ch rt D) : ∀ (j f : Nat), j < D.length → j < f → Fo sg 1 (rsv nm ch rt f (D.getD j 0)) := by
 intro j
 induction j using Nat.strongRecOn with
 | _ j ih =>
  intro f hj hf
  obtain ⟨f, rfl⟩ : ∃ z, f = z + 1 := ⟨f - 1, by omega⟩
  obtain ⟨h1, h2, h3⟩ := h j hj
  unfold rsv
  split
  ·exact Fo.vt _
  ·rename_i h0
   obtain ⟨⟨⟨x, hx0, ha, e, hl⟩, -⟩, e2⟩ := hG.sym _ h1 (by omega)
   rw [e] at e2
   have e2 : x = nm (D.getD j 0) := e2
   refine Fo.app _ _ 0 (by omega) (by rw [← e2]; exact ha) ?_
   rw [Nat.add_zero, ← e2, ← hl, List.length_map]
   have : (ch (D.getD j 0)).length = ((ch (D.getD j 0)).map fun c => rsv nm ch rt f (rt c)).length := by simp
   rw [this]
   refine flat_fo fun p hp => ?_
   obtain ⟨c, hc, rfl⟩ := List.mem_map.1 hp
   obtain ⟨i, hi, e3⟩ := h3 (by omega) c hc
   rw [← e3]
   exact ih i hi f (by omega) (by omega)
theorem Whole.fo (h : Whole sg n nm nd ch Inn a u lk rt rk D) {i : Nat} (hd : rt i ∈ D ∨ nm (rt i) < 0) : Fo sg 1 (rnd nm ch rt D i) := by
 rcases hd with hd | hd
 ·obtain ⟨j, hj, e⟩ := mem_at.1 hd
  unfold rnd
  rw [← e]
  exact h.good.fo h.gr j _ hj hj
 ·rw [rnd_var hd]; exact Fo.vt _
theorem Whole.nodes (h : Whole sg n nm nd ch Inn a u lk rt rk D) {L : Nat → List Int} (hL : ∀ i x, i < n → nm i < 0 → nd i = [x] → L (vr x) = rnd nm ch rt D i) :
  ∀ (m i : Nat), i < n → Inn i → (nd i).length ≤ m → fillL L (nd i) = rnd nm ch rt D i := by
 intro m
 induction m with
 | zero => intro i hi _ hm; have := (h.gr.fo i hi).pos; omega
 | succ m ih =>
  intro i hi hin hm
  by_cases h0 : nm i < 0
  ·obtain ⟨x, hx, e⟩ := h.gr.var i hi h0
   rw [e, fill_one, rep_vr hx]
   exact hL i x hi h0 e
  ·obtain ⟨hp, e2⟩ := h.gr.sym i hi (by omega)
   obtain ⟨c1, c2⟩ := h.clo i hi (by omega)
   have h3 : 0 ≤ nm (rt i) := by omega
   rw [rnd_sym h.good (h.all i hi hin) h3, c1]
   have hlen := hp.len
   obtain ⟨⟨x, hx0, -, e, -⟩, -⟩ := hp
   rw [e] at e2
   have e2 : x = nm i := e2
   rw [e, fill_cons, rep_sym hx0, fill_flat, e2, List.map_map]
   refine congrArg (fun l => nm i :: List.flatten l) ?_
   have hl2 : (ch i).length = (ch (rt i)).length := by rw [h.gr.chl hi (by omega), h.gr.chl (h.lk.lt i hi).2 h3, c1]
   refine List.ext_getElem (by simp [hl2]) ?_
   intro k h1 h2
   rw [List.length_map] at h1 h2
   simp only [List.getElem_map, Function.comp_def]
   have hmem : (ch i)[k] ∈ ch i := List.getElem_mem _
   have h4 := (c2 k h1).none
   have h5 : (ch i).getD k 0 = (ch i)[k] := by simp [List.getD, h1]
   have h6 : (ch (rt i)).getD k 0 = (ch (rt i))[k] := by simp [List.getD, h2]
   rw [h5, h6] at h4
   rw [← rnd_same (D := D) h4]
   refine ih _ (h.gr.lt i hi (by omega) _ hmem) (h.gr.inn i hi (by omega) hin _ hmem) ?_
   have h7 : ∀ (l : List Nat), (ch i)[k] ∈ l → (nd (ch i)[k]).length ≤ (((l.map nd).map List.length)).sum := by
    intro l
    induction l with
    | nil => intro h; cases h
    | cons z l ih =>
     intro h
     rw [List.map_cons, List.map_cons, List.sum_cons]
     rcases List.mem_cons.1 h with e | e
     ·rw [e]; omega
     ·have := ih e; omega
   have := h7 (ch i) hmem
   omega
theorem Whole.gen (h : Whole sg n nm nd ch Inn a u lk rt rk D) {θ : Nat → List Int} (hθ : Unis sg (nd a) (nd u) θ) {i : Nat} (hi : i < n) (hd : rt i ∈ D ∨ nm (rt i) < 0) :
  fillL (fun r => fillL θ (nd r)) (rnd nm ch rt D i) = fillL θ (nd i) := by
 rw [h.snd θ hθ i hi]
 rcases hd with hd | hd
 ·obtain ⟨j, hj, e⟩ := mem_at.1 hd
  unfold rnd
  rw [← e]
  clear hd e hi
  have key : ∀ (j f : Nat), j < D.length → j < f → fillL (fun r => fillL θ (nd r)) (rsv nm ch rt f (D.getD j 0)) = fillL θ (nd (D.getD j 0)) := by
   intro j
   induction j using Nat.strongRecOn with
   | _ j ih =>
    intro f hj hf
    obtain ⟨f, rfl⟩ : ∃ z, f = z + 1 := ⟨f - 1, by omega⟩
    obtain ⟨h1, h2, h3⟩ := h.good j hj
    unfold rsv
    split
    ·exact fill_vti _ _
    ·rename_i h0
     obtain ⟨⟨⟨x, hx0, ha, e, hl⟩, -⟩, e2⟩ := h.gr.sym _ h1 (by omega)
     rw [e] at e2
     have e2 : x = nm (D.getD j 0) := e2
     rw [fill_cons, rep_sym (by omega), fill_flat, List.map_map, e, fill_cons, rep_sym hx0, fill_flat, List.map_map, e2]
     congr 2
     refine List.map_congr_left fun c hc => ?_
     simp only [Function.comp_def]
     obtain ⟨i, hi, e3⟩ := h3 (by omega) c hc
     rw [← e3, ih i hi f (by omega) (by omega), e3]
     exact (h.snd θ hθ c (h.gr.lt _ h1 (by omega) c hc)).symm
  exact key j _ hj hj
 ·rw [rnd_var hd]; exact fill_vti _ _
end ufMath
end
section
namespace ufMath
open sig term termOk termFacts fillMath renMath matchMath unifMath forest triMath
open Classical in
noncomputable def wL (n : Nat) (nm : Nat → Int) (nd : Nat → List Int) (ch : Nat → List Nat) (rt : Nat → Nat) (D : List Nat) (j : Nat) : List Int :=
 if h : ∃ i, i < n ∧ nm i < 0 ∧ nd i = [-1 - (j : Int)] then rnd nm ch rt D (Classical.choose h) else vt j
section
variable {sg : List Int} {n : Nat} {nm : Nat → Int} {nd : Nat → List Int} {ch : Nat → List Nat} {Inn : Nat → Prop} {a u : Nat} {lk : List Nat} {rt rk : Nat → Nat} {D : List Nat}
theorem Whole.wL (h : Whole sg n nm nd ch Inn a u lk rt rk D) : ∀ i x, i < n → nm i < 0 → nd i = [x] → ufMath.wL n nm nd ch rt D (vr x) = rnd nm ch rt D i := by
 intro i x hi h0 e
 obtain ⟨x', hx', e'⟩ := h.gr.var i hi h0
 rw [e] at e'
 injection e' with e' _
 subst e'
 have hex : ∃ i, i < n ∧ nm i < 0 ∧ nd i = [-1 - ((vr x : Nat) : Int)] := ⟨i, hi, h0, by rw [at_vr hx']; exact e⟩
 unfold ufMath.wL
 rw [dif_pos hex]
 obtain ⟨h1, h2, h3⟩ := Classical.choose_spec hex
 exact rnd_same (h.lk.vars _ _ h1 hi h2 (by rw [h3, e, at_vr hx']))
theorem Whole.sb (h : Whole sg n nm nd ch Inn a u lk rt rk D) : Sb sg (ufMath.wL n nm nd ch rt D) := by
 intro j
 unfold ufMath.wL
 split
 ·rename_i hex
  obtain ⟨h1, h2, h3⟩ := Classical.choose_spec hex
  refine h.fo ?_
  by_cases h0 : nm (rt (Classical.choose hex)) < 0
  ·exact .inr h0
  ·exact .inl (h.hasD h1 (by omega) (.inl h2))
 ·exact Fo.vt j
theorem Whole.unis (h : Whole sg n nm nd ch Inn a u lk rt rk D) : Unis sg (nd a) (nd u) (ufMath.wL n nm nd ch rt D) := by
 refine ⟨h.sb, ?_⟩
 rw [h.nodes h.wL _ a h.gr.ia.2 h.gr.ia.1 (Nat.le_refl _), h.nodes h.wL _ u h.gr.iu.2 h.gr.iu.1 (Nat.le_refl _)]
 exact rnd_same h.eq
theorem whole_un (h : Whole sg n nm nd ch Inn a u lk rt rk D) : ∃ θ, Unis sg (nd a) (nd u) θ := ⟨_, h.unis⟩
end
end ufMath
end
section
namespace nodes
open sig term termOk termFacts depth args fillMath matchMath unifMath forest
structure Twin (t t' : List Int) : Prop where
 len : t'.length = t.length
 sym : ∀ i, 0 ≤ t.getD i 0 → t'.getD i 0 = t.getD i 0
 var : ∀ i, t.getD i 0 < 0 → t'.getD i 0 < 0
def nd (sg t t' : List Int) (p : Nat) : List Int := (t'.drop p).take (len1 sg t p)
def ndI (sg t t' : List Int) (x : Int) : List Int := nd sg t t' x.toNat
def chN (sg t : List Int) (p : Nat) : List Nat := (argsL sg t p).map Int.toNat
variable {sg t t' : List Int}
theorem nd_flat : ∀ {q p i : Nat}, scan sg q (t.drop p) = some i → (t'.drop p).take i = ((places sg t q p).map (ndI sg t t')).flatten
 | 0, p, i, h => by
  rw [scan_zero] at h
  injection h with h
  subst h
  simp [places]
 | q + 1, p, i, h => by
  obtain ⟨j, h1, h2, h3, h4⟩ := scan_first h
  have ih := nd_flat h4
  have e1 : len1 sg t p = j := len1_eq h1
  rw [show places sg t (q + 1) p = (p : Int) :: places sg t q (p + len1 sg t p) from rfl, List.map_cons, List.flatten_cons, e1, ← ih]
  rw [show ndI sg t t' (p : Int) = (t'.drop p).take (len1 sg t p) from rfl, e1, ← List.drop_drop]
  rw [← List.take_add]
  congr 1
  omega
theorem places_in : ∀ {q p i : Nat}, scan sg q (t.drop p) = some i → ∀ x ∈ places sg t q p, ∃ c : Nat, x = (c : Int) ∧ p ≤ c ∧ scan sg 1 (t.drop c) = some (len1 sg t c) ∧ c + len1 sg t c ≤ p + i ∧ 1 ≤ len1 sg t c
 | 0, p, i, h, x, hx => by cases hx
 | q + 1, p, i, h, x, hx => by
  obtain ⟨j, h1, h2, h3, h4⟩ := scan_first h
  have e1 : len1 sg t p = j := len1_eq h1
  rcases List.mem_cons.1 hx with e | e
  ·exact ⟨p, e, Nat.le_refl _, by rw [e1]; exact h1, by omega, by omega⟩
  ·rw [e1] at e
   obtain ⟨c, e2, h5, h6, h7, h8⟩ := places_in h4 x e
   exact ⟨c, e2, by omega, h6, by omega, h8⟩
theorem nd_head (hT : Twin t t') {p i : Nat} (hp : p < t.length) (h : len1 sg t p = i + 1) : nd sg t t' p = t'.getD p 0 :: (t'.drop (p + 1)).take i := by
 unfold nd
 rw [h, drop_cons (by rw [hT.len]; exact hp), List.take_succ_cons]
theorem nd_all (hT : Twin t t') : ∀ (m p j : Nat), scan sg 1 (t.drop p) = some j → j ≤ m → Fo sg 1 (nd sg t t' p) ∧ (0 ≤ t.getD p 0 → Prt sg (nd sg t t' p) ((chN sg t p).map (nd sg t t')) ∧ (nd sg t t' p).getD 0 0 = t.getD p 0) ∧ (t.getD p 0 < 0 → nd sg t t' p = [t'.getD p 0])
 | 0, p, j, h, hm => by have := scan_pos (q := 0) h; omega
 | m + 1, p, j, h, hm => by
  obtain ⟨i, rfl, hp, ha, h1⟩ := scan_args h
  have e1 : len1 sg t p = i + 1 := len1_eq h
  have e2 := nd_head (sg := sg) hT hp e1
  by_cases h0 : t.getD p 0 < 0
  ·have ha0 : ar sg (t.getD p 0) = 0 := by
    unfold ar at ha ⊢
    split at ha
    ·rename_i h3; rw [if_pos h3]
    ·rename_i h3
     split at ha
     ·omega
     ·exact absurd (by decide) ha
   rw [ha0] at h1
   have hi : i = 0 := by
    have h1 : scan sg 0 (t.drop (p + 1)) = some i := h1
    rw [scan_zero] at h1
    injection h1 with h1
    exact h1.symm
   subst hi
   have e3 : nd sg t t' p = [t'.getD p 0] := by rw [e2, List.take_zero]
   refine ⟨by rw [e3]; exact Fo.var _ _ 0 (hT.var p h0) .nil, fun h => by omega, fun _ => e3⟩
  ·have e4 := nd_flat (t' := t') h1
   have hch : (chN sg t p).map (nd sg t t') = (places sg t (ar sg (t.getD p 0)).toNat (p + 1)).map (ndI sg t t') := by
    unfold chN argsL
    rw [List.map_map]
    rfl
   have e5 : t'.getD p 0 = t.getD p 0 := hT.sym p (by omega)
   have hprt : Prt sg (nd sg t t' p) ((chN sg t p).map (nd sg t t')) := by
    refine ⟨⟨t.getD p 0, by omega, by omega, ?_, ?_⟩, ?_⟩
    ·rw [hch, e2, e4, e5]
    ·rw [hch, List.length_map, places_len]
    ·intro x hx
     rw [hch] at hx
     obtain ⟨y, hy, rfl⟩ := List.mem_map.1 hx
     obtain ⟨c, rfl, h5, h6, h7, h8⟩ := places_in h1 y hy
     exact (nd_all hT m c _ h6 (by omega)).1
   exact ⟨hprt.fo, fun _ => ⟨hprt, by rw [e2, e5]; rfl⟩, fun h => absurd h h0⟩
theorem ch_in {p j : Nat} (h : scan sg 1 (t.drop p) = some j) : ∀ c ∈ chN sg t p, p < c ∧ c + len1 sg t c ≤ p + j ∧ c < t.length ∧ scan sg 1 (t.drop c) = some (len1 sg t c) := by
 intro c hc
 obtain ⟨i, rfl, hp, ha, h1⟩ := scan_args h
 obtain ⟨y, hy, rfl⟩ := List.mem_map.1 hc
 obtain ⟨c, rfl, h5, h6, h7, h8⟩ := places_in h1 y hy
 have h9 := scan_le h6
 rw [List.length_drop] at h9
 rw [Int.toNat_natCast]
 exact ⟨by omega, by omega, by omega, h6⟩
end nodes
end
section
open Go.Lib (hid)
namespace ovImpl
open Go.RowKit base ints sig term termOk termFacts sub cursor args sym varsOf marks app appAt segs kinds shape kindsR drawX fillMath matchMath unifMath forest triMath nodes ufMath stk bnd Go.Proofs.YtlmofkeemlfpgaaGreat.look
set_option maxRecDepth 100000
structure Ov (w : World) (Q : Nat → Prop) (p lb : Nat) (A : Option Addr) (n c : Nat) (v : Value) (o a u : Int) (X : Option Addr) (xn xc lc : Nat) (sg nums : List Int) (lk : List Nat) : Prop where
 row : Row w p 122 #[.slice A n c, v, .int .i64 o, .int .i64 a, .int .i64 u, .slice X xn xc, .slice (some ⟨lb, 0, none⟩) xn lc]
 sg : RdQ w Q sI [.slice A n c] sg
 nm : RdQ w Q sI [.slice X xn xc] nums
 lk : ∃ cur, Row w lb 2 cur ∧ lk.length = xn ∧ ∀ i, i < xn → cur[i]? = some (.int .i64 ((lk.getD i 0 : Nat) : Int))
 ne : p ≠ lb
 q : ∀ b, Q b → b ≠ p ∧ b ≠ lb ∧ b < w.heap.size
section
variable {w w' : World} {Q : Nat → Prop} {p lb : Nat} {A : Option Addr} {n c : Nat} {v : Value} {o a u : Int} {X : Option Addr} {xn xc lc : Nat} {sg nums : List Int} {lk : List Nat}
theorem Ov.lt (h : Ov w Q p lb A n c v o a u X xn xc lc sg nums lk) : p < w.heap.size ∧ lb < w.heap.size := by
 obtain ⟨cur, r, -, -⟩ := h.lk
 exact ⟨h.row.lt, r.lt⟩
theorem Ov.next (h : Ov w Q p lb A n c v o a u X xn xc lc sg nums lk) (hb : Below w.heap.size w w') : Ov w' Q p lb A n c v o a u X xn xc lc sg nums lk := by
 obtain ⟨cur, r, hl, hc⟩ := h.lk
 have hk : Keep Q w w' := Keep.below hb fun b hq => (h.q b hq).2.2
 exact ⟨h.row.next hb, h.sg.keep hk, h.nm.keep hk, ⟨cur, r.next hb, hl, hc⟩, h.ne, fun b hq => ⟨(h.q b hq).1, (h.q b hq).2.1, Nat.lt_of_lt_of_le (h.q b hq).2.2 hb.size⟩⟩
theorem Ov.drewN (h : Ov w Q p lb A n c v o a u X xn xc lc sg nums lk) (k : Nat) : Ov (w.drewN k) Q p lb A n c v o a u X xn xc lc sg nums lk := h.next (base.below_drewN (Below.refl _ _) k)
theorem Ov.at (h : Ov w Q p lb A n c v o a u X xn xc lc sg nums lk) {i : Nat} (hi : i < xn) : w.cell? ⟨lb, i, none⟩ = some (.int .i64 ((lk.getD i 0 : Nat) : Int)) := by
 obtain ⟨cur, r, hl, hc⟩ := h.lk
 exact (r.cell i).trans (hc i hi)
theorem Ov.free (h : Ov w Q p lb A n c v o a u X xn xc lc sg nums lk) (i : Nat) : w.frozen? ⟨lb, i, none⟩ = false := by
 obtain ⟨cur, r, hl, hc⟩ := h.lk
 exact r.free i
theorem Ov.set (h : Ov w Q p lb A n c v o a u X xn xc lc sg nums lk) {i j : Nat} (hi : i < xn) : Ov (w.setCell ⟨lb, i, none⟩ (.int .i64 (j : Int))) Q p lb A n c v o a u X xn xc lc sg nums (lk.set i j) := by
 obtain ⟨cur, r, hl, hc⟩ := h.lk
 have hk : Keep Q w (w.setCell ⟨lb, i, none⟩ (.int .i64 (j : Int))) := fun b hb => Below.heap_setCell w _ _ b (h.q b hb).2.1
 refine ⟨h.row.far h.ne _, h.sg.keep hk, h.nm.keep hk, ⟨_, r.put i _, by rw [List.length_set]; exact hl, fun k hkk => ?_⟩, h.ne, fun b hq => ⟨(h.q b hq).1, (h.q b hq).2.1, by have := (h.q b hq).2.2; simpa using this⟩⟩
 by_cases e : k = i
 ·subst e
  have hs : k < cur.size := (Array.getElem?_eq_some_iff.1 (hc k hkk)).1
  rw [get_set lk (by omega), if_pos rfl]
  simp [hs]
 ·rw [get_set lk (by omega), if_neg e, Array.getElem?_setIfInBounds_ne (Ne.symm e)]
  exact hc k hkk
theorem Ov.c0 (h : Ov w Q p lb A n c v o a u X xn xc lc sg nums lk) : w.cell? ⟨p, 0, none⟩ = some (.slice A n c) := h.row.cell 0
theorem Ov.c5 (h : Ov w Q p lb A n c v o a u X xn xc lc sg nums lk) : w.cell? ⟨p, 5, none⟩ = some (.slice X xn xc) := h.row.cell 5
theorem Ov.c6 (h : Ov w Q p lb A n c v o a u X xn xc lc sg nums lk) : w.cell? ⟨p, 6, none⟩ = some (.slice (some ⟨lb, 0, none⟩) xn lc) := h.row.cell 6
end
variable {nm : Nat → Int} {nd : Nat → List Int} {ch : Nat → List Nat} {Inn : Nat → Prop} {rt rk : Nat → Nat}
def HeadFd (rt rk : Nat → Nat) (xn i : Nat) (f : Nat) (at_ : Value) (w wr : World) : Prop := ∃ k : Nat, at_ = .int .i64 (k : Int) ∧ k < xn ∧ rt k = rt i ∧ rk k < f ∧ wr = w
set_option maxHeartbeats 1000000 in
theorem find (Q : Nat → Prop) (p lb : Nat) (A : Option Addr) (n c : Nat) (v : Value) (o a u : Int) (X : Option Addr) (xn xc lc : Nat) (sg nums : List Int) (lk : List Nat) (i : Nat) (w : World) (h : Ov w Q p lb A n c v o a u X xn xc lc sg nums lk) (hL : Lk xn nm nd Inn lk rt rk) (hi : i < xn) :
  Calls Tryz.prog 158 #[.pointer (some ⟨p, 0, none⟩), .int .i64 (i : Int)] w fun e w' => e = .returned (.int .i64 (rt i : Int)) ∧ w' = w := by
 have H := hid h
 have HL := hid hL
 have c6 := h.c6
 have S0 := hid (show HeadFd rt rk xn i (rk i + 1) (.int .i64 (i : Int)) w w from ⟨i, rfl, hi, rfl, Nat.lt_succ_self _, rfl⟩)
 clear h hL hi
 go_enter Tryz.func158, Tryz.ntmps158
 go_wp2_with fail
 go_loopg [1] (rk i + 1) (fun f at_ wr => HeadFd rt rk xn i f at_ w wr)
 case atStart => exact S0.out
 case round =>
  clear S0
  obtain ⟨k, rfl, hk, hrt, hrk, rfl⟩ := hrel
  have ck := H.out.at hk
  obtain ⟨z, hz⟩ : ∃ z, lk.getD k 0 = z := ⟨_, rfl⟩
  rw [hz] at ck
  have i0 : (0 : Int) ≤ (k : Int) := by omega
  have i1 : (k : Int) < (xn : Int) := by omega
  by_cases he : z = k
  ·have e1 : ((z : Int) != (k : Int)) = false := by simp [he]
   have F := hid (show rt i = k by rw [← hrt]; exact HL.out.self k hk (by rw [hz]; exact he))
   clear hrt hrk hz hk he
   go_wp2
   go_ret
   exact ⟨by rw [F.out]; rfl, rfl⟩
  ·have e1 : ((z : Int) != (k : Int)) = true := by simp; omega
   have hlt := (HL.out.lt k hk).1
   have hst := HL.out.step k hk
   have hrr := HL.out.rnk k hk (by rw [hz]; exact he)
   rw [hz] at hlt hst hrr
   have S := hid (show HeadFd rt rk xn i (rk k) (.int .i64 (z : Int)) wr wr from ⟨z, rfl, hlt, hst.trans hrt, hrr, rfl⟩)
   have HR := hid hrk
   clear hrt hrk hz hk he hlt hst hrr
   go_wp2
   go_roundg (rk k)
   case measure => exact HR.out
   case rel => exact S.out
set_option maxHeartbeats 1000000 in
theorem ovArgs (Q : Nat → Prop) (p lb : Nat) (A : Option Addr) (n c : Nat) (v : Value) (o a u : Int) (X : Option Addr) (xn xc lc : Nat) (sg nums : List Int) (lk : List Nat) (i j : Nat) (w : World) (h : Ov w Q p lb A n c v o a u X xn xc lc sg nums lk) (hs : Arities sg) (hn : n ≤ 1048576) (hxn : xn ≤ 1048576) (hi : i < xn) (hj : scan sg 1 (nums.drop i) = some j) :
  Calls Tryz.prog 159 #[.pointer (some ⟨p, 0, none⟩), .int .i64 (i : Int)] w (AnsList w (argsL sg nums i)) := by
 have c0 := h.c0
 have c5 := h.c5
 have hq := fun b hb => (h.q b hb).2.2
 have sS : Seg w w.heap.size A n sg := Rd.seg (h.sg.rd hq)
 have sN : Seg w w.heap.size X xn nums := Rd.seg (h.nm.rd hq)
 have hjl := scan_le hj
 rw [List.length_drop, sN.1] at hjl
 have LC := hid (cursorArgs w.heap.size A X n c xn xc sg nums i j ((w.alloc (.cells #[.slice A n c, .slice X xn xc, .int .i64 (i : Int)] 108)).drew) (Go.Proofs.YtlmofkeemlfpgaaGreat.args.Cur.keep (cur_new sS sN hn hxn hs i (by omega)) ⟨rfl, rfl, rfl, Nat.le_refl _, fun _ _ => rfl⟩) sN.1 hi hj (by omega))
 have hp := h.lt.1
 have d0 : (w.alloc (.cells #[.slice none 0 0, .slice none 0 0, .int .i64 0] 108)).cell? ⟨p, 0, none⟩ = some (.slice A n c) := (World.cell?_alloc_lt _ _ _ hp).trans c0
 have d5 : (w.alloc (.cells #[.slice none 0 0, .slice none 0 0, .int .i64 0] 108)).cell? ⟨p, 5, none⟩ = some (.slice X xn xc) := (World.cell?_alloc_lt _ _ _ hp).trans c5
 clear h hq sS sN hjl hj hs
 go_enter Tryz.func159, Tryz.ntmps159
 go_wp2_with fail
 go_region_law (fail)
 all_goals
  go_wp2_with fail
  refine LC.out.mono ?_
  rintro e w2 ⟨O, on, oc, rfl, oO, gg⟩
  have gg2 : (w.alloc (.cells #[.slice A n c, .slice X xn xc, .int .i64 (i : Int)] 108)).grownBy w2 (some w.heap.size) := ⟨gg.os, gg.tape, gg.output, gg.size, gg.block⟩
  have F := hid (show AnsList w (argsL sg nums i) (.returned (.slice O on oc)) w2 from ⟨O, on, oc, rfl, Own.lower oO (by simp), grown_new gg2⟩)
  clear oO gg gg2
  go_wp2
  go_ret
  exact F.out
end ovImpl
end
section
open Go.Lib (hid)
namespace linkImpl
open Go.RowKit base ints sig term depth args sym varsOf marks app appAt segs kinds shape drawX fillMath matchMath unifMath forest triMath cursor nodes ufMath stk bnd ovImpl
set_option maxRecDepth 100000
theorem places_cast {sg t : List Int} : ∀ q p, ((places sg t q p).map Int.toNat).map (fun c : Nat => (c : Int)) = places sg t q p
 | 0, _ => rfl
 | q + 1, p => by
  have h := places_cast (sg := sg) (t := t) q (p + len1 sg t p)
  show ((p : Int).toNat : Int) :: _ = _
  rw [h]
  rfl
theorem args_cast (sg t : List Int) (p : Nat) : argsL sg t p = (chN sg t p).map fun c : Nat => (c : Int) := (places_cast _ _).symm
structure Nd (sg nums nums' : List Int) (n : Nat) (Inn : Nat → Prop) (a u : Nat) : Prop where
 gr : Gr sg n (fun i => nums.getD i 0) (nodes.nd sg nums nums') (chN sg nums) Inn a u
 sc : ∀ i, i < n → ∃ j, scan sg 1 (nums.drop i) = some j
 len : nums.length = n
def AnsLink (w : World) (Q : Nat → Prop) (p lb : Nat) (A : Option Addr) (n c : Nat) (v : Value) (o a u : Int) (X : Option Addr) (xn xc lc : Nat) (sg nums nums' : List Int) (Inn : Nat → Prop) (ra ru : Nat) (lk : List Nat) (rt : Nat → Nat) (P : Nat → Nat → Prop) (x y : Nat) (e : Ending) (w' : World) : Prop :=
 ∃ (ok : Bool) (lk' : List Nat), e = .returned (.bool ok) ∧ Ov w' Q p lb A n c v o a u X xn xc lc sg nums lk' ∧ w.grownBy w' (some lb) ∧
  (ok = true → ∃ rt' rk', Lk xn (fun i => nums.getD i 0) (nodes.nd sg nums nums') Inn lk' rt' rk' ∧ Snd sg xn (nodes.nd sg nums nums') ra ru rt' ∧ Clo xn (fun i => nums.getD i 0) (chN sg nums) rt' P ∧ rt' x = rt' y ∧ (∀ i j, rt i = rt j → rt' i = rt' j) ∧ roots lk' ≤ roots lk) ∧
  (ok = false → ∀ θ, ¬ Unis sg (nodes.nd sg nums nums' ra) (nodes.nd sg nums nums' ru) θ)
def HeadLk (w : World) (Q : Nat → Prop) (p lb : Nat) (A : Option Addr) (n c : Nat) (v : Value) (o a u : Int) (X : Option Addr) (xn xc lc : Nat) (sg nums nums' : List Int) (Inn : Nat → Prop) (ra ru M : Nat) (rt0 : Nat → Nat) (P : Nat → Nat → Prop) (x y : Nat) (Y1 : Option Addr) (y1 z1 : Nat) (Y2 : Option Addr) (y2 z2 : Nat) (i : Value) (wr : World) : Prop :=
 ∃ (k : Nat) (lk : List Nat) (rt rk : Nat → Nat), i = .int .i64 (k : Int) ∧ k ≤ y2 ∧ Ov wr Q p lb A n c v o a u X xn xc lc sg nums lk ∧ Lk xn (fun i => nums.getD i 0) (nodes.nd sg nums nums') Inn lk rt rk ∧ Snd sg xn (nodes.nd sg nums nums') ra ru rt ∧ Clo xn (fun i => nums.getD i 0) (chN sg nums) rt (pendS (chN sg nums) x y k P) ∧
  (∀ i j, rt0 i = rt0 j → rt i = rt j) ∧ roots lk ≤ M ∧ w.grownBy wr (some lb) ∧ Own wr w.heap.size (.slice Y1 y1 z1) (argsL sg nums y) ∧ Own wr w.heap.size (.slice Y2 y2 z2) (argsL sg nums x)
variable {n : Nat} {nm : Nat → Int} {nd : Nat → List Int} {Inn : Nat → Prop} {lk : List Nat} {rt rk : Nat → Nat}
theorem root_inn (h : Lk n nm nd Inn lk rt rk) {a : Nat} (ha : a < n) (h0 : 0 ≤ nm a) (hr : rt a = a) (hi : ∃ p, p < n ∧ Inn p ∧ rt p = a) : Inn a := by
 obtain ⟨p, hp, hin, e⟩ := hi
 by_cases hn : Inn a
 ·exact hn
 ·have := h.one a ha h0 hn p hp (by rw [e, hr])
  rw [← this]; exact hin
theorem roots_pos (h : Lk n nm nd Inn lk rt rk) {x : Nat} (hx : x < n) : 1 ≤ roots lk := by
 unfold roots
 exact List.countP_pos_iff.2 ⟨rt x, List.mem_range.2 (by rw [h.len]; exact (h.lt x hx).2), by simpa using (h.root x hx).1⟩
set_option maxHeartbeats 2000000 in
theorem link (Q : Nat → Prop) (p lb : Nat) (A : Option Addr) (n c : Nat) (v : Value) (o a u : Int) (X : Option Addr) (xn xc lc : Nat) (sg nums nums' : List Int) (Inn : Nat → Prop) (ra ru : Nat) (hN : Nd sg nums nums' xn Inn ra ru) (hs : Arities sg) (hn : n ≤ 1048576) (hxn : xn ≤ 1048576) :
  ∀ (m : Nat) (lk : List Nat) (rt rk : Nat → Nat) (P : Nat → Nat → Prop) (x y : Nat) (w : World), roots lk ≤ m → Ov w Q p lb A n c v o a u X xn xc lc sg nums lk → Lk xn (fun i => nums.getD i 0) (nodes.nd sg nums nums') Inn lk rt rk → Snd sg xn (nodes.nd sg nums nums') ra ru rt → Clo xn (fun i => nums.getD i 0) (chN sg nums) rt P →
   x < xn → y < xn → (∃ p, p < xn ∧ Inn p ∧ rt p = rt x) → (∃ p, p < xn ∧ Inn p ∧ rt p = rt y) → (∀ θ, Unis sg (nodes.nd sg nums nums' ra) (nodes.nd sg nums nums' ru) θ → fillL θ (nodes.nd sg nums nums' x) = fillL θ (nodes.nd sg nums nums' y)) →
  Calls Tryz.prog 130 #[.pointer (some ⟨p, 0, none⟩), .int .i64 (x : Int), .int .i64 (y : Int)] w (AnsLink w Q p lb A n c v o a u X xn xc lc sg nums nums' Inn ra ru lk rt P x y) := by
 intro m
 induction m with
 | zero =>
  intro lk rt rk P x y w hm hO hL hS hC hx hy ix iy hv
  have := roots_pos hL hx
  omega
 | succ m IH =>
 intro lk rt rk P x y w hm hO hL hS hC hx hy ix iy hv
 obtain ⟨a1, ha1⟩ : ∃ z, rt x = z := ⟨_, rfl⟩
 obtain ⟨b1, hb1⟩ : ∃ z, rt y = z := ⟨_, rfl⟩
 have LF1 := hid (find Q p lb A n c v o a u X xn xc lc sg nums lk x w hO hL hx)
 have LF2 := hid (find Q p lb A n c v o a u X xn xc lc sg nums lk y w hO hL hy)
 rw [ha1] at LF1
 rw [hb1] at LF2
 have ha1n : a1 < xn := by rw [← ha1]; exact (hL.lt x hx).2
 have hb1n : b1 < xn := by rw [← hb1]; exact (hL.lt y hy).2
 have HIH := hid IH
 have HO := hid hO
 have HL := hid hL
 have HS := hid hS
 have HC := hid hC
 have HM := hid hm
 obtain ⟨hnl, -, hspot⟩ := rdq_nums hO.nm
 obtain ⟨bX, oX, rfl, hqX, hcX⟩ := hspot (by omega)
 have c5 := hO.c5
 have c6 := hO.c6
 have HCX := hid hcX
 by_cases hab : a1 = b1
 ·subst hab
  have e1 : ((a1 : Int) == (a1 : Int)) = true := by simp
  have F := hid (show AnsLink w Q p lb A n c v o a u (some ⟨bX, oX, none⟩) xn xc lc sg nums nums' Inn ra ru lk rt P x y (.returned (.bool true)) w from ⟨true, lk, rfl, hO, ⟨rfl, rfl, rfl, Nat.le_refl _, fun _ _ _ => rfl⟩, fun _ => ⟨rt, rk, hL, hS, hC, by rw [ha1, hb1], fun i j e => e, Nat.le_refl _⟩, fun h => by cases h⟩)
  clear hO hL hS hC ix iy hv hm IH hcX hspot
  go_enter Tryz.func130, Tryz.ntmps130
  go_wp2_with fail
  refine LF1.out.mono ?_
  rintro e w1 ⟨rfl, rfl⟩
  go_wp2_with fail
  refine LF2.out.mono ?_
  rintro e w1 ⟨rfl, rfl⟩
  go_wp2
  go_ret
  exact F.out
 ·have e1 : ((a1 : Int) == (b1 : Int)) = false := by simp; omega
  have ra1 : rt a1 = a1 := by rw [← ha1]; exact (hL.root x hx).2
  have rb1 : rt b1 = b1 := by rw [← hb1]; exact (hL.root y hy).2
  have ia1 : ∃ p, p < xn ∧ Inn p ∧ rt p = a1 := by rw [← ha1]; exact ix
  have ib1 : ∃ p, p < xn ∧ Inn p ∧ rt p = b1 := by rw [← hb1]; exact iy
  have v1 : ∀ θ, Unis sg (nodes.nd sg nums nums' ra) (nodes.nd sg nums nums' ru) θ → fillL θ (nodes.nd sg nums nums' a1) = fillL θ (nodes.nd sg nums nums' b1) := fun θ hθ => by rw [← ha1, ← hb1, ← hS θ hθ x hx, ← hS θ hθ y hy]; exact hv θ hθ
  have J1 : ∀ rt' : Nat → Nat, (∀ i j, rt i = rt j → rt' i = rt' j) → rt' a1 = rt' b1 → rt' x = rt' y := fun rt' h1 h2 => (h1 x a1 (by rw [ha1, ra1])).trans (h2.trans (h1 b1 y (by rw [hb1, rb1])))
  have ca : w.cell? ⟨bX, oX + a1, none⟩ = some (.int .i64 (nums.getD a1 0)) := hcX a1 ha1n
  have i0 : (0 : Int) ≤ (a1 : Int) := by omega
  have i1 : (a1 : Int) < (xn : Int) := by omega
  obtain ⟨z, hz⟩ : ∃ z, nums.getD a1 0 = z := ⟨_, rfl⟩
  rw [hz] at ca
  have HZ := hid hz
  clear hO hL hS hC ix iy hv hm IH hcX hspot hz ha1 hb1 hx hy
  by_cases hz0 : z < 0
  ·have ha : b1 < xn := hb1n
   have hb : a1 < xn := ha1n
   have hne : b1 ≠ a1 := fun e => hab e.symm
   have hsx : 0 ≤ nums.getD b1 0 ∨ nums.getD a1 0 < 0 := .inr (by rw [HZ.out]; exact hz0)
   have vab : ∀ θ, Unis sg (nodes.nd sg nums nums' ra) (nodes.nd sg nums nums' ru) θ → fillL θ (nodes.nd sg nums nums' b1) = fillL θ (nodes.nd sg nums nums' a1) := fun θ hθ => (v1 θ hθ).symm
   have J : ∀ rt' : Nat → Nat, (∀ i j, rt i = rt j → rt' i = rt' j) → rt' b1 = rt' a1 → rt' x = rt' y := fun rt' h1 h2 => J1 rt' h1 h2.symm
   have O2 := HO.out.set (j := b1) hb
   have L2 := HL.out.link ha hb rb1 ra1 hne hsx ib1 ia1
   have S2 := HS.out.link hN.gr vab
   have hroot := roots_link HL.out hb ra1 hne
   have g2 : w.grownBy (w.setCell ⟨lb, a1, none⟩ (.int .i64 (b1 : Int))) (some lb) := ⟨rfl, rfl, rfl, by simp, fun k _ hk => Below.heap_setCell w _ _ k (fun e => hk (by show some k = some lb; rw [e]))⟩
   obtain ⟨W2, hW2⟩ : ∃ W2, W2 = w.setCell ⟨lb, a1, none⟩ (.int .i64 (b1 : Int)) := ⟨_, rfl⟩
   rw [← hW2] at O2 g2
   obtain ⟨zb, hzb⟩ : ∃ zb, nums.getD a1 0 = zb := ⟨_, rfl⟩
   obtain ⟨za, hza⟩ : ∃ za, nums.getD b1 0 = za := ⟨_, rfl⟩
   have cb : W2.cell? ⟨bX, oX + a1, none⟩ = some (.int .i64 zb) := by
    obtain ⟨-, -, hs2⟩ := rdq_nums O2.nm
    obtain ⟨b9, o9, e9, -, hc9⟩ := hs2 (by omega)
    injection e9 with e9
    injection e9 with e91 e92
    subst e91 e92
    rw [← hzb]; exact hc9 a1 hb
   have caa : W2.cell? ⟨bX, oX + b1, none⟩ = some (.int .i64 za) := by
    obtain ⟨-, -, hs2⟩ := rdq_nums O2.nm
    obtain ⟨b9, o9, e9, -, hc9⟩ := hs2 (by omega)
    injection e9 with e9
    injection e9 with e91 e92
    subst e91 e92
    rw [← hza]; exact hc9 b1 ha
   have c52 : W2.cell? ⟨p, 5, none⟩ = some (.slice (some ⟨bX, oX, none⟩) xn xc) := O2.c5
   have rb5 := c52
   have rbb := cb
   have rba := caa
   rw [hW2] at rb5 rbb rba
   have clb := HO.out.at hb
   have flb := HO.out.free a1
   have k0 : (0 : Int) ≤ (a1 : Int) := by omega
   have k1 : (a1 : Int) < (xn : Int) := by omega
   have k2 : (0 : Int) ≤ (b1 : Int) := by omega
   have k3 : (b1 : Int) < (xn : Int) := by omega
   have HW2 := hid hW2
   have HO2 := hid O2
   have HL2 := hid L2
   have HS2 := hid S2
   have HROOT := hid hroot
   have HG2 := hid g2
   have HZB := hid hzb
   have HZA := hid hza
   have HVV := hid vab
   have HJ := hid J
   have HSX := hid hsx
   clear O2 L2 S2 hroot g2 hW2 hzb hza vab J hsx v1 J1
   by_cases hzb0 : zb < 0
   ·have F := hid (show AnsLink w Q p lb A n c v o a u (some ⟨bX, oX, none⟩) xn xc lc sg nums nums' Inn ra ru lk rt P x y (.returned (.bool true)) W2 from ⟨true, lk.set a1 b1, rfl, HO2.out, HG2.out, fun _ => ⟨_, _, HL2.out, HS2.out, Clo.linkV HL.out HC.out (by show nums.getD a1 0 < 0; rw [HZB.out]; exact hzb0), HJ.out _ (fun i j e => rt2_coarse e) (rt2_joins rb1 ra1 hne), fun i j e => rt2_coarse e, by have := HROOT.out; omega⟩, fun h => by cases h⟩)
    clear cb caa c52
    go_enter Tryz.func130, Tryz.ntmps130
    go_wp2_with fail
    refine LF1.out.mono ?_
    rintro e w1 ⟨rfl, hw1⟩
    rw [hw1]
    clear hw1
    go_wp2_with fail
    refine LF2.out.mono ?_
    rintro e w2 ⟨rfl, hw2⟩
    rw [hw2]
    clear hw2
    go_wp2_with fail
    rw [← HW2.out]
    go_ret
    exact F.out
   ·have hza0 : 0 ≤ za := by
     rcases HSX.out with h9 | h9
     ·rw [HZA.out] at h9; exact h9
     ·rw [HZB.out] at h9; exact absurd h9 hzb0
    by_cases hzz : za = zb
    ·subst hzz
     have e2 : (za != za) = false := by simp
     obtain ⟨ja, hja⟩ := hN.sc b1 ha
     obtain ⟨jb, hjb⟩ := hN.sc a1 hb
     have LA1 := hid (fun dd => ovArgs Q p lb A n c v o a u (some ⟨bX, oX, none⟩) xn xc lc sg nums _ a1 jb (W2.drewN dd) (HO2.out.drewN dd) hs hn hxn hb hjb)
     have LA2 := hid (fun (w3 : World) (bb : Below W2.heap.size W2 w3) => ovArgs Q p lb A n c v o a u (some ⟨bX, oX, none⟩) xn xc lc sg nums _ b1 ja w3 (HO2.out.next bb) hs hn hxn ha hja)
     clear hja hjb
     go_enter Tryz.func130, Tryz.ntmps130
     go_wp2_with fail
     refine LF1.out.mono ?_
     rintro e w1 ⟨rfl, hw1⟩
     rw [hw1]
     clear hw1
     go_wp2_with fail
     refine LF2.out.mono ?_
     rintro e w2 ⟨rfl, hw2⟩
     rw [hw2]
     clear hw2
     go_wp2_with fail
     rw [← HW2.out]
     go_quiet (fail)
     go_wp2_with fail
     refine (LA1.out _).mono ?_
     rintro e w3 ⟨Y1, y1, z1, rfl, oY1, bb3⟩
     have b3 : Below W2.heap.size W2 w3 := next_trans (base.below_drewN (Below.refl _ _) _) bb3
     go_wp2_with fail
     refine (LA2.out w3 b3).mono ?_
     rintro e w4 ⟨Y2, y2, z2, rfl, oY2, bb4⟩
     have b4 : Below W2.heap.size W2 w4 := next_trans b3 bb4
     have hY1 := Own.len oY1
     have hY2 := Own.len oY2
     have gA : 0 ≤ nums.getD b1 0 := by rw [HZA.out]; exact hza0
     have gB : 0 ≤ nums.getD a1 0 := by rw [HZB.out]; exact hza0
     have gE : nums.getD b1 0 = nums.getD a1 0 := by rw [HZA.out, HZB.out]
     have lA := hN.gr.chl ha gA
     have lB := hN.gr.chl hb gB
     have hll : (chN sg nums b1).length = (chN sg nums a1).length := by rw [lA, lB]; show (ar sg (nums.getD b1 0)).toNat = (ar sg (nums.getD a1 0)).toNat; rw [gE]
     have inA : Inn b1 := root_inn HL.out ha gA rb1 ib1
     have inB : Inn a1 := root_inn HL.out hb gB ra1 ia1
     have hy2 : y2 = (chN sg nums b1).length := by rw [hY2, args_cast, List.length_map]
     have hy1 : y1 = y2 := by rw [hy2, hll, hY1, args_cast, List.length_map]
     have hcl := HC.out.linkS hb ra1 rb1 gE gB hll (fun i hi h0 hr => by rw [hN.gr.chl hi h0, lB]; have h9 : nums.getD a1 0 = nums.getD i 0 := (by have h8 := (HC.out i hi h0).1; rw [hr] at h8; exact h8); show (ar sg (nums.getD i 0)).toNat = (ar sg (nums.getD a1 0)).toNat; rw [h9])
     have hw2 : w.heap.size ≤ W2.heap.size := HG2.out.size
     have hlb := HO.out.lt.2
     have S0 := hid (show HeadLk w Q p lb A n c v o a u (some ⟨bX, oX, none⟩) xn xc lc sg nums nums' Inn ra ru (roots (lk.set a1 b1)) (rt2 rt b1 a1) P b1 a1 Y1 y1 z1 Y2 y2 z2 (.int .i64 0) w4 from
      ⟨0, _, _, _, rfl, Nat.zero_le _, HO2.out.next b4, HL2.out, HS2.out, hcl, fun i j e => e, Nat.le_refl _, grown_trans HG2.out (grown_below b4 _), Own.lower (Own.next oY1 bb4) (by have := b3.size; have h8 : W2.heap.size ≤ (W2.drewN nq).heap.size := Nat.le_refl _; omega), Own.lower oY2 (by have := b3.size; omega)⟩)
     have HY2 := hid hy2
     have HY1 := hid hy1
     have HLL := hid hll
     have hy29 : y2 ≤ 3 := by
      have h9 := ar_bd hs (nums.getD b1 0)
      rw [hy2, lA]
      show (ar sg (nums.getD b1 0)).toNat ≤ 3
      omega
     clear oY1 oY2 bb3 bb4 b3 b4 LA1 LA2 hcl hY1 hY2 lA lB hll hy2 cb caa c52 rb5 rbb rba clb
     go_wp2_with fail
     go_loopw [66] (fun i wr => HeadLk w Q p lb A n c v o a u (some ⟨bX, oX, none⟩) xn xc lc sg nums nums' Inn ra ru (roots (lk.set a1 b1)) (rt2 rt b1 a1) P b1 a1 Y1 y1 z1 Y2 y2 z2 i wr) (fun i _ => y2 - (intOf i).toNat)
     case atStart => exact S0.out
     case round =>
      clear S0
      obtain ⟨k, lk3, rt3, rk3, rfl, hk, hO3, hL3, hS3, hC3, hco, hro, hg3, oA1, oA2⟩ := hrel
      by_cases hlt : k < y2
      ·obtain ⟨ca, hca⟩ : ∃ z, (chN sg nums b1).getD k 0 = z := ⟨_, rfl⟩
       obtain ⟨cb9, hcb⟩ : ∃ z, (chN sg nums a1).getD k 0 = z := ⟨_, rfl⟩
       have hka : k < (chN sg nums b1).length := by rw [← HY2.out]; exact hlt
       have hkb : k < (chN sg nums a1).length := by rw [← HLL.out]; exact hka
       have mA : ca ∈ chN sg nums b1 := by rw [← hca, List.getD_eq_getElem?_getD, List.getElem?_eq_getElem hka]; exact List.getElem_mem hka
       have mB : cb9 ∈ chN sg nums a1 := by rw [← hcb, List.getD_eq_getElem?_getD, List.getElem?_eq_getElem hkb]; exact List.getElem_mem hkb
       have eA : (argsL sg nums b1).getD k 0 = (ca : Int) := by rw [args_cast, ← hca]; simp [List.getD, hka]
       have eB : (argsL sg nums a1).getD k 0 = (cb9 : Int) := by rw [args_cast, ← hcb]; simp [List.getD, hkb]
       obtain ⟨g2, o2, rfl, -, c2⟩ := (Own.seg oA2).round hlt
       obtain ⟨g1, o1, rfl, -, c1⟩ := (Own.seg oA1).round (show k < y1 by rw [HY1.out]; exact hlt)
       rw [eA] at c2
       rw [eB] at c1
       have cltA := hN.gr.lt b1 ha gA ca mA
       have cltB := hN.gr.lt a1 hb gB cb9 mB
       have hkv : ∀ θ, Unis sg (nodes.nd sg nums nums' ra) (nodes.nd sg nums nums' ru) θ → fillL θ (nodes.nd sg nums nums' ca) = fillL θ (nodes.nd sg nums nums' cb9) := fun θ hθ => by
        have h9 := hN.gr.kids ha hb gA gE hθ.1 (HVV.out θ hθ) hka
        rw [hca, hcb] at h9
        exact h9
       have LI := hid (HIH.out lk3 rt3 rk3 _ ca cb9 wr (by have := HROOT.out; have := HM.out; omega) hO3 hL3 hS3 hC3 cltA cltB ⟨ca, cltA, hN.gr.inn b1 ha gA inA ca mA, rfl⟩ ⟨cb9, cltB, hN.gr.inn a1 hb gB inB cb9 mB, rfl⟩ hkv)
       have i0 : (0 : Int) ≤ (k : Int) := by omega
       have i1 : (k : Int) < (y2 : Int) := by omega
       have i2 : (k : Int) < (y1 : Int) := by have := HY1.out; omega
       have HO1 := hid oA1
       have HO9 := hid oA2
       have HCO := hid hco
       have HRO := hid hro
       have HG3 := hid hg3
       have HCA := hid hca
       have HCB := hid hcb
       clear hO3 hL3 hS3 hC3 hco hro hg3 oA1 oA2 eA eB hkv mA mB hka hkb hca hcb
       go_wp2_with fail
       refine LI.out.mono ?_
       rintro e w5 ⟨ok, lk5, rfl, hO5, hg5, h5, h6⟩
       have oB1 := Own.far HO1.out hg5 (fun k hk => by injection hk with hk; omega)
       have oB2 := Own.far HO9.out hg5 (fun k hk => by injection hk with hk; omega)
       have hg6 := grown_trans HG3.out hg5
       clear LI
       cases ok with
       | false =>
        have F := hid (show AnsLink w Q p lb A n c v o a u (some ⟨bX, oX, none⟩) xn xc lc sg nums nums' Inn ra ru lk rt P x y (.returned (.bool false)) w5 from ⟨false, lk5, rfl, hO5, hg6, fun h => (by cases h), fun _ => h6 rfl⟩)
        clear hO5 hg5 h5 h6 oB1 oB2 hg6
        go_wp2
        try rw [Exit.noGoto_ret]
        go_ret
        exact F.out
       | true =>
        obtain ⟨rt5, rk5, hL5, hS5, hC5, hj5, hc5, hr5⟩ := h5 rfl
        have F := hid (show HeadLk w Q p lb A n c v o a u (some ⟨bX, oX, none⟩) xn xc lc sg nums nums' Inn ra ru (roots (lk.set a1 b1)) (rt2 rt b1 a1) P b1 a1 (some ⟨g1, o1, none⟩) y1 z1 (some ⟨g2, o2, none⟩) y2 z2 (.int .i64 ((k : Int) + 1)) w5 from
         ⟨k + 1, lk5, rt5, rk5, by simp, hlt, hO5, hL5, hS5, hC5.next (by rw [HCA.out, HCB.out]; exact hj5), fun i j e => hc5 i j (HCO.out i j e), by have := HRO.out; omega, hg6, oB1, oB2⟩)
        clear hO5 hg5 h5 h6 oB1 oB2 hg6 hL5 hS5 hC5 hj5 hc5 hr5
        go_wp2
        go_roundw
        case rel => exact F.out
        case measure => simp [intOf]; omega
      ·have hky : k = y2 := by omega
       have i1 : ¬ (k : Int) < (y2 : Int) := by omega
       have F := hid (show AnsLink w Q p lb A n c v o a u (some ⟨bX, oX, none⟩) xn xc lc sg nums nums' Inn ra ru lk rt P x y (.returned (.bool true)) wr from
        ⟨true, lk3, rfl, hO3, hg3, fun _ => ⟨rt3, rk3, hL3, hS3, hC3.done (by rw [← HY2.out, hky]; exact Nat.le_refl _), HJ.out rt3 (fun i j e => hco i j (rt2_coarse e)) (hco _ _ (rt2_joins rb1 ra1 hne)), fun i j e => hco i j (rt2_coarse e), by have := HROOT.out; omega⟩, fun h => by cases h⟩)
       clear hO3 hL3 hS3 hC3 hco hro hg3 oA1 oA2 hky
       go_wp2
       go_ret
       exact F.out
    ·have e2 : (za != zb) = true := by simp [hzz]
     have F := hid (show ∀ dd, AnsLink w Q p lb A n c v o a u (some ⟨bX, oX, none⟩) xn xc lc sg nums nums' Inn ra ru lk rt P x y (.returned (.bool false)) (W2.drewN dd) from fun dd => ⟨false, lk.set a1 b1, rfl, HO2.out.drewN dd, grown_drewN HG2.out dd, fun h => (by cases h), fun _ θ hθ => hN.gr.clash ha hb (by show 0 ≤ nums.getD b1 0; rw [HZA.out]; exact hza0) (by show 0 ≤ nums.getD a1 0; rw [HZB.out]; exact Int.not_lt.1 hzb0) (by show nums.getD b1 0 ≠ nums.getD a1 0; rw [HZA.out, HZB.out]; exact hzz) (HVV.out θ hθ)⟩)
     go_enter Tryz.func130, Tryz.ntmps130
     go_wp2_with fail
     refine LF1.out.mono ?_
     rintro e w1 ⟨rfl, hw1⟩
     rw [hw1]
     clear hw1
     go_wp2_with fail
     refine LF2.out.mono ?_
     rintro e w2 ⟨rfl, hw2⟩
     rw [hw2]
     clear hw2
     go_wp2_with fail
     rw [← HW2.out]
     go_quiet (fail)
     go_wp2
     go_ret
     exact F.out _
  ·have ha : a1 < xn := ha1n
   have hb : b1 < xn := hb1n
   have hne : a1 ≠ b1 := hab
   have hsx : 0 ≤ nums.getD a1 0 ∨ nums.getD b1 0 < 0 := .inl (by rw [HZ.out]; exact Int.not_lt.1 hz0)
   have vab : ∀ θ, Unis sg (nodes.nd sg nums nums' ra) (nodes.nd sg nums nums' ru) θ → fillL θ (nodes.nd sg nums nums' a1) = fillL θ (nodes.nd sg nums nums' b1) := v1
   have J : ∀ rt' : Nat → Nat, (∀ i j, rt i = rt j → rt' i = rt' j) → rt' a1 = rt' b1 → rt' x = rt' y := J1
   have O2 := HO.out.set (j := a1) hb
   have L2 := HL.out.link ha hb ra1 rb1 hne hsx ia1 ib1
   have S2 := HS.out.link hN.gr vab
   have hroot := roots_link HL.out hb rb1 hne
   have g2 : w.grownBy (w.setCell ⟨lb, b1, none⟩ (.int .i64 (a1 : Int))) (some lb) := ⟨rfl, rfl, rfl, by simp, fun k _ hk => Below.heap_setCell w _ _ k (fun e => hk (by show some k = some lb; rw [e]))⟩
   obtain ⟨W2, hW2⟩ : ∃ W2, W2 = w.setCell ⟨lb, b1, none⟩ (.int .i64 (a1 : Int)) := ⟨_, rfl⟩
   rw [← hW2] at O2 g2
   obtain ⟨zb, hzb⟩ : ∃ zb, nums.getD b1 0 = zb := ⟨_, rfl⟩
   obtain ⟨za, hza⟩ : ∃ za, nums.getD a1 0 = za := ⟨_, rfl⟩
   have cb : W2.cell? ⟨bX, oX + b1, none⟩ = some (.int .i64 zb) := by
    obtain ⟨-, -, hs2⟩ := rdq_nums O2.nm
    obtain ⟨b9, o9, e9, -, hc9⟩ := hs2 (by omega)
    injection e9 with e9
    injection e9 with e91 e92
    subst e91 e92
    rw [← hzb]; exact hc9 b1 hb
   have caa : W2.cell? ⟨bX, oX + a1, none⟩ = some (.int .i64 za) := by
    obtain ⟨-, -, hs2⟩ := rdq_nums O2.nm
    obtain ⟨b9, o9, e9, -, hc9⟩ := hs2 (by omega)
    injection e9 with e9
    injection e9 with e91 e92
    subst e91 e92
    rw [← hza]; exact hc9 a1 ha
   have c52 : W2.cell? ⟨p, 5, none⟩ = some (.slice (some ⟨bX, oX, none⟩) xn xc) := O2.c5
   have rb5 := c52
   have rbb := cb
   have rba := caa
   rw [hW2] at rb5 rbb rba
   have clb := HO.out.at hb
   have flb := HO.out.free b1
   have k0 : (0 : Int) ≤ (b1 : Int) := by omega
   have k1 : (b1 : Int) < (xn : Int) := by omega
   have k2 : (0 : Int) ≤ (a1 : Int) := by omega
   have k3 : (a1 : Int) < (xn : Int) := by omega
   have HW2 := hid hW2
   have HO2 := hid O2
   have HL2 := hid L2
   have HS2 := hid S2
   have HROOT := hid hroot
   have HG2 := hid g2
   have HZB := hid hzb
   have HZA := hid hza
   have HVV := hid vab
   have HJ := hid J
   have HSX := hid hsx
   clear O2 L2 S2 hroot g2 hW2 hzb hza vab J hsx v1 J1
   by_cases hzb0 : zb < 0
   ·have F := hid (show AnsLink w Q p lb A n c v o a u (some ⟨bX, oX, none⟩) xn xc lc sg nums nums' Inn ra ru lk rt P x y (.returned (.bool true)) W2 from ⟨true, lk.set b1 a1, rfl, HO2.out, HG2.out, fun _ => ⟨_, _, HL2.out, HS2.out, Clo.linkV HL.out HC.out (by show nums.getD b1 0 < 0; rw [HZB.out]; exact hzb0), HJ.out _ (fun i j e => rt2_coarse e) (rt2_joins ra1 rb1 hne), fun i j e => rt2_coarse e, by have := HROOT.out; omega⟩, fun h => by cases h⟩)
    clear cb caa c52
    go_enter Tryz.func130, Tryz.ntmps130
    go_wp2_with fail
    refine LF1.out.mono ?_
    rintro e w1 ⟨rfl, hw1⟩
    rw [hw1]
    clear hw1
    go_wp2_with fail
    refine LF2.out.mono ?_
    rintro e w2 ⟨rfl, hw2⟩
    rw [hw2]
    clear hw2
    go_wp2_with fail
    rw [← HW2.out]
    go_ret
    exact F.out
   ·have hza0 : 0 ≤ za := by
     rcases HSX.out with h9 | h9
     ·rw [HZA.out] at h9; exact h9
     ·rw [HZB.out] at h9; exact absurd h9 hzb0
    by_cases hzz : za = zb
    ·subst hzz
     have e2 : (za != za) = false := by simp
     obtain ⟨ja, hja⟩ := hN.sc a1 ha
     obtain ⟨jb, hjb⟩ := hN.sc b1 hb
     have LA1 := hid (fun dd => ovArgs Q p lb A n c v o a u (some ⟨bX, oX, none⟩) xn xc lc sg nums _ b1 jb (W2.drewN dd) (HO2.out.drewN dd) hs hn hxn hb hjb)
     have LA2 := hid (fun (w3 : World) (bb : Below W2.heap.size W2 w3) => ovArgs Q p lb A n c v o a u (some ⟨bX, oX, none⟩) xn xc lc sg nums _ a1 ja w3 (HO2.out.next bb) hs hn hxn ha hja)
     clear hja hjb
     go_enter Tryz.func130, Tryz.ntmps130
     go_wp2_with fail
     refine LF1.out.mono ?_
     rintro e w1 ⟨rfl, hw1⟩
     rw [hw1]
     clear hw1
     go_wp2_with fail
     refine LF2.out.mono ?_
     rintro e w2 ⟨rfl, hw2⟩
     rw [hw2]
     clear hw2
     go_wp2_with fail
     rw [← HW2.out]
     go_quiet (fail)
     go_wp2_with fail
     refine (LA1.out _).mono ?_
     rintro e w3 ⟨Y1, y1, z1, rfl, oY1, bb3⟩
     have b3 : Below W2.heap.size W2 w3 := next_trans (base.below_drewN (Below.refl _ _) _) bb3
     go_wp2_with fail
     refine (LA2.out w3 b3).mono ?_
     rintro e w4 ⟨Y2, y2, z2, rfl, oY2, bb4⟩
     have b4 : Below W2.heap.size W2 w4 := next_trans b3 bb4
     have hY1 := Own.len oY1
     have hY2 := Own.len oY2
     have gA : 0 ≤ nums.getD a1 0 := by rw [HZA.out]; exact hza0
     have gB : 0 ≤ nums.getD b1 0 := by rw [HZB.out]; exact hza0
     have gE : nums.getD a1 0 = nums.getD b1 0 := by rw [HZA.out, HZB.out]
     have lA := hN.gr.chl ha gA
     have lB := hN.gr.chl hb gB
     have hll : (chN sg nums a1).length = (chN sg nums b1).length := by rw [lA, lB]; show (ar sg (nums.getD a1 0)).toNat = (ar sg (nums.getD b1 0)).toNat; rw [gE]
     have inA : Inn a1 := root_inn HL.out ha gA ra1 ia1
     have inB : Inn b1 := root_inn HL.out hb gB rb1 ib1
     have hy2 : y2 = (chN sg nums a1).length := by rw [hY2, args_cast, List.length_map]
     have hy1 : y1 = y2 := by rw [hy2, hll, hY1, args_cast, List.length_map]
     have hcl := HC.out.linkS hb rb1 ra1 gE gB hll (fun i hi h0 hr => by rw [hN.gr.chl hi h0, lB]; have h9 : nums.getD b1 0 = nums.getD i 0 := (by have h8 := (HC.out i hi h0).1; rw [hr] at h8; exact h8); show (ar sg (nums.getD i 0)).toNat = (ar sg (nums.getD b1 0)).toNat; rw [h9])
     have hw2 : w.heap.size ≤ W2.heap.size := HG2.out.size
     have hlb := HO.out.lt.2
     have S0 := hid (show HeadLk w Q p lb A n c v o a u (some ⟨bX, oX, none⟩) xn xc lc sg nums nums' Inn ra ru (roots (lk.set b1 a1)) (rt2 rt a1 b1) P a1 b1 Y1 y1 z1 Y2 y2 z2 (.int .i64 0) w4 from
      ⟨0, _, _, _, rfl, Nat.zero_le _, HO2.out.next b4, HL2.out, HS2.out, hcl, fun i j e => e, Nat.le_refl _, grown_trans HG2.out (grown_below b4 _), Own.lower (Own.next oY1 bb4) (by have := b3.size; have h8 : W2.heap.size ≤ (W2.drewN nq).heap.size := Nat.le_refl _; omega), Own.lower oY2 (by have := b3.size; omega)⟩)
     have HY2 := hid hy2
     have HY1 := hid hy1
     have HLL := hid hll
     have hy29 : y2 ≤ 3 := by
      have h9 := ar_bd hs (nums.getD a1 0)
      rw [hy2, lA]
      show (ar sg (nums.getD a1 0)).toNat ≤ 3
      omega
     clear oY1 oY2 bb3 bb4 b3 b4 LA1 LA2 hcl hY1 hY2 lA lB hll hy2 cb caa c52 rb5 rbb rba clb
     go_wp2_with fail
     go_loopw [66] (fun i wr => HeadLk w Q p lb A n c v o a u (some ⟨bX, oX, none⟩) xn xc lc sg nums nums' Inn ra ru (roots (lk.set b1 a1)) (rt2 rt a1 b1) P a1 b1 Y1 y1 z1 Y2 y2 z2 i wr) (fun i _ => y2 - (intOf i).toNat)
     case atStart => exact S0.out
     case round =>
      clear S0
      obtain ⟨k, lk3, rt3, rk3, rfl, hk, hO3, hL3, hS3, hC3, hco, hro, hg3, oA1, oA2⟩ := hrel
      by_cases hlt : k < y2
      ·obtain ⟨ca, hca⟩ : ∃ z, (chN sg nums a1).getD k 0 = z := ⟨_, rfl⟩
       obtain ⟨cb9, hcb⟩ : ∃ z, (chN sg nums b1).getD k 0 = z := ⟨_, rfl⟩
       have hka : k < (chN sg nums a1).length := by rw [← HY2.out]; exact hlt
       have hkb : k < (chN sg nums b1).length := by rw [← HLL.out]; exact hka
       have mA : ca ∈ chN sg nums a1 := by rw [← hca, List.getD_eq_getElem?_getD, List.getElem?_eq_getElem hka]; exact List.getElem_mem hka
       have mB : cb9 ∈ chN sg nums b1 := by rw [← hcb, List.getD_eq_getElem?_getD, List.getElem?_eq_getElem hkb]; exact List.getElem_mem hkb
       have eA : (argsL sg nums a1).getD k 0 = (ca : Int) := by rw [args_cast, ← hca]; simp [List.getD, hka]
       have eB : (argsL sg nums b1).getD k 0 = (cb9 : Int) := by rw [args_cast, ← hcb]; simp [List.getD, hkb]
       obtain ⟨g2, o2, rfl, -, c2⟩ := (Own.seg oA2).round hlt
       obtain ⟨g1, o1, rfl, -, c1⟩ := (Own.seg oA1).round (show k < y1 by rw [HY1.out]; exact hlt)
       rw [eA] at c2
       rw [eB] at c1
       have cltA := hN.gr.lt a1 ha gA ca mA
       have cltB := hN.gr.lt b1 hb gB cb9 mB
       have hkv : ∀ θ, Unis sg (nodes.nd sg nums nums' ra) (nodes.nd sg nums nums' ru) θ → fillL θ (nodes.nd sg nums nums' ca) = fillL θ (nodes.nd sg nums nums' cb9) := fun θ hθ => by
        have h9 := hN.gr.kids ha hb gA gE hθ.1 (HVV.out θ hθ) hka
        rw [hca, hcb] at h9
        exact h9
       have LI := hid (HIH.out lk3 rt3 rk3 _ ca cb9 wr (by have := HROOT.out; have := HM.out; omega) hO3 hL3 hS3 hC3 cltA cltB ⟨ca, cltA, hN.gr.inn a1 ha gA inA ca mA, rfl⟩ ⟨cb9, cltB, hN.gr.inn b1 hb gB inB cb9 mB, rfl⟩ hkv)
       have i0 : (0 : Int) ≤ (k : Int) := by omega
       have i1 : (k : Int) < (y2 : Int) := by omega
       have i2 : (k : Int) < (y1 : Int) := by have := HY1.out; omega
       have HO1 := hid oA1
       have HO9 := hid oA2
       have HCO := hid hco
       have HRO := hid hro
       have HG3 := hid hg3
       have HCA := hid hca
       have HCB := hid hcb
       clear hO3 hL3 hS3 hC3 hco hro hg3 oA1 oA2 eA eB hkv mA mB hka hkb hca hcb
       go_wp2_with fail
       refine LI.out.mono ?_
       rintro e w5 ⟨ok, lk5, rfl, hO5, hg5, h5, h6⟩
       have oB1 := Own.far HO1.out hg5 (fun k hk => by injection hk with hk; omega)
       have oB2 := Own.far HO9.out hg5 (fun k hk => by injection hk with hk; omega)
       have hg6 := grown_trans HG3.out hg5
       clear LI
       cases ok with
       | false =>
        have F := hid (show AnsLink w Q p lb A n c v o a u (some ⟨bX, oX, none⟩) xn xc lc sg nums nums' Inn ra ru lk rt P x y (.returned (.bool false)) w5 from ⟨false, lk5, rfl, hO5, hg6, fun h => (by cases h), fun _ => h6 rfl⟩)
        clear hO5 hg5 h5 h6 oB1 oB2 hg6
        go_wp2
        try rw [Exit.noGoto_ret]
        go_ret
        exact F.out
       | true =>
        obtain ⟨rt5, rk5, hL5, hS5, hC5, hj5, hc5, hr5⟩ := h5 rfl
        have F := hid (show HeadLk w Q p lb A n c v o a u (some ⟨bX, oX, none⟩) xn xc lc sg nums nums' Inn ra ru (roots (lk.set b1 a1)) (rt2 rt a1 b1) P a1 b1 (some ⟨g1, o1, none⟩) y1 z1 (some ⟨g2, o2, none⟩) y2 z2 (.int .i64 ((k : Int) + 1)) w5 from
         ⟨k + 1, lk5, rt5, rk5, by simp, hlt, hO5, hL5, hS5, hC5.next (by rw [HCA.out, HCB.out]; exact hj5), fun i j e => hc5 i j (HCO.out i j e), by have := HRO.out; omega, hg6, oB1, oB2⟩)
        clear hO5 hg5 h5 h6 oB1 oB2 hg6 hL5 hS5 hC5 hj5 hc5 hr5
        go_wp2
        go_roundw
        case rel => exact F.out
        case measure => simp [intOf]; omega
      ·have hky : k = y2 := by omega
       have i1 : ¬ (k : Int) < (y2 : Int) := by omega
       have F := hid (show AnsLink w Q p lb A n c v o a u (some ⟨bX, oX, none⟩) xn xc lc sg nums nums' Inn ra ru lk rt P x y (.returned (.bool true)) wr from
        ⟨true, lk3, rfl, hO3, hg3, fun _ => ⟨rt3, rk3, hL3, hS3, hC3.done (by rw [← HY2.out, hky]; exact Nat.le_refl _), HJ.out rt3 (fun i j e => hco i j (rt2_coarse e)) (hco _ _ (rt2_joins ra1 rb1 hne)), fun i j e => hco i j (rt2_coarse e), by have := HROOT.out; omega⟩, fun h => by cases h⟩)
       clear hO3 hL3 hS3 hC3 hco hro hg3 oA1 oA2 hky
       go_wp2
       go_ret
       exact F.out
    ·have e2 : (za != zb) = true := by simp [hzz]
     have F := hid (show ∀ dd, AnsLink w Q p lb A n c v o a u (some ⟨bX, oX, none⟩) xn xc lc sg nums nums' Inn ra ru lk rt P x y (.returned (.bool false)) (W2.drewN dd) from fun dd => ⟨false, lk.set b1 a1, rfl, HO2.out.drewN dd, grown_drewN HG2.out dd, fun h => (by cases h), fun _ θ hθ => hN.gr.clash ha hb (by show 0 ≤ nums.getD a1 0; rw [HZA.out]; exact hza0) (by show 0 ≤ nums.getD b1 0; rw [HZB.out]; exact Int.not_lt.1 hzb0) (by show nums.getD a1 0 ≠ nums.getD b1 0; rw [HZA.out, HZB.out]; exact hzz) (HVV.out θ hθ)⟩)
     go_enter Tryz.func130, Tryz.ntmps130
     go_wp2_with fail
     refine LF1.out.mono ?_
     rintro e w1 ⟨rfl, hw1⟩
     rw [hw1]
     clear hw1
     go_wp2_with fail
     refine LF2.out.mono ?_
     rintro e w2 ⟨rfl, hw2⟩
     rw [hw2]
     clear hw2
     go_wp2_with fail
     rw [← HW2.out]
     go_quiet (fail)
     go_wp2
     go_ret
     exact F.out _
end linkImpl
end
section
namespace ovStart
open sig term termOk termFacts args fillMath renMath matchMath unifMath forest triMath nodes ufMath linkImpl
set_option maxRecDepth 100000
theorem idx_le : ∀ {l : List Int} {k : Nat}, k < l.length → idx l (l.getD k 0) ≤ k
 | y :: r, 0, _ => by simp [idx]
 | y :: r, k + 1, h => by
  rw [idx]
  split
  ·omega
  ·have := idx_le (l := r) (k := k) (by simpa using h)
   simpa using this
theorem get_mem {l : List Int} {k : Nat} (hk : k < l.length) : l.getD k 0 ∈ l := by
 rw [List.getD_eq_getElem?_getD, List.getElem?_eq_getElem hk]
 exact List.getElem_mem _
def fi (l : List Int) (k : Nat) : Nat := if l.getD k 0 < 0 then idx l (l.getD k 0) else k
theorem fi_le {l : List Int} {k : Nat} (hk : k < l.length) : fi l k ≤ k := by
 unfold fi
 split
 ·exact idx_le hk
 ·exact Nat.le_refl _
theorem fi_val {l : List Int} {k : Nat} (hk : k < l.length) : l.getD (fi l k) 0 = l.getD k 0 := by
 unfold fi
 split
 ·exact idx_get (get_mem hk)
 ·rfl
theorem fi_same {l : List Int} {j k : Nat} (h0 : l.getD k 0 < 0) (e : l.getD j 0 = l.getD k 0) : fi l j = fi l k := by
 unfold fi
 rw [e, if_pos h0, if_pos h0]
theorem fi_fi {l : List Int} {k : Nat} (hk : k < l.length) : fi l (fi l k) = fi l k := by
 by_cases h0 : l.getD k 0 < 0
 ·exact fi_same h0 (fi_val hk)
 ·have e : fi l k = k := by
   unfold fi
   rw [if_neg h0]
  rw [e, e]
theorem fi_sym {l : List Int} {k : Nat} (h0 : 0 ≤ l.getD k 0) : fi l k = k := by
 unfold fi
 rw [if_neg (by omega)]
def lk0 (lo lu : List Int) : List Nat := (List.range lo.length).map (fi lo) ++ (List.range lu.length).map fun k => lo.length + fi lu k
theorem lk_len (lo lu : List Int) : (lk0 lo lu).length = lo.length + lu.length := by simp [lk0]
theorem lk_lo {lo lu : List Int} {i : Nat} (hi : i < lo.length) : (lk0 lo lu).getD i 0 = fi lo i := by
 unfold lk0
 rw [List.getD_eq_getElem?_getD, List.getElem?_append_left (by simpa using hi)]
 simp [hi]
theorem lk_lu {lo lu : List Int} {k : Nat} (hk : k < lu.length) : (lk0 lo lu).getD (lo.length + k) 0 = lo.length + fi lu k := by
 unfold lk0
 rw [List.getD_eq_getElem?_getD, List.getElem?_append_right (by simp)]
 simp [hk]
theorem two {p q i : Nat} (h : i < p + q) : i < p ∨ ∃ k, k < q ∧ i = p + k := by
 by_cases e : i < p
 ·exact .inl e
 ·exact .inr ⟨i - p, by omega, by omega⟩
theorem get_lo {lo r : List Int} {i : Nat} (hi : i < lo.length) : (lo ++ r).getD i 0 = lo.getD i 0 := by
 rw [List.getD_eq_getElem?_getD, List.getElem?_append_left hi, List.getD_eq_getElem?_getD]
theorem get_lu {lo r : List Int} {k : Nat} : (lo ++ r).getD (lo.length + k) 0 = r.getD k 0 := by
 rw [List.getD_eq_getElem?_getD, List.getElem?_append_right (by omega), List.getD_eq_getElem?_getD]
 simp
theorem get_sh {l : List Int} {k : Nat} (hk : k < l.length) : (shiftL 24 l).getD k 0 = sh 24 (l.getD k 0) := by
 unfold shiftL
 simp [List.getD_eq_getElem?_getD, hk]
section
variable {sg lo lu : List Int}
theorem lk_facts {i : Nat} (hi : i < lo.length + lu.length) : (lk0 lo lu).getD i 0 ≤ i ∧ (lk0 lo lu).getD ((lk0 lo lu).getD i 0) 0 = (lk0 lo lu).getD i 0 ∧ (lo ++ lu).getD ((lk0 lo lu).getD i 0) 0 = (lo ++ lu).getD i 0 ∧ (lo ++ shiftL 24 lu).getD ((lk0 lo lu).getD i 0) 0 = (lo ++ shiftL 24 lu).getD i 0 ∧ (0 ≤ (lo ++ lu).getD i 0 → (lk0 lo lu).getD i 0 = i) := by
 rcases two hi with h | ⟨k, h, rfl⟩
 ·have h1 : fi lo i < lo.length := Nat.lt_of_le_of_lt (fi_le h) h
  rw [lk_lo h, lk_lo h1, get_lo h1, get_lo h, get_lo h1, get_lo h]
  exact ⟨fi_le h, fi_fi h, fi_val h, fi_val h, fun h0 => fi_sym h0⟩
 ·have h1 : fi lu k < lu.length := Nat.lt_of_le_of_lt (fi_le h) h
  rw [lk_lu h, lk_lu h1, get_lu, get_lu, get_lu, get_lu, get_sh h1, get_sh h]
  exact ⟨Nat.add_le_add_left (fi_le h) _, by rw [fi_fi h], fi_val h, by rw [fi_val h], fun h0 => by rw [fi_sym h0]⟩
theorem twin (lo lu : List Int) : nodes.Twin (lo ++ lu) (lo ++ shiftL 24 lu) := by
 refine ⟨by simp [shift_len], fun i h0 => ?_, fun i h0 => ?_⟩
 ·by_cases hi : i < lo.length + lu.length
  ·rcases two hi with h | ⟨k, h, rfl⟩
   ·rw [get_lo h, get_lo h]
   ·rw [get_lu] at h0
    rw [get_lu, get_lu, get_sh h]
    unfold sh
    rw [if_neg (by omega)]
  ·rw [List.getD_eq_getElem?_getD, List.getD_eq_getElem?_getD, List.getElem?_eq_none (by simp [shift_len]; omega), List.getElem?_eq_none (by simp; omega)]
 ·by_cases hi : i < lo.length + lu.length
  ·rcases two hi with h | ⟨k, h, rfl⟩
   ·rw [get_lo h] at h0 ⊢
    exact h0
   ·rw [get_lu] at h0
    rw [get_lu, get_sh h]
    unfold sh
    rw [if_pos h0]
    omega
  ·rw [List.getD_eq_getElem?_getD, List.getElem?_eq_none (by simp; omega)] at h0
   exact absurd h0 (by simp)
theorem sc_lo (ho : scan sg 1 lo = some lo.length) {i : Nat} (hi : i < lo.length) : ∃ j, scan sg 1 ((lo ++ lu).drop i) = some j ∧ scan sg 1 (lo.drop i) = some j ∧ 1 ≤ j ∧ i + j ≤ lo.length := by
 obtain ⟨j, h1, h2, h3⟩ := scan_at ho hi
 refine ⟨j, ?_, h1, h2, h3⟩
 rw [List.drop_append_of_le_length (by omega)]
 exact termMath.scan_append h1
theorem drop_lu {l : List Int} (k : Nat) : (lo ++ l).drop (lo.length + k) = l.drop k := by
 rw [← List.drop_drop, List.drop_left]
theorem sc_all (ho : scan sg 1 lo = some lo.length) (hu : scan sg 1 lu = some lu.length) {i : Nat} (hi : i < lo.length + lu.length) : ∃ j, scan sg 1 ((lo ++ lu).drop i) = some j := by
 rcases two hi with h | ⟨k, h, rfl⟩
 ·obtain ⟨j, h1, -⟩ := sc_lo (lu := lu) ho h
  exact ⟨j, h1⟩
 ·obtain ⟨j, h1, -⟩ := scan_at hu h
  exact ⟨j, by rw [drop_lu]; exact h1⟩
theorem len_lo (ho : scan sg 1 lo = some lo.length) {i : Nat} (hi : i < lo.length) : len1 sg (lo ++ lu) i = len1 sg lo i := by
 obtain ⟨j, h1, h2, -⟩ := sc_lo (lu := lu) ho hi
 rw [len1_eq h1, len1_eq h2]
theorem nd_lo (ho : scan sg 1 lo = some lo.length) {a : Nat} (ha : a < lo.length) : nodes.nd sg (lo ++ lu) (lo ++ shiftL 24 lu) a = (lo.drop a).take (len1 sg lo a) := by
 unfold nodes.nd
 obtain ⟨j, h1, h2, h3, h4⟩ := sc_lo (lu := lu) ho ha
 rw [len_lo ho ha, len1_eq h2, List.drop_append_of_le_length (by omega), List.take_append_of_le_length (by simp; omega)]
theorem nd_lu (hu : scan sg 1 lu = some lu.length) : nodes.nd sg (lo ++ lu) (lo ++ shiftL 24 lu) lo.length = shiftL 24 lu := by
 unfold nodes.nd
 have h1 : scan sg 1 ((lo ++ lu).drop lo.length) = some lu.length := by rw [List.drop_left]; exact hu
 rw [len1_eq h1, List.drop_left]
 exact List.take_of_length_le (by rw [shift_len]; exact Nat.le_refl _)
def inn (sg lo : List Int) (a i : Nat) : Prop := (a ≤ i ∧ i < a + len1 sg lo a) ∨ lo.length ≤ i
theorem len_in {t : List Int} {a i j : Nat} (h : scan sg 1 (t.drop a) = some j) (h1 : a ≤ i) (h2 : i < a + j) : i + len1 sg t i ≤ a + j := by
 obtain ⟨q, hq⟩ := scan_tail (a := i - a) h (by omega)
 rw [List.drop_drop, show a + (i - a) = i by omega] at hq
 obtain ⟨k, hk1, hk2, hk3, -⟩ := scan_first hq
 rw [len1_eq hk1]
 omega
theorem gr0 (ho : scan sg 1 lo = some lo.length) (hu : scan sg 1 lu = some lu.length) (hv : ∀ x ∈ lo, -24 ≤ x) {a : Nat} (ha : a < lo.length) : Nd sg (lo ++ lu) (lo ++ shiftL 24 lu) (lo.length + lu.length) (inn sg lo a) a lo.length := by
 have hT := twin lo lu
 have hall := fun {i : Nat} (hi : i < lo.length + lu.length) => sc_all (sg := sg) ho hu hi
 have hu1 : 1 ≤ lu.length := scan_pos hu
 refine ⟨⟨fun i hi => ?_, fun i hi h0 => ?_, fun i hi h0 c hc => ?_, fun i hi h0 => ?_, fun i hi h0 hI c hc => ?_, ?_, ?_⟩, fun i hi => hall hi, by simp⟩
 ·obtain ⟨j, hj⟩ := hall hi
  exact (nd_all hT _ i j hj (Nat.le_refl _)).1
 ·obtain ⟨j, hj⟩ := hall hi
  exact (nd_all hT _ i j hj (Nat.le_refl _)).2.1 h0
 ·obtain ⟨j, hj⟩ := hall hi
  have := (ch_in hj c hc).2.2.1
  simpa using this
 ·obtain ⟨j, hj⟩ := hall hi
  exact ⟨_, hT.var i h0, (nd_all hT _ i j hj (Nat.le_refl _)).2.2 h0⟩
 ·obtain ⟨j, hj⟩ := hall hi
  obtain ⟨c1, c2, c3, c4⟩ := ch_in hj c hc
  have c5 := scan_pos c4
  rcases hI with ⟨h1, h2⟩ | h1
  ·left
   obtain ⟨ja, g1, g2, g3, g4⟩ := sc_lo (lu := lu) ho ha
   have g5 := len1_eq g2
   have := len_in g1 h1 (by omega)
   rw [len1_eq hj] at this
   omega
  ·right
   omega
 ·obtain ⟨ja, g1, g2, g3, g4⟩ := sc_lo (lu := lu) ho ha
  have := len1_eq g2
  exact ⟨.inl ⟨Nat.le_refl _, by omega⟩, by omega⟩
 ·exact ⟨.inr (Nat.le_refl _), by omega⟩
theorem lk0_ok (ho : scan sg 1 lo = some lo.length) (hu : scan sg 1 lu = some lu.length) (hv : ∀ x ∈ lo, -24 ≤ x) (a : Nat) : Lk (lo.length + lu.length) (fun i => (lo ++ lu).getD i 0) (nodes.nd sg (lo ++ lu) (lo ++ shiftL 24 lu)) (inn sg lo a) (lk0 lo lu) (fun i => (lk0 lo lu).getD i 0) (fun i => i) := by
 have hT := twin lo lu
 have hall := fun {i : Nat} (hi : i < lo.length + lu.length) => sc_all (sg := sg) ho hu hi
 refine ⟨lk_len _ _, fun i hi => ?_, fun i hi => ?_, fun i hi => ?_, fun i hi h => h, fun i hi h => ?_, fun i hi h0 => ?_, fun i j hi hj h0 e => ?_, fun i hi h0 _ j hj e => ?_⟩
 ·have := (lk_facts hi).1
  exact ⟨by omega, by show (lk0 lo lu).getD i 0 < _; omega⟩
 ·exact ⟨(lk_facts hi).2.1, (lk_facts hi).2.1⟩
 ·exact (lk_facts hi).2.1
 ·have := (lk_facts hi).1
  show (lk0 lo lu).getD i 0 < i
  omega
 ·show 0 ≤ (lo ++ lu).getD ((lk0 lo lu).getD i 0) 0
  rw [(lk_facts hi).2.2.1]
  exact h0
 ·obtain ⟨ji, hji⟩ := hall hi
  obtain ⟨jj, hjj⟩ := hall hj
  have e1 := (nd_all hT _ i ji hji (Nat.le_refl _)).2.2 h0
  have h1 := hT.var i h0
  have h2 : (lo ++ lu).getD j 0 < 0 := by
   by_cases hn : (lo ++ lu).getD j 0 < 0
   ·exact hn
   ·have := ((nd_all hT _ j jj hjj (Nat.le_refl _)).2.1 (by omega)).2
    rw [← e, e1] at this
    simp only [List.getD_cons_zero] at this
    omega
  have e2 := (nd_all hT _ j jj hjj (Nat.le_refl _)).2.2 h2
  rw [e1, e2] at e
  injection e with e _
  show (lk0 lo lu).getD i 0 = (lk0 lo lu).getD j 0
  rcases two hi with hi' | ⟨k, hi', rfl⟩ <;> rcases two hj with hj' | ⟨k', hj', rfl⟩
  ·rw [get_lo hi', get_lo hj'] at e
   rw [get_lo hj'] at h2
   rw [lk_lo hi', lk_lo hj', fi_same h2 e]
  ·exfalso
   rw [get_lo hi', get_lu, get_sh hj'] at e
   rw [get_lu] at h2
   have := hv _ (get_mem hi')
   unfold sh at e
   rw [if_pos h2] at e
   omega
  ·exfalso
   rw [get_lo hj', get_lu, get_sh hi'] at e
   rw [get_lu] at h0
   have := hv _ (get_mem hj')
   unfold sh at e
   rw [if_pos h0] at e
   omega
  ·rw [get_lu, get_lu, get_sh hi', get_sh hj'] at e
   rw [get_lu] at h0 h2
   unfold sh at e
   rw [if_pos h2, if_pos h0] at e
   rw [lk_lu hi', lk_lu hj', fi_same h2 (by omega)]
 ·have e' : (lk0 lo lu).getD j 0 = (lk0 lo lu).getD i 0 := e
  have h3 := (lk_facts hi).2.2.2.2 h0
  have h4 := (lk_facts hj).2.2.1
  rw [e', h3] at h4
  rw [(lk_facts hj).2.2.2.2 (by rw [← h4]; exact h0), h3] at e'
  exact e'
theorem snd0 (ho : scan sg 1 lo = some lo.length) (hu : scan sg 1 lu = some lu.length) (a u : Nat) : Snd sg (lo.length + lu.length) (nodes.nd sg (lo ++ lu) (lo ++ shiftL 24 lu)) a u fun i => (lk0 lo lu).getD i 0 := by
 intro θ _ i hi
 have hT := twin lo lu
 show fillL θ (nodes.nd sg (lo ++ lu) (lo ++ shiftL 24 lu) i) = fillL θ (nodes.nd sg (lo ++ lu) (lo ++ shiftL 24 lu) ((lk0 lo lu).getD i 0))
 by_cases h0 : 0 ≤ (lo ++ lu).getD i 0
 ·rw [(lk_facts hi).2.2.2.2 h0]
 ·obtain ⟨f1, f2, f3, f4, f5⟩ := lk_facts hi
  obtain ⟨ji, hji⟩ := sc_all (sg := sg) ho hu hi
  obtain ⟨jj, hjj⟩ := sc_all (sg := sg) ho hu (show (lk0 lo lu).getD i 0 < lo.length + lu.length by omega)
  rw [(nd_all hT _ i ji hji (Nat.le_refl _)).2.2 (by omega), (nd_all hT _ _ jj hjj (Nat.le_refl _)).2.2 (by rw [f3]; omega), f4]
theorem clo0 (P : Nat → Nat → Prop) : Clo (lo.length + lu.length) (fun i => (lo ++ lu).getD i 0) (chN sg (lo ++ lu)) (fun i => (lk0 lo lu).getD i 0) P := by
 intro i hi h0
 have e := (lk_facts hi).2.2.2.2 h0
 refine ⟨by show (lo ++ lu).getD ((lk0 lo lu).getD i 0) 0 = (lo ++ lu).getD i 0; rw [e], fun k hk => ?_⟩
 show Eqc _ P ((chN sg (lo ++ lu) i).getD k 0) ((chN sg (lo ++ lu) ((lk0 lo lu).getD i 0)).getD k 0)
 rw [e]
 exact .same _ _ rfl
def lkT (s : Nat) (l : List Int) (k : Nat) : List Nat := (List.range k).map fun i => s + fi l i
theorem lkT_next (s : Nat) (l : List Int) (k : Nat) : lkT s l (k + 1) = lkT s l k ++ [s + fi l k] := by
 unfold lkT
 rw [List.range_succ, List.map_append]
 rfl
theorem lkT_all (lo lu : List Int) : lkT 0 lo lo.length ++ lkT lo.length lu lu.length = lk0 lo lu := by
 unfold lkT lk0
 congr 1
 exact List.map_congr_left fun i _ => by simp
theorem cover {sg t : List Int} : ∀ {q p k i : Nat}, scan sg q (t.drop p) = some k → p ≤ i → i < p + k → ∃ c, c ∈ (places sg t q p).map Int.toNat ∧ c ≤ i ∧ i < c + len1 sg t c
 | 0, p, k, i, h, h1, h2 => by
  rw [scan_zero] at h
  injection h with h
  omega
 | q + 1, p, k, i, h, h1, h2 => by
  obtain ⟨j, g1, g2, g3, g4⟩ := scan_first h
  have ej := len1_eq g1
  by_cases e : i < p + j
  ·exact ⟨p, by simp [places], h1, by omega⟩
  ·obtain ⟨c, c1, c2, c3⟩ := cover (i := i) g4 (by omega) (by omega)
   refine ⟨c, ?_, c2, c3⟩
   rw [places, List.map_cons, ej]
   exact List.mem_cons_of_mem _ c1
theorem getD_mem {l : List Nat} {k : Nat} (hk : k < l.length) : l.getD k 0 ∈ l := by
 rw [List.getD_eq_getElem?_getD, List.getElem?_eq_getElem hk]
 exact List.getElem_mem _
theorem down {sg nums nums' : List Int} {n a u : Nat} {Inn : Nat → Prop} {lk : List Nat} {rt rk : Nat → Nat} {D : List Nat} (hN : Nd sg nums nums' n Inn a u) (hL : Lk n (fun i => nums.getD i 0) (nodes.nd sg nums nums') Inn lk rt rk) (hC : Clo n (fun i => nums.getD i 0) (chN sg nums) rt fun _ _ => False)
  (hD : ufMath.Good n (fun i => nums.getD i 0) (chN sg nums) rt D) : ∀ (m i : Nat), i < n → len1 sg nums i ≤ m → rt i ∈ D → ∀ i', i ≤ i' → i' < i + len1 sg nums i → rt i' ∈ D
 | 0, i, hi, hm, hr, i', h1, h2 => by omega
 | m + 1, i, hi, hm, hr, i', h1, h2 => by
  by_cases e : i' = i
  ·rw [e]; exact hr
  obtain ⟨j, hj⟩ := hN.sc i hi
  have ej := len1_eq hj
  obtain ⟨i0, e0, g1, g2, g3⟩ := scan_args hj
  by_cases h0 : nums.getD i 0 < 0
  ·exfalso
   have har : ar sg (nums.getD i 0) = 0 := by
    by_cases hb : -24 ≤ nums.getD i 0
    ·exact ar_var ⟨hb, by omega⟩
    ·exact absurd (ar_no (sg := sg) (x := nums.getD i 0) (by omega) (by omega)) (by omega)
   rw [har] at g3
   have : scan sg (Int.toNat 0) (nums.drop (i + 1)) = some 0 := scan_zero _ _
   rw [g3] at this
   injection this with this
   omega
  ·obtain ⟨c, c1, c2, c3⟩ := cover (i := i') g3 (by omega) (by omega)
   have hc : c ∈ chN sg nums i := c1
   obtain ⟨d1, d2, d3, d4⟩ := ch_in hj c hc
   obtain ⟨k, hk, ek⟩ := List.getElem_of_mem hc
   have ek' : (chN sg nums i).getD k 0 = c := by rw [List.getD_eq_getElem?_getD, List.getElem?_eq_getElem hk, ek]; rfl
   obtain ⟨f1, f2⟩ := hC i hi (show 0 ≤ nums.getD i 0 by omega)
   have f3 := Eqc.none (f2 k hk)
   have hri := (hL.lt i hi).2
   replace f1 : nums.getD (rt i) 0 = nums.getD i 0 := f1
   have hl1 := hN.gr.chl (i := i) hi (show 0 ≤ nums.getD i 0 by omega)
   have hl2 := hN.gr.chl (i := rt i) hri (by rw [f1]; show 0 ≤ nums.getD i 0; omega)
   rw [f1] at hl2
   have hk2 : k < (chN sg nums (rt i)).length := by rw [hl2, ← hl1]; exact hk
   obtain ⟨jx, hjx, ejx⟩ := mem_at.1 hr
   obtain ⟨-, -, hcl⟩ := hD jx hjx
   rw [ejx] at hcl
   obtain ⟨ix, hix, eix⟩ := hcl (by show 0 ≤ nums.getD (rt i) 0; rw [f1]; omega) _ (getD_mem hk2)
   have hrc : rt c ∈ D := by
    rw [← ek', f3, ← eix]
    exact mem_at.2 ⟨ix, by omega, rfl⟩
   exact down hN hL hC hD m c (by rw [← hN.len]; exact d3) (by omega) hrc i' c2 c3
theorem whole_of {sg lo lu : List Int} (ho : scan sg 1 lo = some lo.length) (hu : scan sg 1 lu = some lu.length) (hv : ∀ x ∈ lo, -24 ≤ x) {a : Nat} (ha : a < lo.length) {lk : List Nat} {rt rk : Nat → Nat} {D : List Nat}
  (hL : Lk (lo.length + lu.length) (fun i => (lo ++ lu).getD i 0) (nodes.nd sg (lo ++ lu) (lo ++ shiftL 24 lu)) (inn sg lo a) lk rt rk) (hS : Snd sg (lo.length + lu.length) (nodes.nd sg (lo ++ lu) (lo ++ shiftL 24 lu)) a lo.length rt) (hC : Clo (lo.length + lu.length) (fun i => (lo ++ lu).getD i 0) (chN sg (lo ++ lu)) rt fun _ _ => False)
  (he : rt a = rt lo.length) (hD : ufMath.Good (lo.length + lu.length) (fun i => (lo ++ lu).getD i 0) (chN sg (lo ++ lu)) rt D) (hr : rt a ∈ D) :
  Whole sg (lo.length + lu.length) (fun i => (lo ++ lu).getD i 0) (nodes.nd sg (lo ++ lu) (lo ++ shiftL 24 lu)) (chN sg (lo ++ lu)) (inn sg lo a) a lo.length lk rt rk D := by
 have hN := gr0 (lu := lu) ho hu hv ha
 have hu1 := scan_pos hu
 refine ⟨hN.gr, hL, hS, hC, he, hD, fun i hi hI => ?_⟩
 rcases hI with ⟨h1, h2⟩ | h1
 ·exact down hN hL hC hD _ a (by omega) (Nat.le_refl _) hr i h1 (by rw [len_lo ho ha]; exact h2)
 ·refine down hN hL hC hD _ lo.length (by omega) (Nat.le_refl _) (he ▸ hr) i h1 ?_
  have h3 : scan sg 1 ((lo ++ lu).drop lo.length) = some lu.length := by rw [List.drop_left]; exact hu
  rw [len1_eq h3]
  exact hi
end
end ovStart
end
section
namespace pkMgu
open sig term termOk termFacts sub fillMath renMath matchMath unifMath forest triMath ufMath ruleMath pkMath trySpec pkVars
set_option maxRecDepth 100000
section
variable {sg : List Int} {n : Nat} {nm : Nat → Int} {nd : Nat → List Int} {ch : Nat → List Nat} {Inn : Nat → Prop} {a u : Nat} {lk : List Nat} {rt rk : Nat → Nat} {D : List Nat}
theorem rsv_vars (hch : ∀ i, i < n → 0 ≤ nm i → ∀ c ∈ ch i, c < n) (hrt : ∀ i, i < n → rt i < n) : ∀ (f r : Nat), r < n → ∀ x ∈ rsv nm ch rt f r, x < 0 → vr x < n
 | 0, r, hr, x, hx, h0 => by
  unfold rsv at hx
  rw [List.mem_singleton] at hx
  subst hx
  rw [vr_at]
  exact hr
 | f + 1, r, hr, x, hx, h0 => by
  unfold rsv at hx
  split at hx
  ·rw [List.mem_singleton] at hx
   subst hx
   rw [vr_at]
   exact hr
  ·rename_i hn0
   rcases List.mem_cons.1 hx with e | e
   ·omega
   ·obtain ⟨l, hl, hxl⟩ := List.mem_flatten.1 e
    obtain ⟨c, hc, rfl⟩ := List.mem_map.1 hl
    exact rsv_vars hch hrt f _ (hrt c (hch r hr (by omega) c hc)) x hxl h0
def Occ (n : Nat) (nm : Nat → Int) (nd : Nat → List Int) (j : Nat) : Prop := ∃ i, i < n ∧ nm i < 0 ∧ nd i = [-1 - (j : Int)]
def nuF (n : Nat) (nd : Nat → List Int) (r : Nat) : List Int := if r < n then nd r else vt r
open Classical in
noncomputable def lF (n : Nat) (nm : Nat → Int) (nd : Nat → List Int) (ch : Nat → List Nat) (rt : Nat → Nat) (D : List Nat) (j : Nat) : List Int := if Occ n nm nd j then fillL (nuF n nd) (ufMath.wL n nm nd ch rt D j) else vt j
theorem nu_fo (h : Whole sg n nm nd ch Inn a u lk rt rk D) : Sb sg (nuF n nd) := fun r => by
 unfold nuF
 split
 ·rename_i hr
  exact h.gr.fo r hr
 ·exact Fo.vt r
theorem lF_occ {j : Nat} (h : Occ n nm nd j) : lF n nm nd ch rt D j = fillL (nuF n nd) (ufMath.wL n nm nd ch rt D j) := by unfold lF; rw [if_pos h]
theorem lF_fill {t : List Int} (h : ∀ x ∈ t, x < 0 → Occ n nm nd (vr x)) : fillL (lF n nm nd ch rt D) t = fillL (nuF n nd) (fillL (ufMath.wL n nm nd ch rt D) t) := by
 rw [fill_fill]
 exact fill_ext fun x hx h0 => lF_occ (h x hx h0)
theorem lF_sb (h : Whole sg n nm nd ch Inn a u lk rt rk D) : Sb sg (lF n nm nd ch rt D) := fun j => by
 unfold lF
 split
 ·exact (h.sb j).fill (nu_fo h)
 ·exact Fo.vt j
theorem lF_gen (h : Whole sg n nm nd ch Inn a u lk rt rk D) {θ : Nat → List Int} (hθ : Unis sg (nd a) (nd u) θ) (j : Nat) : fillL θ (lF n nm nd ch rt D j) = θ j := by
 by_cases ho : Occ n nm nd j
 ·rw [lF_occ ho]
  obtain ⟨i, hi, h0, e⟩ := ho
  have hw := h.wL i _ hi h0 e
  rw [vr_at] at hw
  rw [hw, fill_fill]
  have hd : rt i ∈ D ∨ nm (rt i) < 0 := by
   by_cases h1 : nm (rt i) < 0
   ·exact .inr h1
   ·exact .inl (h.hasD hi (by omega) (.inl h0))
  have e2 : fillL (fun r => fillL θ (nuF n nd r)) (rnd nm ch rt D i) = fillL (fun r => fillL θ (nd r)) (rnd nm ch rt D i) := fill_ext fun x hx hx0 => by
   have := rsv_vars h.gr.lt (fun i hi => (h.lk.lt i hi).2) D.length _ ((h.lk.lt i hi).2) x hx hx0
   show fillL θ (nuF n nd (vr x)) = fillL θ (nd (vr x))
   unfold nuF
   rw [if_pos this]
  rw [e2, h.gen hθ hi hd, e, fill_one, rep_vr (by omega), vr_at]
 ·unfold lF
  rw [if_neg ho, fill_vti]
theorem lF_mgu (h : Whole sg n nm nd ch Inn a u lk rt rk D) (hs : ∀ x ∈ nd a, x < 0 → Occ n nm nd (vr x)) (ht : ∀ x ∈ nd u, x < 0 → Occ n nm nd (vr x)) : MguS sg (nd a) (nd u) (lF n nm nd ch rt D) := by
 refine ⟨⟨lF_sb h, ?_⟩, fun θ hθ j => lF_gen h hθ j⟩
 rw [lF_fill hs, lF_fill ht, h.unis.2]
end
theorem mgu_same {sg s t T A R : List Int} {L L' : Nat → List Int} (h : MguS sg s t L) (h' : MguS sg s t L') (vA : ∀ x ∈ fillL L A, x < 0 → x ∈ fillL L T) (vR : ∀ x ∈ fillL L R, x < 0 → x ∈ fillL L T) : pk3 (fillL L T) (fillL L A) (fillL L R) = pk3 (fillL L' T) (fillL L' A) (fillL L' R) := by
 have e : ∀ X : List Int, fillL L' X = fillL L' (fillL L X) := fun X => by
  rw [fill_fill]
  exact fill_ext fun x _ h0 => (h.gen L' h'.uni _).symm
 have f : ∀ X : List Int, fillL L X = fillL L (fillL L' X) := fun X => by
  rw [fill_fill]
  exact fill_ext fun x _ h0 => (h'.gen L h.uni _).symm
 exact pk_same (fun i => (h'.uni.1 i).pos) (fun i => (h.uni.1 i).pos) (e T) (e A) (e R) (f T) (f A) (f R) vA vR
open Classical in
noncomputable def pkV (sg : List Int) (rs : List Rl) (o a u : Nat) : Option (List Int × List Int × List Int) :=
 if h : ∃ L, MguS sg (oS sg rs o a) (oT rs u) L then pk3 (fillL (Classical.choose h) (lh rs o)) (fillL (Classical.choose h) (leftA sg rs o a u)) (fillL (Classical.choose h) (rh rs o)) else none
section
variable {sg : List Int} {rs : List Rl} {o a u : Nat}
theorem pkV_of (ho : termOkB sg (lh rs o) = true) (ha : a < (lh rs o).length) (hvo : ∀ x, x ∈ rh rs o → x < 0 → x ∈ lh rs o) (hvu : ∀ x, x ∈ rh rs u → x < 0 → x ∈ lh rs u) {L : Nat → List Int} (h : MguS sg (oS sg rs o a) (oT rs u) L) : pk3 (fillL L (lh rs o)) (fillL L (leftA sg rs o a u)) (fillL L (rh rs o)) = pkV sg rs o a u := by
 have hex : ∃ L, MguS sg (oS sg rs o a) (oT rs u) L := ⟨L, h⟩
 unfold pkV
 rw [dif_pos hex]
 exact mgu_same h (Classical.choose_spec hex) (left_vars ho ha hvu h.uni.2) (right_vars hvo)
end
end pkMgu
end
section
namespace pkAns
open Go.RowKit base ints sig marks app segs kinds shape kindsR kindsP peakMath
set_option maxRecDepth 100000
def AnsPk (w : World) (p : Pk) (b : Bool) (e : Ending) (w' : World) : Prop := ∃ A0 n0 c0 A1 n1 c1 A2 n2 c2, e = .returned (.tuple #[.agg #[.slice A0 n0 c0, .slice A1 n1 c1, .slice A2 n2 c2, .int .i64 p.2.2.2.1, .int .i64 p.2.2.2.2.1, .int .i64 p.2.2.2.2.2], .bool b]) ∧
 Owned w' w.heap.size w'.heap.size sPeak [.slice A0 n0 c0, .slice A1 n1 c1, .slice A2 n2 c2, .int .i64 p.2.2.2.1, .int .i64 p.2.2.2.2.1, .int .i64 p.2.2.2.2.2] p ∧ Below w.heap.size w w'
theorem owned_catR {w : World} {lo hi mid mid' : Nat} {a b : Sh} {ca cb : List Value} {da : Dat a} {db : Dat b} (h1 : Owned w mid' hi a ca da) (h2 : Owned w lo mid b cb db) (hm : mid ≤ mid') (hl : lo ≤ mid') (hh : mid ≤ hi) : Owned w lo hi (.cat a b) (ca ++ cb) (da, db) := by
 obtain ⟨F, h1, n1, b1⟩ := h1
 obtain ⟨G, h2, n2, b2⟩ := h2
 refine ⟨F ++ G, ⟨ca, cb, F, G, rfl, rfl, h1, h2⟩, List.nodup_append.2 ⟨n1, n2, fun x hx y hy e => ?_⟩, fun k hk => ?_⟩
 ·have := b1 x hx
  have := b2 y hy
  omega
 ·rcases List.mem_append.1 hk with hk | hk
  ·have := b1 k hk; omega
  ·have := b2 k hk; omega
theorem ansPk_no {w w' : World} {p : Pk} {b : Bool} (h : p = ([], [], [], 0, 0, 0) ∧ b = false) (hb : Below w.heap.size w w') : AnsPk w p b (.returned (.tuple #[.agg #[.slice none 0 0, .slice none 0 0, .slice none 0 0, .int .i64 0, .int .i64 0, .int .i64 0], .bool false])) w' := by
 obtain ⟨rfl, rfl⟩ := h
 have o : Owned w' w'.heap.size w'.heap.size sI [.slice none 0 0] ([] : List Int) := ow_ints.2 (Ownd.of_own (Own.nil w' w'.heap.size))
 exact ⟨none, 0, 0, none, 0, 0, none, 0, 0, rfl, join_Peak (d := (([], [], [], 0, 0, 0) : Dat sPeak)) (m0 := w'.heap.size) (m1 := w'.heap.size) (m2 := w'.heap.size) (m3 := w'.heap.size) (m4 := w'.heap.size) (m5 := w'.heap.size) (m6 := w'.heap.size) o o o (Owned.num _ _ _ _) (Owned.num _ _ _ _) (Owned.num _ _ _ _) (Nat.le_refl _) (Nat.le_refl _) (Nat.le_refl _) (Nat.le_refl _) (Nat.le_refl _) (Nat.le_refl _) hb.size (Nat.le_refl _), hb⟩
end pkAns
end
section
namespace pkAll
open sig ruleMath peakMath shape kindsP pkMath trySpec pkVars pkMgu
noncomputable def okA (sg : List Int) (rs : List Rl) (o x u : Int) : Bool := (sysOkB sg rs && metB sg rs o x u) && (pkV sg rs o.toNat x.toNat u.toNat).isSome
noncomputable def pkA (sg : List Int) (rs : List Rl) (o x u : Int) : Pk := if (sysOkB sg rs && metB sg rs o x u) = true then pkO (pkV sg rs o.toNat x.toNat u.toNat) o.toNat x.toNat u.toNat else ([], [], [], 0, 0, 0)
section
variable {sg : List Int} {rs : List Rl} {o x u : Int}
theorem pa_yes (h : sysOkB sg rs = true) (h1 : metB sg rs o x u = true) : pkA sg rs o x u = pkO (pkV sg rs o.toNat x.toNat u.toNat) o.toNat x.toNat u.toNat ∧ okA sg rs o x u = (pkV sg rs o.toNat x.toNat u.toNat).isSome := by unfold pkA okA; rw [h, h1]; exact ⟨rfl, rfl⟩
end
end pkAll
end
section
namespace pksMath
open sig shape kindsP ruleMath peakMath trySpec ovsMath pkMath pkVars pkMgu pkAll
abbrev Tr := Nat × Nat × Nat
def anyW : Nat → Nat → Bool := fun _ _ => true
noncomputable def pkT (sg : List Int) (rs : List Rl) (t : Tr) : Pk := pkO (pkV sg rs t.1 t.2.1 t.2.2) t.1 t.2.1 t.2.2
noncomputable def okT (sg : List Int) (rs : List Rl) (t : Tr) : Bool := (pkV sg rs t.1 t.2.1 t.2.2).isSome
noncomputable def goodL (sg : List Int) (rs : List Rl) (L : List Tr) : Bool := decide (L.length ≤ 64) && L.all (okT sg rs)
noncomputable def psB (sg : List Int) (rs : List Rl) : Bool := sysOkB sg rs && goodL sg rs (ovs sg rs anyW)
noncomputable def psA (sg : List Int) (rs : List Rl) : List Pk := if psB sg rs = true then (ovs sg rs anyW).map (pkT sg rs) else []
section
variable {sg : List Int} {rs : List Rl} {L M : List Tr} {t : Tr}
theorem good_nil : goodL sg rs [] = true := by simp [goodL]
theorem good_len (h : goodL sg rs L = true) : L.length ≤ 64 := by
 unfold goodL at h
 rw [Bool.and_eq_true] at h
 exact of_decide_eq_true h.1
theorem good_pre (h : goodL sg rs M = true) (hp : L <+: M) : goodL sg rs L = true := by
 obtain ⟨K, rfl⟩ := hp
 unfold goodL at h ⊢
 rw [Bool.and_eq_true, List.all_append, Bool.and_eq_true] at h
 rw [Bool.and_eq_true]
 have h1 := of_decide_eq_true h.1
 rw [List.length_append] at h1
 exact ⟨decide_eq_true (by omega), h.2.1⟩
theorem good_app (h : goodL sg rs L = true) (h1 : okT sg rs t = true) (h2 : L.length < 64) : goodL sg rs (L ++ [t]) = true := by
 unfold goodL at h ⊢
 rw [Bool.and_eq_true] at h
 rw [Bool.and_eq_true, List.all_append, Bool.and_eq_true]
 exact ⟨decide_eq_true (by rw [List.length_append]; simp; omega), h.2, by simp [h1]⟩
theorem bad_ok (h1 : okT sg rs t = false) : goodL sg rs (L ++ [t]) = false := by
 unfold goodL
 rw [List.all_append]
 simp [h1]
theorem bad_len (h2 : L.length = 64) : goodL sg rs (L ++ [t]) = false := by
 unfold goodL
 rw [decide_eq_false (by rw [List.length_append, h2]; simp)]
 rfl
theorem ps_sys (h : sysOkB sg rs = false) : psA sg rs = [] ∧ psB sg rs = false := by
 have : psB sg rs = false := by unfold psB; rw [h]; rfl
 exact ⟨by unfold psA; rw [this]; rfl, this⟩
theorem ps_bad (hp : L <+: ovs sg rs anyW) (h : goodL sg rs L = false) : psA sg rs = [] ∧ psB sg rs = false := by
 have : psB sg rs = false := by
  unfold psB
  cases hg : goodL sg rs (ovs sg rs anyW) with
  | false => exact Bool.and_false _
  | true => rw [good_pre hg hp] at h; cases h
 exact ⟨by unfold psA; rw [this]; rfl, this⟩
theorem ps_good (hs : sysOkB sg rs = true) (h : goodL sg rs (ovs sg rs anyW) = true) : psA sg rs = (ovs sg rs anyW).map (pkT sg rs) ∧ psB sg rs = true := by
 have : psB sg rs = true := by unfold psB; rw [h, hs]; rfl
 exact ⟨by unfold psA; rw [this]; rfl, this⟩
theorem sz_row {e : Go.TypeId} {s : Sh} (B : Nat) : ∀ (D : List (Dat s)), (∀ x ∈ D, sz s x ≤ B) → sz (.row e s) D ≤ D.length * (B + nc s + 1)
 | [], _ => by simp [sz]
 | x :: r, h => by
  have h1 := sz_row (e := e) B r fun y hy => h y (List.mem_cons_of_mem _ hy)
  have h2 := h x (List.mem_cons_self ..)
  have e1 : (r.length + 1) * (B + nc s + 1) = r.length * (B + nc s + 1) + (B + nc s + 1) := by rw [Nat.add_mul, Nat.one_mul]
  simp only [sz, List.length_cons, List.map_cons, List.sum_cons, e1] at h1 ⊢
  omega
end
section
variable (sg : List Int) (rs : List Rl)
noncomputable def posV (o a u : Nat) : List Tr := allV (fun o a u => metB sg rs (o : Int) (a : Int) (u : Int)) anyW (fun o => (lh rs o).length) rs.length o ++ (colV (fun o a u => metB sg rs (o : Int) (a : Int) (u : Int)) anyW rs.length o a ++ rowV (fun o a u => metB sg rs (o : Int) (a : Int) (u : Int)) anyW o a u)
end
section
variable {sg : List Int} {rs : List Rl} {o a u : Nat}
theorem pos_zero : posV sg rs 0 0 0 = [] := rfl
theorem pos_no (h : metB sg rs (o : Int) (a : Int) (u : Int) = false) : posV sg rs o a (u + 1) = posV sg rs o a u := by
 unfold posV
 rw [ovsMath.row_no (by rw [h]; exact Bool.and_false _)]
theorem pos_yes (h : metB sg rs (o : Int) (a : Int) (u : Int) = true) : posV sg rs o a (u + 1) = posV sg rs o a u ++ [(o, a, u)] := by
 unfold posV
 rw [ovsMath.row_yes rfl h]
 simp only [List.append_assoc]
theorem pos_row : posV sg rs o a rs.length = posV sg rs o (a + 1) 0 := by
 unfold posV
 rw [col_succ, row_zero, List.append_nil]
theorem pos_col : posV sg rs o (lh rs o).length 0 = posV sg rs (o + 1) 0 0 := by
 unfold posV
 rw [all_succ, row_zero, col_zero, row_zero, List.append_nil, List.append_nil, List.append_nil]
theorem pos_all : posV sg rs rs.length 0 0 = ovs sg rs anyW := by
 unfold posV ovs
 rw [row_zero, col_zero, List.append_nil, List.append_nil]
theorem pos_pre (ho : o < rs.length) (ha : a < (lh rs o).length) (hu : u ≤ rs.length) : posV sg rs o a u <+: ovs sg rs anyW := part_pre ho ha hu
end
end pksMath
end
section
namespace pksAns
open Go.RowKit base sig shape kindsP ruleMath peakMath ovsMath pkAll pksMath ownL
set_option maxRecDepth 100000
theorem info_Peak : ∃ z bytes, (Tryz.prog.info? 38).map (fun i => (i.zero, i.size, i.bytes)) = some (some z, nc sPeak, bytes) ∧ z.cells.size = nc sPeak ∧ bytes ≤ 4096 := ⟨.agg #[.slice none 0 0, .slice none 0 0, .slice none 0 0, .int .i64 0, .int .i64 0, .int .i64 0], 96, rfl, rfl, by decide⟩
def AnsPks (w : World) (L : List Pk) (b : Bool) (e : Ending) (w' : World) : Prop := ∃ A n c, e = .returned (.tuple #[.slice A n c, .bool b]) ∧ OwnL w' w.heap.size w'.heap.size 38 sPeak A n c L ∧ Below w.heap.size w w'
theorem ansPks_none {w w' : World} {L : List Pk} {b : Bool} (h : L = [] ∧ b = false) (hb : Below w.heap.size w w') : AnsPks w L b (.returned (.tuple #[.slice (some ⟨w'.heap.size, 0, none⟩) 0 0, .bool false])) (w'.alloc (.cells #[] 38)) := by
 obtain ⟨rfl, rfl⟩ := h
 exact ⟨_, 0, 0, rfl, OwnL.empty w' _ _ hb.size (by simp), hb.alloc hb.size _⟩
structure PksX (w wr : World) : Prop where
 r2 : Row wr (w.heap.size + 1) 49 #[.slice none 0 0]
 r3 : Row wr (w.heap.size + 1 + 1) 4 #[.bool false]
 b : Below w.heap.size w wr
structure PksI (w : World) (B lo : Nat) (sg : List Int) (rs : List Rl) (pre : List Tr) (wr : World) : Prop where
 x : PksX w wr
 p : ∃ O on oc, Row wr B 49 #[.slice O on oc] ∧ OwnL wr lo wr.heap.size 38 sPeak O on oc (pre.map (pkT sg rs))
 g : goodL sg rs pre = true
end pksAns
end
end Go.Proofs.YtlmofkeemlfpgaaGreat
