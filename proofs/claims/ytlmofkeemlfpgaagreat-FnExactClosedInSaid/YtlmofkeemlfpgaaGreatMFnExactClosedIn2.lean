/-
  MERGED: my texts FillMath, RenMath, MatchMath, PlainMath, UnifMath, Forest, TriMath, OccMath, AppAt, Segs, SegsHelp, SegsMark, Kinds, Shape, Shape2, Dice, DrawSig, one behind the other, as they are. By an AI agent.
-/
import Derived.Test.YtlmofkeemlfpgaaGreatMFnExactClosedIn1
import Derived.Maps.AppendAt
import Derived.Deep.QuietTactic
import Derived.BigQuiet
import Derived.Deep.AppendLies
import Derived.Deep.RegionLaw
namespace Go.Proofs.YtlmofkeemlfpgaaGreat
section
namespace fillMath
open sig term termOk termFacts varsMath
def vt (i : Nat) : List Int := [-1 - (i : Int)]
def rep (L : Nat → List Int) (n : Int) : List Int := if 0 ≤ n then [n] else L (-1 - n).toNat
def fillL (L : Nat → List Int) (t : List Int) : List Int := t.flatMap (rep L)
theorem rep_sym {L : Nat → List Int} {n : Int} (h : 0 ≤ n) : rep L n = [n] := by unfold rep; rw [if_pos h]
theorem rep_var {L : Nat → List Int} {n : Int} (h : n < 0) : rep L n = L (-1 - n).toNat := by unfold rep; rw [if_neg (by omega)]
theorem fill_nil (L : Nat → List Int) : fillL L [] = [] := rfl
theorem fill_cons (L : Nat → List Int) (x : Int) (r : List Int) : fillL L (x :: r) = rep L x ++ fillL L r := by simp [fillL]
theorem fill_append (L : Nat → List Int) (a b : List Int) : fillL L (a ++ b) = fillL L a ++ fillL L b := by simp [fillL]
theorem fill_take {L : Nat → List Int} {t : List Int} {k : Nat} {x : Int} (hk : k < t.length) (hx : t.getD k 0 = x) : fillL L (t.take (k + 1)) = fillL L (t.take k) ++ rep L x := by
 rw [take_snoc hk hx, fill_append, fill_cons, fill_nil, List.append_nil]
theorem rep_len {L : Nat → List Int} {M : Nat} (h1 : 1 ≤ M) (hM : ∀ i, (L i).length ≤ M) (n : Int) : (rep L n).length ≤ M := by
 unfold rep
 split
 ·simpa using h1
 ·exact hM _
theorem fill_len {L : Nat → List Int} {M : Nat} (h1 : 1 ≤ M) (hM : ∀ i, (L i).length ≤ M) : ∀ t : List Int, (fillL L t).length ≤ t.length * M
 | [] => by simp [fill_nil]
 | x :: r => by
  have h2 := rep_len h1 hM x
  have h3 := fill_len h1 hM r
  rw [fill_cons, List.length_append, List.length_cons, Nat.add_mul]
  omega
theorem fill_ge {L : Nat → List Int} (h1 : ∀ i, 1 ≤ (L i).length) : ∀ t : List Int, t.length ≤ (fillL L t).length
 | [] => by simp
 | x :: r => by
  have h3 := fill_ge h1 r
  have h2 : 1 ≤ (rep L x).length := by
   unfold rep
   split
   ·simp
   ·exact h1 _
  rw [fill_cons, List.length_append, List.length_cons]
  omega
theorem fill_ext {L L' : Nat → List Int} : ∀ {t : List Int}, (∀ x ∈ t, x < 0 → L (-1 - x).toNat = L' (-1 - x).toNat) → fillL L t = fillL L' t
 | [], _ => rfl
 | x :: r, h => by
  rw [fill_cons, fill_cons, fill_ext (fun y hy => h y (List.mem_cons_of_mem _ hy))]
  congr 1
  unfold rep
  split
  ·rfl
  ·exact h x (List.mem_cons_self ..) (by omega)
theorem fill_fill {L U : Nat → List Int} : ∀ t : List Int, fillL U (fillL L t) = fillL (fun i => fillL U (L i)) t
 | [] => rfl
 | x :: r => by
  rw [fill_cons, fill_append, fill_cons, fill_fill r]
  congr 1
  unfold rep
  by_cases h : 0 ≤ x
  ·rw [if_pos h, if_pos h, fill_cons, fill_nil, List.append_nil, rep_sym h]
  ·rw [if_neg h, if_neg h]
theorem scan_join {sg : List Int} : ∀ {l l' : List Int} {q q' j : Nat}, scan sg q l = some l.length → scan sg q' l' = some j → scan sg (q + q') (l ++ l') = some (l.length + j)
 | [], l', q, q', j, h, h' => by
  cases q with
  | zero => simpa using h'
  | succ q => rw [scan_nil] at h; cases h
 | x :: r, l', q, q', j, h, h' => by
  cases q with
  | zero => rw [scan_zero] at h; simp at h
  | succ q =>
   by_cases ha : ar sg x < 0
   ·rw [scan_bad ha] at h; cases h
   ·rw [scan_step ha] at h
    obtain ⟨i, hi, e⟩ := Option.map_eq_some_iff.1 h
    have e2 : i = r.length := by simp at e; omega
    subst e2
    have h2 := scan_join hi h'
    rw [show q + 1 + q' = (q + q') + 1 by omega, List.cons_append, scan_step ha, show q + q' + (ar sg x).toNat = q + (ar sg x).toNat + q' by omega, h2]
    simp
    omega
theorem scan_fill {sg : List Int} {L : Nat → List Int} : ∀ {t : List Int} {q : Nat}, scan sg q t = some t.length → (∀ x ∈ t, x < 0 → scan sg 1 (L (-1 - x).toNat) = some (L (-1 - x).toNat).length) → scan sg q (fillL L t) = some (fillL L t).length
 | [], q, h, _ => h
 | x :: r, q, h, hL => by
  cases q with
  | zero => rw [scan_zero] at h; simp at h
  | succ q =>
   by_cases ha : ar sg x < 0
   ·rw [scan_bad ha] at h; cases h
   ·rw [scan_step ha] at h
    obtain ⟨i, hi, e⟩ := Option.map_eq_some_iff.1 h
    have e2 : i = r.length := by simp at e; omega
    subst e2
    have h2 := scan_fill hi (fun y hy => hL y (List.mem_cons_of_mem _ hy))
    rw [fill_cons]
    by_cases hx : 0 ≤ x
    ·rw [rep_sym hx, List.singleton_append, scan_step ha, h2]
     simp
    ·have h3 := hL x (List.mem_cons_self ..) (by omega)
     have h0 : ar sg x = 0 := by
      unfold ar at ha ⊢
      split
      ·rfl
      ·rename_i h4
       rw [if_neg h4] at ha
       split at ha
       ·omega
       ·omega
     rw [h0] at h2
     rw [rep_var (by omega), Nat.add_comm q 1]
     have h4 := scan_join h3 (by simpa using h2)
     rw [h4, List.length_append]
def sh (k x : Int) : Int := if x < 0 then x - k else x
def shiftL (k : Int) (t : List Int) : List Int := t.map (sh k)
theorem shift_fill {k : Nat} : ∀ t : List Int, fillL (fun i => vt (i + k)) t = shiftL (k : Int) t
 | [] => rfl
 | x :: r => by
  rw [fill_cons, shift_fill r]
  show _ = sh k x :: shiftL k r
  unfold rep sh
  by_cases h : 0 ≤ x
  ·rw [if_pos h, if_neg (by omega)]; rfl
  ·rw [if_neg h, if_pos (by omega)]
   show [-1 - (((-1 - x).toNat + k : Nat) : Int)] ++ _ = _
   rw [show (-1 - (((-1 - x).toNat + k : Nat) : Int) : Int) = x - k by omega]
   rfl
theorem shift_len (k : Int) (t : List Int) : (shiftL k t).length = t.length := by simp [shiftL]
theorem shift_take {k : Int} {t : List Int} {j : Nat} {x : Int} (hk : j < t.length) (hx : t.getD j 0 = x) : shiftL k (t.take (j + 1)) = shiftL k (t.take j) ++ [sh k x] := by
 rw [take_snoc hk hx]
 simp [shiftL]
end fillMath
end
section
namespace renMath
open sig term termOk termFacts varsMath fillMath
def idx : List Int → Int → Nat
 | [], _ => 0
 | y :: r, x => if y = x then 0 else idx r x + 1
theorem idx_lt : ∀ {o : List Int} {x : Int}, x ∈ o → idx o x < o.length
 | y :: r, x, h => by
  rw [idx]
  split
  ·simp
  ·rename_i h1
   rcases List.mem_cons.1 h with e | e
   ·exact absurd e.symm h1
   ·have := idx_lt e; simp; omega
theorem idx_not : ∀ {o : List Int} {x : Int}, x ∉ o → idx o x = o.length
 | [], _, _ => rfl
 | y :: r, x, h => by
  have h1 : ¬ y = x := fun e => h (by rw [e]; exact List.mem_cons_self ..)
  rw [idx, if_neg h1, idx_not (fun e => h (List.mem_cons_of_mem _ e))]
  rfl
theorem idx_get : ∀ {o : List Int} {x : Int}, x ∈ o → o.getD (idx o x) 0 = x
 | y :: r, x, h => by
  rw [idx]
  split
  ·rename_i h1; simpa using h1
  ·rename_i h1
   rcases List.mem_cons.1 h with e | e
   ·exact absurd e.symm h1
   ·simpa using idx_get e
theorem idx_first : ∀ {o : List Int} {x : Int} {k : Nat}, k < o.length → (∀ j, j < k → o.getD j 0 ≠ x) → o.getD k 0 = x → idx o x = k
 | y :: r, x, 0, _, _, h => by
  have h : y = x := by simpa using h
  rw [idx, if_pos h]
 | y :: r, x, k + 1, hk, hl, h => by
  have h0 : ¬ y = x := by simpa using hl 0 (by omega)
  rw [idx, if_neg h0, idx_first (k := k) (by simpa using hk) (fun j hj => by simpa using hl (j + 1) (by omega)) (by simpa using h)]
theorem idx_app_mem : ∀ {o q : List Int} {x : Int}, x ∈ o → idx (o ++ q) x = idx o x
 | y :: r, q, x, h => by
  rw [List.cons_append, idx, idx]
  split
  ·rfl
  ·rename_i h1
   rcases List.mem_cons.1 h with e | e
   ·exact absurd e.symm h1
   ·rw [idx_app_mem e]
theorem idx_app_new {o : List Int} {x : Int} (h : x ∉ o) : idx (o ++ [x]) x = o.length := by
 refine idx_first (by simp) (fun j hj => ?_) (by simp)
 have e : (o ++ [x]).getD j 0 = o[j] := by simp [List.getD, List.getElem?_append_left hj, hj]
 rw [e]
 exact fun e2 => h (by rw [← e2]; exact List.getElem_mem hj)
theorem idx_map {f : Int → Int} (hf : ∀ a b, f a = f b → a = b) : ∀ (o : List Int) (x : Int), idx (o.map f) (f x) = idx o x
 | [], _ => rfl
 | y :: r, x => by
  rw [List.map_cons, idx, idx]
  by_cases h : y = x
  ·rw [if_pos h, if_pos (by rw [h])]
  ·rw [if_neg h, if_neg (fun e => h (hf _ _ e)), idx_map hf r x]
theorem mem_map_inj {f : Int → Int} (hf : ∀ a b, f a = f b → a = b) {o : List Int} {x : Int} : f x ∈ o.map f ↔ x ∈ o := by
 rw [List.mem_map]
 exact ⟨fun ⟨y, hy, e⟩ => by rw [← hf _ _ e]; exact hy, fun h => ⟨x, h, rfl⟩⟩
def ext (o : List Int) (x : Int) : List Int := if x ∈ o then o else o ++ [x]
def extV (o : List Int) (x : Int) : List Int := if x < 0 then ext o x else o
def orderL (t : List Int) : List Int := t.foldl extV []
theorem order_take {t : List Int} {k : Nat} {x : Int} (hk : k < t.length) (hx : t.getD k 0 = x) : orderL (t.take (k + 1)) = extV (orderL (t.take k)) x := by
 unfold orderL
 rw [take_snoc hk hx, List.foldl_append]
 rfl
theorem ext_mem {o : List Int} {x y : Int} : y ∈ ext o x ↔ y = x ∨ y ∈ o := by
 unfold ext
 split
 ·rename_i h
  exact ⟨fun e => .inr e, fun e => by rcases e with e | e; exact e ▸ h; exact e⟩
 ·rw [List.mem_append, List.mem_singleton, or_comm]
theorem extV_mem {o : List Int} {x y : Int} : y ∈ extV o x ↔ (y = x ∧ x < 0) ∨ y ∈ o := by
 unfold extV
 split
 ·rename_i h
  rw [ext_mem]
  exact ⟨fun e => by rcases e with e | e; exact .inl ⟨e, h⟩; exact .inr e, fun e => by rcases e with e | e; exact .inl e.1; exact .inr e⟩
 ·rename_i h
  exact ⟨fun e => .inr e, fun e => by rcases e with e | e; exact absurd e.2 h; exact e⟩
theorem fold_ext_mem {y : Int} : ∀ {l o : List Int}, y ∈ l.foldl extV o ↔ (y ∈ l ∧ y < 0) ∨ y ∈ o
 | [], o => by simp
 | x :: l, o => by
  rw [List.foldl_cons, fold_ext_mem, extV_mem, List.mem_cons]
  constructor
  ·rintro (⟨h, h0⟩ | ⟨rfl, h0⟩ | h)
   ·exact .inl ⟨.inr h, h0⟩
   ·exact .inl ⟨.inl rfl, h0⟩
   ·exact .inr h
  ·rintro (⟨rfl | h, h0⟩ | h)
   ·exact .inr (.inl ⟨rfl, h0⟩)
   ·exact .inl ⟨h, h0⟩
   ·exact .inr (.inr h)
theorem order_mem {t : List Int} {y : Int} : y ∈ orderL t ↔ y ∈ t ∧ y < 0 := by unfold orderL; rw [fold_ext_mem]; simp
theorem ext_nodup {o : List Int} {x : Int} (h : o.Nodup) : (ext o x).Nodup := by
 unfold ext
 split
 ·exact h
 ·rename_i hx
  rw [List.nodup_append]
  exact ⟨h, by simp, fun a ha b hb => by simp at hb; subst hb; exact fun e => hx (e ▸ ha)⟩
theorem fold_nodup : ∀ {l o : List Int}, o.Nodup → (l.foldl extV o).Nodup
 | [], _, h => h
 | x :: l, o, h => by
  rw [List.foldl_cons]
  refine fold_nodup ?_
  unfold extV
  split
  ·exact ext_nodup h
  ·exact h
theorem order_nodup (t : List Int) : (orderL t).Nodup := fold_nodup List.nodup_nil
theorem ext_len (o : List Int) (x : Int) : (ext o x).length ≤ o.length + 1 := by unfold ext; split <;> simp
theorem fold_ext_len : ∀ (l o : List Int), (l.foldl extV o).length ≤ o.length + l.length
 | [], _ => by simp
 | x :: l, o => by
  have h1 := fold_ext_len l (extV o x)
  have h2 : (extV o x).length ≤ o.length + 1 := by unfold extV; split; exact ext_len o x; simp
  simp
  omega
theorem order_len (t : List Int) : (orderL t).length ≤ t.length := by have := fold_ext_len t []; simpa [orderL] using this
def ren (o : List Int) (n : Int) : Int := if n < 0 then -1 - (idx o n : Int) else n
theorem ren_ext {o : List Int} {x n : Int} (h : n < 0 → n ∈ o) : ren (extV o x) n = ren o n := by
 unfold ren
 split
 ·rename_i h0
  unfold extV ext
  split
  ·split
   ·rfl
   ·rw [idx_app_mem (h h0)]
  ·rfl
 ·rfl
theorem idx_nodup {o : List Int} (h : o.Nodup) {k : Nat} (hk : k < o.length) {x : Int} (hx : o.getD k 0 = x) : idx o x = k := by
 refine idx_first hk (fun j hj e => ?_) hx
 have h1 : o[j]'(by omega) = o[k] := by
  have a : o.getD j 0 = o[j]'(by omega) := by simp [List.getD, show j < o.length by omega]
  have b : o.getD k 0 = o[k] := by simp [List.getD, hk]
  rw [← a, ← b, e, hx]
 exact (List.pairwise_iff_getElem.1 h) j k (by omega) hk hj h1
end renMath
end
section
namespace matchMath
open sig term termOk termFacts endAt sub termMath fillMath posMath renMath
def vr (x : Int) : Nat := (-1 - x).toNat
def mst (sg t : List Int) : List Int → Nat → List (List Int) → Option (List (List Int))
 | [], _, s => some s
 | x :: r, k, s =>
  if t.length ≤ k then none
  else if 0 ≤ x then (if x = t.getD k 0 then mst sg t r (k + 1) s else none)
  else if (s.getD (vr x) []).length ≠ 0 ∧ s.getD (vr x) [] ≠ subL sg t k then none
  else mst sg t r (k + (subL sg t k).length) (s.set (vr x) (subL sg t k))
section
variable {sg t : List Int} {r : List Int} {x : Int} {k : Nat} {s : List (List Int)}
theorem mst_out (h : t.length ≤ k) : mst sg t (x :: r) k s = none := by simp only [mst]; rw [if_pos h]
theorem mst_sym (h : ¬ t.length ≤ k) (hx : 0 ≤ x) (he : x = t.getD k 0) : mst sg t (x :: r) k s = mst sg t r (k + 1) s := by simp only [mst]; rw [if_neg h, if_pos hx, if_pos he]
theorem mst_symNo (h : ¬ t.length ≤ k) (hx : 0 ≤ x) (he : ¬ x = t.getD k 0) : mst sg t (x :: r) k s = none := by simp only [mst]; rw [if_neg h, if_pos hx, if_neg he]
theorem mst_var (h : ¬ t.length ≤ k) (hx : ¬ 0 ≤ x) (he : ¬ ((s.getD (vr x) []).length ≠ 0 ∧ s.getD (vr x) [] ≠ subL sg t k)) : mst sg t (x :: r) k s = mst sg t r (k + (subL sg t k).length) (s.set (vr x) (subL sg t k)) := by simp only [mst]; rw [if_neg h, if_neg hx, if_neg he]
theorem mst_varNo (h : ¬ t.length ≤ k) (hx : ¬ 0 ≤ x) (he : (s.getD (vr x) []).length ≠ 0 ∧ s.getD (vr x) [] ≠ subL sg t k) : mst sg t (x :: r) k s = none := by simp only [mst]; rw [if_neg h, if_neg hx, if_pos he]
end
theorem set_get {s : List (List Int)} {i j : Nat} {v : List Int} : (s.set i v).getD j [] = if i = j ∧ i < s.length then v else s.getD j [] := by
 simp only [List.getD_eq_getElem?_getD, List.getElem?_set]
 by_cases h : i = j
 ·subst h
  by_cases h2 : i < s.length
  ·simp [h2]
  ·simp [h2]
 ·simp [h]
theorem vr_lt {x : Int} (h0 : ¬ 0 ≤ x) (h : -24 ≤ x) : vr x < 24 := by unfold vr; omega
theorem mst_ext {sg t : List Int} : ∀ {p : List Int} {k : Nat} {s s' : List (List Int)}, mst sg t p k s = some s' → s.length = 24 → (∀ x ∈ p, -24 ≤ x) → s'.length = 24 ∧ ∀ i, (s.getD i []).length ≠ 0 → s'.getD i [] = s.getD i [] := by
 intro p
 induction p with
 | nil => intro k s s' h hl _; injection h with h; subst h; exact ⟨hl, fun _ _ => rfl⟩
 | cons x r ih =>
  intro k s s' h hl hx
  have hr : ∀ y ∈ r, -24 ≤ y := fun y hy => hx y (List.mem_cons_of_mem _ hy)
  by_cases h1 : t.length ≤ k
  ·rw [mst_out h1] at h; cases h
  ·by_cases h2 : 0 ≤ x
   ·by_cases h3 : x = t.getD k 0
    ·rw [mst_sym h1 h2 h3] at h; exact ih h hl hr
    ·rw [mst_symNo h1 h2 h3] at h; cases h
   ·by_cases h3 : (s.getD (vr x) []).length ≠ 0 ∧ s.getD (vr x) [] ≠ subL sg t k
    ·rw [mst_varNo h1 h2 h3] at h; cases h
    ·rw [mst_var h1 h2 h3] at h
     obtain ⟨e1, e2⟩ := ih h (by rw [List.length_set]; exact hl) hr
     refine ⟨e1, fun i hi => ?_⟩
     have hs : (s.set (vr x) (subL sg t k)).getD i [] = s.getD i [] := by
      rw [set_get]
      split
      ·rename_i hc
       obtain ⟨rfl, _⟩ := hc
       by_cases e : s.getD (vr x) [] = subL sg t k
       ·exact e.symm
       ·exact absurd ⟨hi, e⟩ h3
      ·rfl
     rw [← hs] at hi ⊢
     exact e2 i hi
theorem sub_len1 {sg t : List Int} (hok : termOkB sg t = true) {k : Nat} (hk : k < t.length) : (subL sg t k).length = len1 sg t k ∧ t.drop k = subL sg t k ++ t.drop (k + (subL sg t k).length) ∧ scan sg 1 (subL sg t k) = some (subL sg t k).length := by
 have h := term_at hok hk
 have hl : (subL sg t k).length = len1 sg t k := by unfold subL; rw [List.length_take, List.length_drop]; omega
 refine ⟨hl, ?_, (term_parts (sub_term hok hk).1).2.2⟩
 rw [hl, ← List.drop_drop]
 exact (List.take_append_drop _ _).symm
theorem mst_sound {sg t : List Int} (hok : termOkB sg t = true) : ∀ {p : List Int} {k : Nat} {s s' : List (List Int)}, mst sg t p k s = some s' → s.length = 24 → (∀ x ∈ p, -24 ≤ x) →
  (∃ rest, t.drop k = fillL (fun i => s'.getD i []) p ++ rest) ∧ ∀ x ∈ p, x < 0 → scan sg 1 (s'.getD (vr x) []) = some (s'.getD (vr x) []).length := by
 intro p
 induction p with
 | nil => intro k s s' _ _ _; exact ⟨⟨t.drop k, by rw [fill_nil, List.nil_append]⟩, fun x hx => absurd hx (List.not_mem_nil)⟩
 | cons x r ih =>
  intro k s s' h hl hx
  have hr : ∀ y ∈ r, -24 ≤ y := fun y hy => hx y (List.mem_cons_of_mem _ hy)
  have hx0 : -24 ≤ x := hx x (List.mem_cons_self ..)
  by_cases h1 : t.length ≤ k
  ·rw [mst_out h1] at h; cases h
  ·by_cases h2 : 0 ≤ x
   ·by_cases h3 : x = t.getD k 0
    ·rw [mst_sym h1 h2 h3] at h
     obtain ⟨⟨rest, e⟩, hv⟩ := ih h hl hr
     refine ⟨⟨rest, ?_⟩, fun y hy h0 => ?_⟩
     ·rw [drop_cons (by omega), e, ← h3, fill_cons, rep_sym h2]; rfl
     ·rcases List.mem_cons.1 hy with rfl | hy
      ·omega
      ·exact hv y hy h0
    ·rw [mst_symNo h1 h2 h3] at h; cases h
   ·by_cases h3 : (s.getD (vr x) []).length ≠ 0 ∧ s.getD (vr x) [] ≠ subL sg t k
    ·rw [mst_varNo h1 h2 h3] at h; cases h
    ·rw [mst_var h1 h2 h3] at h
     have hl' : (s.set (vr x) (subL sg t k)).length = 24 := by rw [List.length_set]; exact hl
     obtain ⟨⟨rest, e⟩, hv⟩ := ih h hl' hr
     obtain ⟨_, e2⟩ := mst_ext h hl' hr
     obtain ⟨l1, l2, l3⟩ := sub_len1 hok (show k < t.length by omega)
     have hpos := (sub_term hok (show k < t.length by omega)).2.2.2
     have hg : (s.set (vr x) (subL sg t k)).getD (vr x) [] = subL sg t k := by rw [set_get, if_pos ⟨rfl, by rw [hl]; exact vr_lt h2 hx0⟩]
     have hgx : s'.getD (vr x) [] = subL sg t k := by rw [e2 (vr x) (by rw [hg]; omega), hg]
     refine ⟨⟨rest, ?_⟩, fun y hy h0 => ?_⟩
     ·rw [l2, e, fill_cons, rep_var (by omega), List.append_assoc]
      congr 1
      exact hgx.symm
     ·rcases List.mem_cons.1 hy with rfl | hy
      ·rw [hgx]; exact l3
      ·exact hv y hy h0
theorem mst_full {sg t : List Int} {L : Nat → List Int} : ∀ {p : List Int} {k : Nat} {s : List (List Int)} {rest : List Int}, t.drop k = fillL L p ++ rest → s.length = 24 → (∀ x ∈ p, -24 ≤ x) → (∀ x ∈ p, x < 0 → scan sg 1 (L (vr x)) = some (L (vr x)).length) → (∀ i, (s.getD i []).length ≠ 0 → s.getD i [] = L i) →
  ∃ s', mst sg t p k s = some s' ∧ (∀ i, (s'.getD i []).length ≠ 0 → s'.getD i [] = L i) ∧ ∀ x ∈ p, x < 0 → s'.getD (vr x) [] = L (vr x) := by
 intro p
 induction p with
 | nil => intro k s rest _ _ _ _ hc; exact ⟨s, rfl, hc, fun x hx => absurd hx (List.not_mem_nil)⟩
 | cons x r ih =>
  intro k s rest h hl hx hL hc
  have hr : ∀ y ∈ r, -24 ≤ y := fun y hy => hx y (List.mem_cons_of_mem _ hy)
  have hLr : ∀ y ∈ r, y < 0 → scan sg 1 (L (vr y)) = some (L (vr y)).length := fun y hy => hL y (List.mem_cons_of_mem _ hy)
  have hx0 : -24 ≤ x := hx x (List.mem_cons_self ..)
  rw [fill_cons, List.append_assoc] at h
  by_cases h2 : 0 ≤ x
  ·rw [rep_sym h2] at h
   have hk : k < t.length := by
    by_cases hk : k < t.length
    ·exact hk
    ·rw [List.drop_eq_nil_of_le (by omega)] at h; cases h
   rw [drop_cons hk] at h
   injection h with e1 e2
   obtain ⟨s', m1, m2, m3⟩ := ih e2 hl hr hLr hc
   exact ⟨s', by rw [mst_sym (by omega) h2 e1.symm]; exact m1, m2, fun y hy h0 => by
    rcases List.mem_cons.1 hy with rfl | hy
    ·omega
    ·exact m3 y hy h0⟩
  ·rw [rep_var (by omega)] at h
   change t.drop k = L (vr x) ++ (fillL L r ++ rest) at h
   have hsc := hL x (List.mem_cons_self ..) (by omega)
   have hpos := scan_pos (q := 0) hsc
   have hk : k < t.length := by
    by_cases hk : k < t.length
    ·exact hk
    ·rw [List.drop_eq_nil_of_le (by omega)] at h
     have := congrArg List.length h
     simp only [List.length_nil, List.length_append] at this
     omega
   have hsub : subL sg t k = L (vr x) := by
    unfold subL
    have e : len1 sg t k = (L (vr x)).length := len1_eq (by rw [h]; exact scan_append hsc)
    rw [e, h, List.take_left' rfl]
   have hnext : t.drop (k + (subL sg t k).length) = fillL L r ++ rest := by rw [← List.drop_drop, h, hsub, List.drop_left' rfl]
   have hno : ¬ ((s.getD (vr x) []).length ≠ 0 ∧ s.getD (vr x) [] ≠ subL sg t k) := fun ⟨g1, g2⟩ => g2 (by rw [hsub]; exact hc _ g1)
   have hl' : (s.set (vr x) (subL sg t k)).length = 24 := by rw [List.length_set]; exact hl
   obtain ⟨s', m1, m2, m3⟩ := ih hnext hl' hr hLr (fun i hi => by
    rw [set_get] at hi ⊢
    split
    ·rename_i hcc; rw [hsub, ← hcc.1]
    ·rename_i hcc; rw [if_neg hcc] at hi; exact hc i hi)
   refine ⟨s', by rw [mst_var (by omega) h2 hno]; exact m1, m2, fun y hy h0 => ?_⟩
   rcases List.mem_cons.1 hy with rfl | hy
   ·have hg : (s.set (vr y) (subL sg t k)).getD (vr y) [] = L (vr y) := by rw [set_get, if_pos ⟨rfl, by rw [hl]; exact vr_lt h2 hx0⟩, hsub]
    rw [(mst_ext m1 hl' hr).2 (vr y) (by rw [hg]; omega), hg]
   ·exact m3 y hy h0
def s0 : List (List Int) := List.replicate 24 []
theorem s0_get (i : Nat) : s0.getD i [] = [] := by
 unfold s0
 rw [List.getD_eq_getElem?_getD, List.getElem?_replicate]
 split <;> rfl
def matchO (sg p t : List Int) : Option (List (List Int)) := if (termOkB sg p && termOkB sg t) = true then mst sg t p 0 s0 else none
def instB (sg p t : List Int) : Bool := (matchO sg p t).isSome
theorem match_yes {sg p t : List Int} (h1 : termOkB sg p = true) (h2 : termOkB sg t = true) : matchO sg p t = mst sg t p 0 s0 := by unfold matchO; rw [if_pos (by rw [h1, h2]; rfl)]
theorem match_no {sg p t : List Int} (h : termOkB sg p = false ∨ termOkB sg t = false) : matchO sg p t = none := by
 unfold matchO
 rw [if_neg]
 rcases h with h | h <;> rw [h] <;> simp
theorem inst_no {sg p t : List Int} (h : termOkB sg p = false ∨ termOkB sg t = false) : instB sg p t = false := by unfold instB; rw [match_no h]; rfl
theorem inst_ok {sg p t : List Int} (h : instB sg p t = true) : termOkB sg p = true ∧ termOkB sg t = true := by
 cases h1 : termOkB sg p with
 | false => rw [inst_no (.inl h1)] at h; cases h
 | true =>
  cases h2 : termOkB sg t with
  | false => rw [inst_no (.inr h2)] at h; cases h
  | true => exact ⟨rfl, rfl⟩
def Turns (sg p t : List Int) (L : Nat → List Int) : Prop := fillL L p = t ∧ ∀ x ∈ p, x < 0 → scan sg 1 (L (vr x)) = some (L (vr x)).length
theorem match_turns {sg p t : List Int} {s' : List (List Int)} (h : matchO sg p t = some s') : s'.length = 24 ∧ Turns sg p t (fun i => s'.getD i []) := by
 have h12 : termOkB sg p = true ∧ termOkB sg t = true := inst_ok (by unfold instB; rw [h]; rfl)
 obtain ⟨h1, h2⟩ := h12
 rw [match_yes h1 h2] at h
 have hx : ∀ x ∈ p, -24 ≤ x := fun x hx => (term_mem h1 hx).1
 obtain ⟨⟨rest, e⟩, hv⟩ := mst_sound h2 h (by rfl) hx
 refine ⟨(mst_ext h (by rfl) hx).1, ?_, hv⟩
 rw [List.drop_zero] at e
 have hs := scan_fill (L := fun i => s'.getD i []) (term_parts h1).2.2 hv
 have hs2 := scan_append (r := rest) hs
 rw [← e, (term_parts h2).2.2] at hs2
 injection hs2 with hs2
 have hl := congrArg List.length e
 rw [List.length_append] at hl
 have hr : rest = [] := List.eq_nil_of_length_eq_zero (by omega)
 rw [e, hr, List.append_nil]
theorem turns_match {sg p t : List Int} {L : Nat → List Int} (h1 : termOkB sg p = true) (h2 : termOkB sg t = true) (h : Turns sg p t L) : ∃ s', matchO sg p t = some s' ∧ ∀ x ∈ p, x < 0 → s'.getD (vr x) [] = L (vr x) := by
 rw [match_yes h1 h2]
 obtain ⟨s', m1, _, m3⟩ := mst_full (sg := sg) (t := t) (L := L) (p := p) (k := 0) (s := s0) (rest := []) (by rw [List.drop_zero, List.append_nil, h.1]) (by rfl) (fun x hx => (term_mem h1 hx).1) h.2 (fun i hi => by rw [s0_get] at hi; exact absurd rfl hi)
 exact ⟨s', m1, m3⟩
theorem inst_iff {sg p t : List Int} (h1 : termOkB sg p = true) (h2 : termOkB sg t = true) : instB sg p t = true ↔ ∃ L, Turns sg p t L := by
 constructor
 ·intro h
  unfold instB at h
  obtain ⟨s', hs⟩ := Option.isSome_iff_exists.1 h
  exact ⟨_, (match_turns hs).2⟩
 ·rintro ⟨L, h⟩
  obtain ⟨s', hs, _⟩ := turns_match h1 h2 h
  unfold instB
  rw [hs]; rfl
theorem fill_vt : ∀ p : List Int, fillL vt p = p
 | [] => rfl
 | x :: r => by
  rw [fill_cons, fill_vt r]
  by_cases h : 0 ≤ x
  ·rw [rep_sym h]; rfl
  ·rw [rep_var (by omega)]
   show [-1 - (((-1 - x).toNat : Nat) : Int)] ++ r = x :: r
   rw [show (-1 - (((-1 - x).toNat : Nat) : Int) : Int) = x by omega]
   rfl
theorem scan_one {sg : List Int} {y : Int} (h : -24 ≤ y ∧ y ≤ -1) : scan sg 1 [y] = some [y].length := by
 rw [scan_step (by rw [ar_var h]; omega), ar_var h]
 rfl
end matchMath
end
section
namespace plainMath
open fillMath
def strip : List (List Int) → List (List Int)
 | [] => []
 | x :: r => if strip r = [] then (if x = [] then [] else [x]) else x :: strip r
theorem strip_snoc : ∀ (l : List (List Int)) (x : List Int), strip (l ++ [x]) = if x = [] then strip l else l ++ [x]
 | [], x => by
  show strip [x] = _
  by_cases h : x = [] <;> simp [strip, h]
 | y :: r, x => by
  rw [List.cons_append, strip, strip_snoc r x]
  by_cases h : x = []
  ·simp [h, strip]
  ·simp [h]
theorem strip_len : ∀ l : List (List Int), (strip l).length ≤ l.length
 | [] => by simp [strip]
 | x :: r => by
  have h := strip_len r
  rw [strip]
  split
  ·split <;> simp
  ·simp; omega
theorem strip_pad : ∀ l : List (List Int), strip l ++ List.replicate (l.length - (strip l).length) [] = l
 | [] => by simp [strip]
 | x :: r => by
  have h := strip_pad r
  rw [strip]
  by_cases h1 : strip r = []
  ·rw [h1] at h
   rw [if_pos h1]
   have h2 : List.replicate r.length ([] : List Int) = r := by simpa using h
   by_cases h3 : x = []
   ·rw [if_pos h3]
    subst h3
    simp only [List.length_cons, List.length_nil, Nat.sub_zero, List.nil_append]
    rw [List.replicate_succ, h2]
   ·rw [if_neg h3]
    simp only [List.length_cons, List.length_nil]
    rw [show r.length + 1 - (0 + 1) = r.length by omega, h2]
    rfl
  ·rw [if_neg h1]
   simp only [List.length_cons, List.cons_append]
   rw [show r.length + 1 - ((strip r).length + 1) = r.length - (strip r).length by omega, h]
theorem strip_last {l : List (List Int)} {q : Nat} (hq : q < l.length) (h : l.getD q [] ≠ []) : strip (l.take (q + 1)) = l.take (q + 1) := by
 have e : l.take (q + 1) = l.take q ++ [l.getD q []] := by
  rw [List.take_succ_eq_append_getElem hq]
  simp [List.getD, hq]
 rw [e, strip_snoc, if_neg h]
theorem strip_drop {l : List (List Int)} {q : Nat} (hq : q < l.length) (h : l.getD q [] = []) : strip (l.take (q + 1)) = strip (l.take q) := by
 have e : l.take (q + 1) = l.take q ++ [l.getD q []] := by
  rw [List.take_succ_eq_append_getElem hq]
  simp [List.getD, hq]
 rw [e, strip_snoc, if_pos h]
def bare (L : Nat → List Int) (i : Nat) : List Int := if L i = vt i then [] else L i
def rowsL (L : Nat → List Int) (m : Nat) : List (List Int) := (List.range m).map (bare L)
def plainL (L : Nat → List Int) (m : Nat) : List (List Int) := strip (rowsL L m)
theorem rows_len (L : Nat → List Int) (m : Nat) : (rowsL L m).length = m := by simp [rowsL]
theorem rows_get {L : Nat → List Int} {m i : Nat} (h : i < m) : (rowsL L m).getD i [] = bare L i := by simp [rowsL, List.getD, h]
theorem rows_succ (L : Nat → List Int) (m : Nat) : rowsL L (m + 1) = rowsL L m ++ [bare L m] := by simp [rowsL, List.range_succ]
theorem plain_len (L : Nat → List Int) (m : Nat) : (plainL L m).length ≤ m := by have := strip_len (rowsL L m); rw [rows_len] at this; exact this
theorem plain_pad (L : Nat → List Int) (m : Nat) : plainL L m ++ List.replicate (m - (plainL L m).length) [] = rowsL L m := by
 have := strip_pad (rowsL L m)
 rw [rows_len] at this
 exact this
theorem plain_get (L : Nat → List Int) (m i : Nat) : (plainL L m).getD i [] = (rowsL L m).getD i [] := by
 have h := plain_pad L m
 rw [← h]
 by_cases hi : i < (plainL L m).length
 ·simp [List.getD, List.getElem?_append_left hi]
 ·have e1 : (plainL L m)[i]? = none := List.getElem?_eq_none (by omega)
  simp only [List.getD, e1, Option.getD_none]
  rw [List.getElem?_append_right (by omega)]
  by_cases h2 : i - (plainL L m).length < m - (plainL L m).length
  ·simp [List.getElem?_replicate, h2]
  ·simp [List.getElem?_replicate, h2]
theorem rows_each {L : Nat → List Int} {m M : Nat} (hM : ∀ i, (L i).length ≤ M) (i : Nat) : ((rowsL L m).getD i []).length ≤ M := by
 by_cases h : i < m
 ·rw [rows_get h]
  unfold bare
  split
  ·simp
  ·exact hM i
 ·rw [show (rowsL L m).getD i [] = [] by simp [List.getD, rows_len, h]]
  simp
theorem plain_each {L : Nat → List Int} {m M : Nat} (hM : ∀ i, (L i).length ≤ M) (i : Nat) : ((plainL L m).getD i []).length ≤ M := by rw [plain_get]; exact rows_each hM i
end plainMath
end
section
namespace unifMath
open sig term termOk termFacts endAt sub termMath fillMath posMath renMath matchMath plainMath
def Trm (sg t : List Int) : Prop := scan sg 1 t = some t.length
theorem scan_ar {sg : List Int} : ∀ {l : List Int} {q : Nat}, scan sg q l = some l.length → ∀ x ∈ l, ¬ ar sg x < 0 := by
 intro l
 induction l with
 | nil => intro q _ x hx; exact absurd hx (List.not_mem_nil)
 | cons y r ih =>
  intro q h x hx
  cases q with
  | zero => rw [scan_zero] at h; injection h with h; simp at h
  | succ q =>
   by_cases hy : ar sg y < 0
   ·rw [scan_bad hy] at h; cases h
   ·rw [scan_step hy, Option.map_eq_some_iff] at h
    obtain ⟨a, e1, e2⟩ := h
    rcases List.mem_cons.1 hx with rfl | hx
    ·exact hy
    ·exact ih (q := q + (ar sg y).toNat) (by rw [e1]; congr 1; simp at e2; omega) x hx
theorem Trm.mem {sg t : List Int} (h : Trm sg t) {x : Int} (hx : x ∈ t) : -24 ≤ x := by
 have h1 := scan_ar h x hx
 by_cases h2 : -24 ≤ x
 ·exact h2
 ·rw [ar_no (by omega) (by omega)] at h1; omega
theorem Trm.pos {sg t : List Int} (h : Trm sg t) : 1 ≤ t.length := scan_pos (q := 0) h
theorem Trm.vt {sg : List Int} {i : Nat} (hi : i < 24) : Trm sg (vt i) := scan_one (y := -1 - (i : Int)) (by omega)
theorem vr_neg {x : Int} (h : x < 0) : -1 - ((vr x : Nat) : Int) = x := by unfold vr; omega
theorem vt_vr {x : Int} (h : x < 0) : vt (vr x) = [x] := by unfold vt; rw [vr_neg h]
theorem vr_vt (i : Nat) : vr (-1 - (i : Int)) = i := by unfold vr; omega
theorem rep_vr {L : Nat → List Int} {x : Int} (h : x < 0) : rep L x = L (vr x) := rep_var h
theorem fill_one (L : Nat → List Int) (x : Int) : fillL L [x] = rep L x := by rw [fill_cons, fill_nil, List.append_nil]
theorem fill_vti (L : Nat → List Int) (i : Nat) : fillL L (vt i) = L i := by
 unfold vt
 rw [fill_one, rep_vr (by omega), vr_vt]
structure Sub (sg : List Int) (L : Nat → List Int) : Prop where
 trm : ∀ i, i < 24 → Trm sg (L i)
 out : ∀ i, 24 ≤ i → L i = vt i
theorem Sub.pos {sg : List Int} {L : Nat → List Int} (h : Sub sg L) (i : Nat) : 1 ≤ (L i).length := by
 by_cases hi : i < 24
 ·exact (h.trm i hi).pos
 ·rw [h.out i (by omega)]; simp [vt]
theorem Sub.vt (sg : List Int) : Sub sg vt := ⟨fun _ hi => Trm.vt hi, fun _ _ => rfl⟩
theorem Sub.fill {sg : List Int} {L : Nat → List Int} (h : Sub sg L) {t : List Int} (ht : Trm sg t) : Trm sg (fillL L t) :=
 scan_fill ht (fun x hx h0 => h.trm _ (by have := ht.mem hx; omega))
structure Uni (sg a b : List Int) (L : Nat → List Int) : Prop where
 sub : Sub sg L
 eq : fillL L a = fillL L b
theorem Uni.symm {sg a b : List Int} {L : Nat → List Int} (h : Uni sg a b L) : Uni sg b a L := ⟨h.sub, h.eq.symm⟩
structure Part (sg a b : List Int) (L : Nat → List Int) : Prop where
 sub : Sub sg L
 gen : ∀ M, Uni sg a b M → ∀ i, fillL M (L i) = M i
 ide : ∀ i x, x ∈ L i → x < 0 → L (vr x) = [x]
 ord : ∀ i j, L i = vt j → j ≤ i
structure Mg (sg a b : List Int) (L : Nat → List Int) : Prop extends Part sg a b L where
 eq : fillL L a = fillL L b
theorem Mg.uni {sg a b : List Int} {L : Nat → List Int} (h : Mg sg a b L) : Uni sg a b L := ⟨h.sub, h.eq⟩
theorem Part.symm {sg a b : List Int} {L : Nat → List Int} (h : Part sg a b L) : Part sg b a L := ⟨h.sub, fun M hM => h.gen M hM.symm, h.ide, h.ord⟩
theorem Mg.symm {sg a b : List Int} {L : Nat → List Int} (h : Mg sg a b L) : Mg sg b a L := ⟨h.toPart.symm, h.eq.symm⟩
theorem fill_fix {L : Nat → List Int} (hp : ∀ i, 1 ≤ (L i).length) : ∀ {t : List Int}, fillL L t = t → ∀ x ∈ t, x < 0 → L (vr x) = [x]
 | [], _, x, hx, _ => absurd hx (List.not_mem_nil)
 | y :: r, h, x, hx, h0 => by
  rw [fill_cons] at h
  have h1 : 1 ≤ (rep L y).length := by
   unfold rep
   split
   ·simp
   ·exact hp _
  have h2 := fill_ge hp r
  have h3 := congrArg List.length h
  rw [List.length_append, List.length_cons] at h3
  obtain ⟨z, hz⟩ : ∃ z, rep L y = [z] := List.length_eq_one_iff.1 (by omega)
  rw [hz] at h
  injection h with e1 e2
  rcases List.mem_cons.1 hx with rfl | hx
  ·rw [← rep_vr (L := L) h0, hz, e1]
  ·exact fill_fix hp e2 x hx h0
theorem fill_same {L : Nat → List Int} {t : List Int} (h : ∀ x ∈ t, x < 0 → L (vr x) = [x]) : fillL L t = t := by
 have := fill_ext (L := L) (L' := vt) (t := t) (fun x hx h0 => by rw [show (-1 - x).toNat = vr x from rfl, h x hx h0, vt_vr h0])
 rw [this, fill_vt]
theorem fill_drop {L : Nat → List Int} {x y : List Int} {k : Nat} (e : x.take k = y.take k) (h : fillL L x = fillL L y) : fillL L (x.drop k) = fillL L (y.drop k) := by
 rw [← List.take_append_drop k x, ← List.take_append_drop k y, fill_append, fill_append, e] at h
 exact List.append_cancel_left h
theorem sub_trm {sg x : List Int} (hx : Trm sg x) {k : Nat} (hk : k < x.length) : Trm sg (subL sg x k) ∧ x.drop k = subL sg x k ++ x.drop (k + (subL sg x k).length) := by
 obtain ⟨j, h1, h2, h3⟩ := scan_at hx hk
 have hl : subL sg x k = (x.drop k).take j := by unfold subL; rw [len1_eq h1]
 have hlen : (subL sg x k).length = j := by rw [hl, List.length_take, List.length_drop]; omega
 refine ⟨?_, ?_⟩
 ·unfold Trm
  rw [hlen, hl]
  exact scan_take h1
 ·rw [hlen, hl, ← List.drop_drop]
  exact (List.take_append_drop _ _).symm
theorem uni_sub {sg x y : List Int} {M : Nat → List Int} (hx : Trm sg x) (hy : Trm sg y) (hM : Sub sg M) (h : fillL M x = fillL M y) {k : Nat} (e : x.take k = y.take k) (hkx : k < x.length) (hky : k < y.length) : fillL M (subL sg x k) = fillL M (subL sg y k) := by
 have h1 := fill_drop e h
 obtain ⟨tx, ex⟩ := sub_trm hx hkx
 obtain ⟨ty, ey⟩ := sub_trm hy hky
 rw [ex, ey, fill_append, fill_append] at h1
 have s1 := scan_append (r := fillL M (x.drop (k + (subL sg x k).length))) (hM.fill tx)
 have s2 := scan_append (r := fillL M (y.drop (k + (subL sg y k).length))) (hM.fill ty)
 rw [h1, s2] at s1
 injection s1 with s1
 have := congrArg (List.take (fillL M (subL sg x k)).length) h1
 rw [List.take_left' rfl, List.take_left' s1] at this
 exact this
def ones (i : Nat) (t : List Int) (k : Nat) : List Int := if k = i then t else vt k
theorem one_no {i : Nat} {t z : List Int} (h : ∀ x ∈ z, x < 0 → vr x ≠ i) : fillL (ones i t) z = z :=
 fill_same (fun x hx h0 => by unfold ones; rw [if_neg (h x hx h0), vt_vr h0])
structure Spot (sg a b : List Int) (L : Nat → List Int) (k : Nat) : Prop where
 ta : Trm sg a
 tb : Trm sg b
 pre : (fillL L a).take k = (fillL L b).take k
 kx : k < (fillL L a).length
 ky : k < (fillL L b).length
 ne : (fillL L a).getD k 0 ≠ (fillL L b).getD k 0
theorem Spot.symm {sg a b : List Int} {L : Nat → List Int} {k : Nat} (h : Spot sg a b L k) : Spot sg b a L k := ⟨h.tb, h.ta, h.pre.symm, h.ky, h.kx, fun e => h.ne e.symm⟩
theorem part_uni {sg a b : List Int} {L M : Nat → List Int} (h : Part sg a b L) (hM : Uni sg a b M) (z : List Int) : fillL M (fillL L z) = fillL M z := by
 rw [fill_fill]
 exact fill_ext (fun x _ _ => h.gen M hM _)
theorem Spot.sub {sg a b : List Int} {L M : Nat → List Int} {k : Nat} (s : Spot sg a b L k) (h : Part sg a b L) (hM : Uni sg a b M) : fillL M (subL sg (fillL L a) k) = fillL M (subL sg (fillL L b) k) :=
 uni_sub (h.sub.fill s.ta) (h.sub.fill s.tb) hM.sub (by rw [part_uni h hM, part_uni h hM, hM.eq]) s.pre s.kx s.ky
theorem mem_rep {M : Nat → List Int} {z : List Int} {x : Int} (hp : ∀ i, 1 ≤ (M i).length) (hx : x ∈ z) (h0 : x < 0) (hl : z ≠ [x]) : (M (vr x)).length < (fillL M z).length := by
 obtain ⟨u, v, rfl⟩ := List.append_of_mem hx
 rw [fill_append, fill_cons, rep_vr h0, List.length_append, List.length_append]
 have h1 := fill_ge hp u
 have h2 := fill_ge hp v
 by_cases hu : u.length = 0
 ·by_cases hv : v.length = 0
  ·rw [List.eq_nil_of_length_eq_zero hu, List.eq_nil_of_length_eq_zero hv] at hl
   exact absurd rfl hl
  ·omega
 ·omega
theorem fill_mem {L : Nat → List Int} : ∀ {t : List Int} {x : Int}, x ∈ fillL L t → x < 0 → ∃ y ∈ t, y < 0 ∧ x ∈ L (vr y)
 | [], x, h, _ => absurd h (List.not_mem_nil)
 | z :: r, x, h, h0 => by
  rw [fill_cons] at h
  rcases List.mem_append.1 h with h | h
  ·by_cases hz : 0 ≤ z
   ·rw [rep_sym hz, List.mem_singleton] at h; omega
   ·rw [rep_vr (by omega)] at h
    exact ⟨z, List.mem_cons_self .., by omega, h⟩
  ·obtain ⟨y, h1, h2⟩ := fill_mem h h0
   exact ⟨y, List.mem_cons_of_mem _ h1, h2⟩
theorem Part.done {sg a b : List Int} {L : Nat → List Int} (h : Part sg a b L) (he : fillL L a = fillL L b) : Mg sg a b L := ⟨h, he⟩
structure Short (sg a b : List Int) (M : Nat → List Int) : Prop extends Uni sg a b M where
 each : ∀ i, (M i).length ≤ 60
 all : (fillL M a).length ≤ 60
theorem Short.symm {sg a b : List Int} {M : Nat → List Int} (h : Short sg a b M) : Short sg b a M := ⟨h.toUni.symm, h.each, by rw [← h.eq]; exact h.all⟩
theorem Part.each {sg a b : List Int} {L M : Nat → List Int} (h : Part sg a b L) (hM : Short sg a b M) (i : Nat) : (L i).length ≤ 60 := by
 have h1 := fill_ge hM.sub.pos (L i)
 rw [h.gen M hM.toUni] at h1
 exact Nat.le_trans h1 (hM.each i)
theorem Part.len {sg a b : List Int} {L M : Nat → List Int} (h : Part sg a b L) (hM : Short sg a b M) : (fillL L a).length ≤ 60 ∧ (fillL L b).length ≤ 60 := by
 have h1 := fill_ge hM.sub.pos (fillL L a)
 have h2 := fill_ge hM.sub.pos (fillL L b)
 rw [part_uni h hM.toUni] at h1 h2
 rw [← hM.eq] at h2
 exact ⟨Nat.le_trans h1 hM.all, Nat.le_trans h2 hM.all⟩
def free (L : Nat → List Int) : Nat := (List.range 24).countP fun i => decide (L i = vt i)
end unifMath
end
section
namespace forest
open sig term termOk termFacts fillMath renMath matchMath unifMath
inductive Fo (sg : List Int) : Nat → List Int → Prop
 | nil : Fo sg 0 []
 | var (x : Int) (r : List Int) (q : Nat) (h : x < 0) (h1 : Fo sg q r) : Fo sg (q + 1) (x :: r)
 | app (x : Int) (r : List Int) (q : Nat) (h : 0 ≤ x) (h2 : 0 ≤ ar sg x) (h1 : Fo sg ((ar sg x).toNat + q) r) : Fo sg (q + 1) (x :: r)
variable {sg : List Int}
theorem Fo.zero {l : List Int} (h : Fo sg 0 l) : l = [] := by cases h; rfl
theorem Fo.none {q : Nat} (h : Fo sg q []) : q = 0 := by cases h; rfl
theorem Fo.inv {n : Nat} {x : Int} {r : List Int} (h : Fo sg n (x :: r)) : ∃ q, n = q + 1 ∧ ((x < 0 ∧ Fo sg q r) ∨ (0 ≤ x ∧ 0 ≤ ar sg x ∧ Fo sg ((ar sg x).toNat + q) r)) := by
 cases h with
 | var x r q h h1 => exact ⟨q, rfl, .inl ⟨h, h1⟩⟩
 | app x r q h h2 h1 => exact ⟨q, rfl, .inr ⟨h, h2, h1⟩⟩
theorem Fo.pos {q : Nat} {l : List Int} (h : Fo sg (q + 1) l) : 1 ≤ l.length := by cases h <;> simp
theorem Fo.append {p q : Nat} {a b : List Int} (h : Fo sg p a) (h' : Fo sg q b) : Fo sg (p + q) (a ++ b) := by
 induction h with
 | nil => rw [Nat.zero_add]; exact h'
 | var x r p h h1 ih =>
  rw [show p + 1 + q = p + q + 1 by omega]
  exact Fo.var x _ _ h ih
 | app x r p h h2 h1 ih =>
  rw [show p + 1 + q = p + q + 1 by omega]
  refine Fo.app x _ _ h h2 ?_
  rw [← Nat.add_assoc]
  exact ih
theorem Fo.split : ∀ {l : List Int} {p q : Nat}, Fo sg (p + q) l → ∃ a b, l = a ++ b ∧ Fo sg p a ∧ Fo sg q b
 | [], p, q, h => by
  have h0 := h.none
  have h1 : p = 0 := by omega
  have h2 : q = 0 := by omega
  subst h1 h2
  exact ⟨[], [], rfl, .nil, .nil⟩
 | x :: r, 0, q, h => by
  rw [Nat.zero_add] at h
  exact ⟨[], x :: r, rfl, .nil, h⟩
 | x :: r, p + 1, q, h => by
  obtain ⟨k, e, h⟩ := h.inv
  have e1 : k = p + q := by omega
  subst e1
  rcases h with ⟨h0, h1⟩ | ⟨h0, h2, h1⟩
  ·obtain ⟨a, b, rfl, ha, hb⟩ := Fo.split h1
   exact ⟨x :: a, b, rfl, .var x a p h0 ha, hb⟩
  ·rw [← Nat.add_assoc] at h1
   obtain ⟨a, b, rfl, ha, hb⟩ := Fo.split h1
   exact ⟨x :: a, b, rfl, .app x a p h0 h2 ha, hb⟩
theorem Fo.uniq : ∀ {a b : List Int} {p : Nat} {r s : List Int}, Fo sg p a → Fo sg p b → a ++ r = b ++ s → a = b ∧ r = s
 | [], b, p, r, s, h, h', e => by
  have h0 := h.none
  subst h0
  have h1 := h'.zero
  subst h1
  exact ⟨rfl, e⟩
 | x :: a, [], p, r, s, h, h', e => by
  have h0 := h'.none
  subst h0
  exact absurd h.zero (by simp)
 | x :: a, y :: b, p, r, s, h, h', e => by
  simp only [List.cons_append, List.cons.injEq] at e
  obtain ⟨rfl, e⟩ := e
  obtain ⟨q, rfl, g⟩ := h.inv
  obtain ⟨q', e', g'⟩ := h'.inv
  have e1 : q' = q := by omega
  subst e1
  rcases g with ⟨h0, h1⟩ | ⟨h0, h2, h1⟩
  ·rcases g' with ⟨k0, k1⟩ | ⟨k0, k2, k1⟩
   ·obtain ⟨e2, e3⟩ := Fo.uniq h1 k1 e
    exact ⟨by rw [e2], e3⟩
   ·omega
  ·rcases g' with ⟨k0, k1⟩ | ⟨k0, k2, k1⟩
   ·omega
   ·obtain ⟨e2, e3⟩ := Fo.uniq h1 k1 e
    exact ⟨by rw [e2], e3⟩
theorem Fo.fill {L : Nat → List Int} (hL : ∀ i, Fo sg 1 (L i)) {q : Nat} {t : List Int} (h : Fo sg q t) : Fo sg q (fillL L t) := by
 induction h with
 | nil => exact .nil
 | var x r p h h1 ih =>
  rw [fill_cons, rep_var h, Nat.add_comm]
  exact (hL _).append ih
 | app x r p h h2 h1 ih =>
  rw [fill_cons, rep_sym h]
  exact Fo.app x _ p h h2 ih
theorem Fo.vt (i : Nat) : Fo sg 1 (vt i) := Fo.var _ _ 0 (by omega) .nil
theorem Fo.sym {q : Nat} {t : List Int} (h : Fo sg q t) : ∀ x ∈ t, 0 ≤ x → 0 ≤ ar sg x := by
 induction h with
 | nil => intro x hx; cases hx
 | var x r p h h1 ih =>
  intro y hy h0
  rcases List.mem_cons.1 hy with e | e
  ·omega
  ·exact ih y e h0
 | app x r p h h2 h1 ih =>
  intro y hy h0
  rcases List.mem_cons.1 hy with e | e
  ·rw [e]; exact h2
  ·exact ih y e h0
theorem fo_scan : ∀ {l : List Int} {q : Nat}, scan sg q l = some l.length → Fo sg q l
 | [], q, h => by
  cases q with
  | zero => exact .nil
  | succ q => rw [scan_nil] at h; cases h
 | x :: r, q, h => by
  cases q with
  | zero => rw [scan_zero] at h; simp at h
  | succ q =>
   by_cases ha : ar sg x < 0
   ·rw [scan_bad ha] at h; cases h
   ·rw [scan_step ha] at h
    obtain ⟨i, hi, e⟩ := Option.map_eq_some_iff.1 h
    have e1 : i = r.length := by simp at e; omega
    rw [e1] at hi
    by_cases hx : x < 0
    ·have ha0 : ar sg x = 0 := by
      unfold ar at ha ⊢
      split at ha
      ·rename_i h1; rw [if_pos h1]
      ·rename_i h1
       split at ha
       ·omega
       ·exact absurd (by decide) ha
     rw [ha0] at hi
     exact .var x r q hx (fo_scan (by simpa using hi))
    ·exact .app x r q (by omega) (by omega) (by rw [Nat.add_comm]; exact fo_scan hi)
theorem scan_fo {q : Nat} {l : List Int} (h : Fo sg q l) (hv : ∀ x ∈ l, -24 ≤ x) : scan sg q l = some l.length := by
 induction h with
 | nil => rfl
 | var x r p h h1 ih =>
  have hx := hv x (List.mem_cons_self ..)
  have ha : ar sg x = 0 := by unfold ar; rw [if_pos (by omega)]
  rw [scan_step (by omega), ha]
  rw [show p + (0 : Int).toNat = p from rfl, ih (fun y hy => hv y (List.mem_cons_of_mem _ hy))]
  rfl
 | app x r p h h2 h1 ih =>
  rw [scan_step (by omega), Nat.add_comm p, ih (fun y hy => hv y (List.mem_cons_of_mem _ hy))]
  rfl
theorem fo_term {t : List Int} (h : termOkB sg t = true) : Fo sg 1 t := fo_scan (term_parts h).2.2
theorem Fo.parts : ∀ {k : Nat} {r : List Int}, Fo sg k r → ∃ ps : List (List Int), ps.length = k ∧ (∀ p ∈ ps, Fo sg 1 p) ∧ r = ps.flatten
 | 0, r, h => ⟨[], rfl, by simp, h.zero⟩
 | k + 1, r, h => by
  rw [Nat.add_comm] at h
  obtain ⟨a, b, rfl, ha, hb⟩ := h.split
  obtain ⟨ps, h1, h2, rfl⟩ := hb.parts
  refine ⟨a :: ps, by simp [h1], ?_, rfl⟩
  intro p hp
  rcases List.mem_cons.1 hp with e | e
  ·rw [e]; exact ha
  ·exact h2 p e
theorem flat_uniq : ∀ {ps qs : List (List Int)}, ps.length = qs.length → (∀ p ∈ ps, Fo sg 1 p) → (∀ p ∈ qs, Fo sg 1 p) → ps.flatten = qs.flatten → ps = qs
 | [], [], _, _, _, _ => rfl
 | [], q :: qs, h, _, _, _ => by simp at h
 | p :: ps, [], h, _, _, _ => by simp at h
 | p :: ps, q :: qs, h, hp, hq, e => by
  rw [List.flatten_cons, List.flatten_cons] at e
  obtain ⟨e1, e2⟩ := Fo.uniq (hp p (List.mem_cons_self ..)) (hq q (List.mem_cons_self ..)) e
  rw [e1, flat_uniq (by simpa using h) (fun x hx => hp x (List.mem_cons_of_mem _ hx)) (fun x hx => hq x (List.mem_cons_of_mem _ hx)) e2]
theorem flat_fo : ∀ {ps : List (List Int)}, (∀ p ∈ ps, Fo sg 1 p) → Fo sg ps.length ps.flatten
 | [], _ => .nil
 | p :: ps, h => by
  rw [List.flatten_cons, List.length_cons, Nat.add_comm]
  exact (h p (List.mem_cons_self ..)).append (flat_fo fun x hx => h x (List.mem_cons_of_mem _ hx))
theorem fill_flat (L : Nat → List Int) : ∀ ps : List (List Int), fillL L ps.flatten = (ps.map (fillL L)).flatten
 | [] => rfl
 | p :: ps => by rw [List.flatten_cons, fill_append, fill_flat L ps]; rfl
def Prt (sg u : List Int) (ps : List (List Int)) : Prop := (∃ x, 0 ≤ x ∧ 0 ≤ ar sg x ∧ u = x :: ps.flatten ∧ ps.length = (ar sg x).toNat) ∧ ∀ p ∈ ps, Fo sg 1 p
theorem prt_ex {u : List Int} (h : Fo sg 1 u) (h0 : 0 ≤ u.getD 0 0) : ∃ ps, Prt sg u ps := by
 cases h with
 | var x r q h h1 => exact absurd h (by simpa using h0)
 | app x r q h h2 h1 =>
  rw [Nat.add_zero] at h1
  obtain ⟨ps, h3, h4, rfl⟩ := h1.parts
  exact ⟨ps, ⟨x, h, h2, rfl, h3⟩, h4⟩
theorem prt_one {u : List Int} {ps qs : List (List Int)} (h : Prt sg u ps) (h' : Prt sg u qs) : ps = qs := by
 obtain ⟨⟨x, -, -, e, hl⟩, hp⟩ := h
 obtain ⟨⟨y, -, -, e', hl'⟩, hp'⟩ := h'
 rw [e] at e'
 injection e' with e1 e2
 subst e1
 exact flat_uniq (by omega) hp hp' e2
theorem Prt.fo {u : List Int} {ps : List (List Int)} (h : Prt sg u ps) : Fo sg 1 u := by
 obtain ⟨⟨x, h0, h2, rfl, hl⟩, hp⟩ := h
 refine Fo.app x _ 0 h0 h2 ?_
 rw [Nat.add_zero, ← hl]
 exact flat_fo hp
theorem Prt.fill {u : List Int} {ps : List (List Int)} {L : Nat → List Int} (h : Prt sg u ps) (hL : ∀ i, Fo sg 1 (L i)) : Prt sg (fillL L u) (ps.map (fillL L)) := by
 obtain ⟨⟨x, h0, h2, rfl, hl⟩, hp⟩ := h
 refine ⟨⟨x, h0, h2, by rw [fill_cons, rep_sym h0, fill_flat]; rfl, by rw [List.length_map]; exact hl⟩, ?_⟩
 intro p hq
 obtain ⟨q, hq1, rfl⟩ := List.mem_map.1 hq
 exact (hp q hq1).fill hL
theorem prt_same {u v : List Int} {ps qs : List (List Int)} {L : Nat → List Int} (h : Prt sg u ps) (h' : Prt sg v qs) (hL : ∀ i, Fo sg 1 (L i)) (e : u.getD 0 0 = v.getD 0 0) : fillL L u = fillL L v ↔ ps.map (fillL L) = qs.map (fillL L) := by
 constructor
 ·intro eq
  have h1 := h.fill hL
  rw [eq] at h1
  exact prt_one h1 (h'.fill hL)
 ·intro eq
  obtain ⟨⟨x, h0, -, rfl, -⟩, -⟩ := h
  obtain ⟨⟨y, -, -, rfl, -⟩, -⟩ := h'
  have e : x = y := e
  subst e
  rw [fill_cons, fill_cons, fill_flat, fill_flat, eq]
theorem Prt.len {u : List Int} {ps : List (List Int)} (h : Prt sg u ps) : u.length = (ps.map List.length).sum + 1 := by
 obtain ⟨⟨x, -, -, rfl, -⟩, -⟩ := h
 rw [List.length_cons, List.length_flatten]
end forest
end
section
namespace triMath
open sig term termOk termFacts fillMath renMath matchMath unifMath forest
def Sb (sg : List Int) (θ : Nat → List Int) : Prop := ∀ i, Fo sg 1 (θ i)
def Unis (sg s t : List Int) (θ : Nat → List Int) : Prop := Sb sg θ ∧ fillL θ s = fillL θ t
def bd (B : List (List Int)) (i : Nat) : List Int := B.getD i []
structure Res (sg : List Int) (B : List (List Int)) (L : Nat → List Int) (rk : Nat → Nat) : Prop where
 sb : Sb sg L
 free : ∀ i, bd B i = [] → L i = vt i
 bnd : ∀ i, bd B i ≠ [] → L i = fillL L (bd B i)
 rnk : ∀ i, ∀ z ∈ bd B i, z < 0 → rk (vr z) < rk i
 fo : ∀ i, bd B i ≠ [] → Fo sg 1 (bd B i)
def Sol (B : List (List Int)) (θ : Nat → List Int) : Prop := ∀ i, bd B i ≠ [] → θ i = fillL θ (bd B i)
variable {sg : List Int} {B : List (List Int)} {L θ : Nat → List Int} {rk : Nat → Nat}
theorem Res.sol (h : Res sg B L rk) : Sol B L := h.bnd
theorem Res.gen (h : Res sg B L rk) (hs : Sol B θ) : ∀ (n i : Nat), rk i ≤ n → fillL θ (L i) = θ i := by
 intro n
 induction n with
 | zero =>
  intro i hi
  by_cases hb : bd B i = []
  ·rw [h.free i hb, fill_vti]
  ·rw [h.bnd i hb, fill_fill, hs i hb]
   refine fill_ext fun z hz h0 => ?_
   have := h.rnk i z hz h0
   omega
 | succ n ih =>
  intro i hi
  by_cases hb : bd B i = []
  ·rw [h.free i hb, fill_vti]
  ·rw [h.bnd i hb, fill_fill, hs i hb]
   refine fill_ext fun z hz h0 => ?_
   have h2 := h.rnk i z hz h0
   exact ih (vr z) (by omega)
theorem Res.gens (h : Res sg B L rk) (hs : Sol B θ) (t : List Int) : fillL θ (fillL L t) = fillL θ t := by
 rw [fill_fill]
 exact fill_ext fun z _ _ => h.gen hs _ _ (Nat.le_refl _)
theorem mem_fill {L : Nat → List Int} {t : List Int} {y x : Int} (hy : y ∈ t) (h0 : y < 0) (hx : x ∈ L (vr y)) : x ∈ fillL L t := by
 unfold fillL
 rw [List.mem_flatMap]
 exact ⟨y, hy, by rw [rep_vr h0]; exact hx⟩
theorem rk_bound (rk : Nat → Nat) : ∀ v : List Int, ∃ K, ∀ z ∈ v, z < 0 → rk (vr z) ≤ K
 | [] => ⟨0, by simp⟩
 | x :: v => by
  obtain ⟨K, hK⟩ := rk_bound rk v
  refine ⟨max K (rk (vr x)), ?_⟩
  intro z hz h0
  rcases List.mem_cons.1 hz with e | e
  ·rw [e]; exact Nat.le_max_right _ _
  ·exact Nat.le_trans (hK z e h0) (Nat.le_max_left _ _)
theorem bd_set {B : List (List Int)} {i j : Nat} {v : List Int} (hi : i < B.length) : bd (B.set i v) j = if j = i then v else bd B j := by
 unfold bd
 by_cases h : j = i
 ·subst h; simp [List.getD, hi]
 ·simp [List.getD, h, Ne.symm h]
theorem vr_at (i : Nat) : vr (-1 - (i : Int)) = i := by unfold vr; omega
theorem at_vr {x : Int} (h : x < 0) : -1 - ((vr x : Nat) : Int) = x := by unfold vr; omega
theorem Res.bind (h : Res sg B L rk) {i : Nat} {v : List Int} (hi : i < B.length) (hb : bd B i = []) (hv : Fo sg 1 v) (ho : (-1 - (i : Int)) ∉ fillL L v) :
  ∃ rk', Res sg (B.set i v) (fun j => fillL (ones i (fillL L v)) (L j)) rk' := by
 obtain ⟨K, hK⟩ := rk_bound rk v
 have hvne : v ≠ [] := fun e => by rw [e] at hv; exact absurd hv.none (by simp)
 have hno : fillL (ones i (fillL L v)) (fillL L v) = fillL L v := one_no fun x hx h0 e => ho (by rw [← e, at_vr h0]; exact hx)
 refine ⟨fun j => if (-1 - (i : Int)) ∈ L j then rk j + K + 1 else rk j, ⟨?_, ?_, ?_, ?_, ?_⟩⟩
 ·intro j
  refine Fo.fill ?_ (h.sb j)
  intro k
  unfold ones
  split
  ·exact hv.fill h.sb
  ·exact Fo.vt k
 ·intro j hj
  rw [bd_set hi] at hj
  split at hj
  ·exact absurd hj hvne
  ·rename_i hji
   rw [h.free j hj, fill_vti]
   unfold ones
   rw [if_neg hji]
 ·intro j hj
  rw [bd_set hi] at hj ⊢
  split at hj
  ·rename_i hji
   subst hji
   rw [if_pos rfl, h.free j hb, fill_vti, ← fill_fill, hno]
   unfold ones
   rw [if_pos rfl]
  ·rename_i hji
   rw [if_neg hji, ← fill_fill, ← h.bnd j hj]
 ·intro j z hz h0
  rw [bd_set hi] at hz
  split at hz
  ·rename_i hji
   subst hji
   have h1 : (-1 - (j : Int)) ∉ L (vr z) := fun e => ho (mem_fill hz h0 e)
   have h2 : (-1 - (j : Int)) ∈ L j := by rw [h.free j hb]; exact List.mem_cons_self ..
   show (if _ then _ else _) < (if _ then _ else _)
   rw [if_neg h1, if_pos h2]
   have := hK z hz h0
   omega
  ·have h2 := h.rnk j z hz h0
   show (if _ then _ else _) < (if _ then _ else _)
   by_cases h1 : (-1 - (i : Int)) ∈ L (vr z)
   ·have h3 : (-1 - (i : Int)) ∈ L j := by
     rw [h.bnd j (fun e => by rw [e] at hz; cases hz)]
     exact mem_fill hz h0 h1
    rw [if_pos h1, if_pos h3]
    omega
   ·rw [if_neg h1]
    by_cases h3 : (-1 - (i : Int)) ∈ L j
    ·rw [if_pos h3]; omega
    ·rw [if_neg h3]; exact h2
 ·intro j hj
  rw [bd_set hi] at hj ⊢
  split
  ·exact hv
  ·rename_i hji
   rw [if_neg hji] at hj
   exact h.fo j hj
theorem sol_set {i : Nat} {v : List Int} (hi : i < B.length) (hb : bd B i = []) (hv : v ≠ []) : Sol (B.set i v) θ ↔ Sol B θ ∧ θ i = fillL θ v := by
 constructor
 ·intro h
  refine ⟨fun j hj => ?_, ?_⟩
  ·have hji : ¬ j = i := fun e => hj (by rw [e]; exact hb)
   have h1 := h j (by rw [bd_set hi, if_neg hji]; exact hj)
   rw [bd_set hi, if_neg hji] at h1
   exact h1
  ·have h1 := h i (by rw [bd_set hi, if_pos rfl]; exact hv)
   rw [bd_set hi, if_pos rfl] at h1
   exact h1
 ·rintro ⟨h, h1⟩ j hj
  rw [bd_set hi] at hj ⊢
  split at hj
  ·rename_i e
   rw [if_pos e, e]; exact h1
  ·rename_i e
   rw [if_neg e]; exact h j hj
def Vb (K : Nat) (t : List Int) : Prop := t.length ≤ 60 ∧ ∀ x ∈ t, -(K : Int) ≤ x
theorem Vb.vr {K : Nat} {t : List Int} (h : Vb K t) {x : Int} (hx : x ∈ t) (h0 : x < 0) : vr x < K := by
 have := h.2 x hx
 unfold matchMath.vr
 omega
def Rko (B : List (List Int)) (rk : Nat → Nat) : Prop := ∀ i, ∀ z ∈ bd B i, z < 0 → rk (vr z) < rk i
def mr (rk : Nat → Nat) : List Int → Nat
 | [] => 0
 | z :: u => if z < 0 then max (rk (vr z) + 1) (mr rk u) else mr rk u
def pot (rk : Nat → Nat) (u : List Int) : Nat := u.length + 61 * mr rk u
theorem mr_le {rk : Nat → Nat} {M : Nat} : ∀ {u : List Int}, (∀ z ∈ u, z < 0 → rk (vr z) + 1 ≤ M) → mr rk u ≤ M
 | [], _ => Nat.zero_le _
 | z :: u, h => by
  have ih := mr_le fun y hy => h y (List.mem_cons_of_mem _ hy)
  unfold mr
  split
  ·rename_i h0
   exact Nat.max_le.2 ⟨h z (List.mem_cons_self ..) h0, ih⟩
  ·exact ih
theorem mr_mem {rk : Nat → Nat} {z : Int} (h0 : z < 0) : ∀ {u : List Int}, z ∈ u → rk (vr z) + 1 ≤ mr rk u
 | y :: u, h => by
  unfold mr
  rcases List.mem_cons.1 h with e | e
  ·rw [← e, if_pos h0]; exact Nat.le_max_left _ _
  ·have ih := mr_mem (rk := rk) h0 e
   split
   ·exact Nat.le_trans ih (Nat.le_max_right _ _)
   ·exact ih
theorem mr_sub {rk : Nat → Nat} {p u : List Int} (h : ∀ z ∈ p, z ∈ u) : mr rk p ≤ mr rk u := mr_le fun z hz h0 => mr_mem h0 (h z hz)
theorem pot_bind {B : List (List Int)} {rk : Nat → Nat} (h : Rko B rk) {i : Nat} (hl : (bd B i).length ≤ 60) : pot rk (bd B i) ≤ pot rk [-1 - (i : Int)] := by
 have h1 : mr rk (bd B i) ≤ rk i := mr_le fun z hz h0 => h i z hz h0
 have h2 : rk i + 1 ≤ mr rk [-1 - (i : Int)] := by
  have := mr_mem (rk := rk) (z := -1 - (i : Int)) (u := [-1 - (i : Int)]) (by omega) (List.mem_cons_self ..)
  rw [show vr (-1 - (i : Int)) = i from vr_at i] at this
  exact this
 unfold pot
 simp only [List.length_singleton]
 omega
theorem pot_part {sg u p : List Int} {ps : List (List Int)} {rk : Nat → Nat} (h : Prt sg u ps) (hp : p ∈ ps) : pot rk p < pot rk u := by
 obtain ⟨⟨x, -, -, rfl, -⟩, -⟩ := h
 have h1 : mr rk p ≤ mr rk (x :: ps.flatten) := mr_sub fun z hz => List.mem_cons_of_mem _ (List.mem_flatten.2 ⟨p, hp, hz⟩)
 have h2 := (List.sublist_flatten_of_mem hp).length_le
 unfold pot
 rw [List.length_cons]
 omega
structure Hd (sg : List Int) (B : List (List Int)) (K : Nat) (u0 u : List Int) : Prop where
 pot : ∀ rk, Rko B rk → pot rk u ≤ pot rk u0
 fo : Fo sg 1 u
 vb : Vb K u
 top : u.getD 0 0 < 0 → bd B (vr (u.getD 0 0)) = []
 eq : ∀ θ, Sol B θ → fillL θ u = fillL θ u0
theorem fo_var {u : List Int} (h : Fo sg 1 u) (h0 : u.getD 0 0 < 0) : u = [u.getD 0 0] := by
 cases h with
 | var x r q h h1 =>
  rw [h1.zero]; rfl
 | app x r q h h2 h1 => exact absurd h0 (by simpa using h)
structure Mid (sg s t : List Int) (K : Nat) (B : List (List Int)) (ls rs : List (List Int)) : Prop where
 len : ls.length = rs.length
 fl : ∀ u ∈ ls, Fo sg 1 u ∧ Vb K u
 fr : ∀ u ∈ rs, Fo sg 1 u ∧ Vb K u
 bl : B.length = K
 vb : ∀ i, Vb K (bd B i)
 iff : ∀ θ, Sb sg θ → (fillL θ s = fillL θ t ↔ Sol B θ ∧ ls.map (fillL θ) = rs.map (fillL θ))
variable {s t u v u0 v0 : List Int} {K : Nat} {ls rs : List (List Int)}
theorem map_snoc (θ : Nat → List Int) (hl : ls.length = rs.length) : (ls ++ [u0]).map (fillL θ) = (rs ++ [v0]).map (fillL θ) ↔ ls.map (fillL θ) = rs.map (fillL θ) ∧ fillL θ u0 = fillL θ v0 := by
 rw [List.map_append, List.map_append]
 constructor
 ·intro h
  obtain ⟨h1, h2⟩ := List.append_inj h (by simp [hl])
  exact ⟨h1, by simpa using h2⟩
 ·rintro ⟨h1, h2⟩
  rw [h1]
  simp [h2]
theorem snoc_len (h : (ls ++ [u0]).length = (rs ++ [v0]).length) : ls.length = rs.length := by simpa using h
theorem Mid.iff2 (h : Mid sg s t K B (ls ++ [u0]) (rs ++ [v0])) (hu : Hd sg B K u0 u) (hv : Hd sg B K v0 v) (θ : Nat → List Int) (hθ : Sb sg θ) :
  fillL θ s = fillL θ t ↔ Sol B θ ∧ ls.map (fillL θ) = rs.map (fillL θ) ∧ fillL θ u = fillL θ v := by
 rw [h.iff θ hθ]
 constructor
 ·rintro ⟨h1, h2⟩
  obtain ⟨h3, h4⟩ := (map_snoc θ (snoc_len h.len)).1 h2
  exact ⟨h1, h3, by rw [hu.eq θ h1, hv.eq θ h1]; exact h4⟩
 ·rintro ⟨h1, h3, h4⟩
  refine ⟨h1, (map_snoc θ (snoc_len h.len)).2 ⟨h3, ?_⟩⟩
  rw [← hu.eq θ h1, ← hv.eq θ h1]; exact h4
theorem Mid.popped (h : Mid sg s t K B (ls ++ [u0]) (rs ++ [v0])) : ls.length = rs.length ∧ (∀ u ∈ ls, Fo sg 1 u ∧ Vb K u) ∧ (∀ u ∈ rs, Fo sg 1 u ∧ Vb K u) :=
 ⟨snoc_len h.len, fun u hu => h.fl u (List.mem_append_left _ hu), fun u hu => h.fr u (List.mem_append_left _ hu)⟩
theorem Mid.same (h : Mid sg s t K B (ls ++ [u0]) (rs ++ [v0])) (hu : Hd sg B K u0 u) (hv : Hd sg B K v0 v) (h0 : u.getD 0 0 < 0) (e : u.getD 0 0 = v.getD 0 0) : Mid sg s t K B ls rs := by
 obtain ⟨h1, h2, h3⟩ := h.popped
 refine ⟨h1, h2, h3, h.bl, h.vb, fun θ hθ => ?_⟩
 rw [h.iff2 hu hv θ hθ]
 have e2 : u = v := by rw [fo_var hu.fo h0, fo_var hv.fo (by rw [← e]; exact h0), e]
 exact ⟨fun ⟨a, b, _⟩ => ⟨a, b⟩, fun ⟨a, b⟩ => ⟨a, b, by rw [e2]⟩⟩
theorem Mid.parts (h : Mid sg s t K B (ls ++ [u0]) (rs ++ [v0])) (hu : Hd sg B K u0 u) (hv : Hd sg B K v0 v) {ps qs : List (List Int)} (hp : Prt sg u ps) (hq : Prt sg v qs) (e : u.getD 0 0 = v.getD 0 0) : Mid sg s t K B (ls ++ ps) (rs ++ qs) := by
 obtain ⟨h1, h2, h3⟩ := h.popped
 have hpq : ps.length = qs.length := by
  obtain ⟨⟨x, -, -, e1, hl⟩, -⟩ := hp
  obtain ⟨⟨y, -, -, e2, hl'⟩, -⟩ := hq
  rw [e1, e2] at e
  have e : x = y := e
  rw [hl, hl', e]
 have hvb : ∀ {u : List Int} {ps : List (List Int)}, Prt sg u ps → Vb K u → ∀ p ∈ ps, Fo sg 1 p ∧ Vb K p := by
  rintro u ps ⟨⟨x, -, -, e1, -⟩, hf⟩ hb p hp
  refine ⟨hf p hp, ?_, fun z hz => hb.2 z ?_⟩
  ·have h9 := hb.1
   rw [e1, List.length_cons] at h9
   have := (List.sublist_flatten_of_mem hp).length_le
   omega
  ·rw [e1]
   exact List.mem_cons_of_mem _ (List.mem_flatten.2 ⟨p, hp, hz⟩)
 refine ⟨by simp [h1, hpq], ?_, ?_, h.bl, h.vb, fun θ hθ => ?_⟩
 ·intro p hp'
  rcases List.mem_append.1 hp' with e | e
  ·exact h2 p e
  ·exact hvb hp hu.vb p e
 ·intro p hp'
  rcases List.mem_append.1 hp' with e | e
  ·exact h3 p e
  ·exact hvb hq hv.vb p e
 ·rw [h.iff2 hu hv θ hθ, prt_same hp hq hθ e, List.map_append, List.map_append]
  constructor
  ·rintro ⟨a, b, c⟩
   exact ⟨a, by rw [b, c]⟩
  ·rintro ⟨a, b⟩
   obtain ⟨c, d⟩ := List.append_inj b (by simp [h1])
   exact ⟨a, c, d⟩
theorem Mid.clash (h : Mid sg s t K B (ls ++ [u0]) (rs ++ [v0])) (hu : Hd sg B K u0 u) (hv : Hd sg B K v0 v) (h0 : 0 ≤ u.getD 0 0) (h1 : 0 ≤ v.getD 0 0) (hne : u.getD 0 0 ≠ v.getD 0 0) : ∀ θ, ¬ Unis sg s t θ := by
 rintro θ ⟨hθ, e⟩
 obtain ⟨-, -, e2⟩ := (h.iff2 hu hv θ hθ).1 e
 obtain ⟨ps, ⟨x, hx, -, e3, -⟩, -⟩ := prt_ex hu.fo h0
 obtain ⟨qs, ⟨y, hy, -, e4, -⟩, -⟩ := prt_ex hv.fo h1
 rw [e3, e4] at e2 hne
 rw [fill_cons, fill_cons, rep_sym hx, rep_sym hy] at e2
 simp only [List.singleton_append, List.cons.injEq] at e2
 exact hne (by simpa using e2.1)
theorem Mid.occurs (h : Mid sg s t K B (ls ++ [u0]) (rs ++ [v0])) (hu : Hd sg B K u0 u) (hv : Hd sg B K v0 v) (hR : Res sg B L rk) (h0 : u.getD 0 0 < 0) (hne : u.getD 0 0 ≠ v.getD 0 0) (ho : u.getD 0 0 ∈ fillL L v) : ∀ θ, ¬ Unis sg s t θ := by
 rintro θ ⟨hθ, e⟩
 obtain ⟨hs, -, e2⟩ := (h.iff2 hu hv θ hθ).1 e
 have e1 := fo_var hu.fo h0
 obtain ⟨x, hx⟩ : ∃ x, u.getD 0 0 = x := ⟨_, rfl⟩
 rw [hx] at h0 hne ho e1
 rw [e1, ← hR.gens hs v, fill_one, rep_vr h0] at e2
 have hp : ∀ i, 1 ≤ (θ i).length := fun i => (hθ i).pos
 have hl : fillL L v ≠ [x] := by
  intro e5
  by_cases hv0 : v.getD 0 0 < 0
  ·have e3 := fo_var hv.fo hv0
   have hb := hv.top hv0
   rw [e3, fill_one, rep_vr hv0, hR.free _ hb] at e5
   unfold vt at e5
   rw [at_vr hv0] at e5
   injection e5 with e5
   exact hne e5.symm
  ·obtain ⟨ps, ⟨y, hy, -, e4, -⟩, -⟩ := prt_ex hv.fo (by omega)
   rw [e4, fill_cons, rep_sym hy] at e5
   injection e5 with e5
   omega
 have := mem_rep hp ho h0 hl
 rw [← e2] at this
 omega
theorem Mid.swap (h : Mid sg s t K B ls rs) : Mid sg t s K B rs ls :=
 ⟨h.len.symm, h.fr, h.fl, h.bl, h.vb, fun θ hθ => by rw [eq_comm, h.iff θ hθ]; exact ⟨fun ⟨a, b⟩ => ⟨a, b.symm⟩, fun ⟨a, b⟩ => ⟨a, b.symm⟩⟩⟩
theorem Mid.bind (h : Mid sg s t K B (ls ++ [u0]) (rs ++ [v0])) (hu : Hd sg B K u0 u) (hv : Hd sg B K v0 v) (h0 : u.getD 0 0 < 0) : Mid sg s t K (B.set (vr (u.getD 0 0)) v) ls rs := by
 obtain ⟨h1, h2, h3⟩ := h.popped
 have e1 := fo_var hu.fo h0
 have hb := hu.top h0
 have hx : u.getD 0 0 ∈ u := by rw [e1]; simp
 have hi : vr (u.getD 0 0) < B.length := by rw [h.bl]; exact hu.vb.vr hx h0
 have hvne : v ≠ [] := fun e => by have := hv.fo; rw [e] at this; exact absurd this.none (by simp)
 refine ⟨h1, h2, h3, by rw [List.length_set]; exact h.bl, fun j => ?_, fun θ hθ => ?_⟩
 ·rw [bd_set hi]
  split
  ·exact hv.vb
  ·exact h.vb j
 ·rw [h.iff2 hu hv θ hθ, sol_set hi hb hvne]
  have e3 : fillL θ u = θ (vr (u.getD 0 0)) := by
   rw [e1, fill_one]
   exact rep_vr h0
  rw [e3]
  exact ⟨fun ⟨a, b, c⟩ => ⟨⟨a, c⟩, b⟩, fun ⟨⟨a, c⟩, b⟩ => ⟨a, b, c⟩⟩
def gS : Nat → Nat → Nat
 | 0, S => S
 | k + 1, S => S + 1 + gS k (S * S)
theorem gS_mono : ∀ (k : Nat) {S T : Nat}, S ≤ T → gS k S ≤ gS k T
 | 0, _, _, h => h
 | k + 1, S, T, h => by
  have := gS_mono k (Nat.mul_le_mul h h)
  unfold gS
  omega
theorem gS_lt (k : Nat) {S T : Nat} (h : S < T) : gS k S < gS k T := by
 cases k with
 | zero => exact h
 | succ k =>
  have := gS_mono k (Nat.mul_le_mul (Nat.le_of_lt h) (Nat.le_of_lt h))
  unfold gS
  omega
def len2 (L : Nat → List Int) (ls : List (List Int)) : Nat := (ls.map fun u => (fillL L u).length).sum
def SS (L : Nat → List Int) (ls rs : List (List Int)) : Nat := len2 L ls + len2 L rs
def unb (B : List (List Int)) : Nat := B.countP List.isEmpty
theorem len2_snoc (L : Nat → List Int) (ls : List (List Int)) (u : List Int) : len2 L (ls ++ [u]) = len2 L ls + (fillL L u).length := by simp [len2]
theorem len2_app (L : Nat → List Int) (ls ps : List (List Int)) : len2 L (ls ++ ps) = len2 L ls + len2 L ps := by simp [len2]
theorem len2_prt {ps : List (List Int)} (h : Prt sg u ps) : (fillL L u).length = len2 L ps + 1 := by
 obtain ⟨⟨x, h0, -, rfl, -⟩, -⟩ := h
 rw [fill_cons, rep_sym h0, fill_flat]
 simp [len2, List.length_flatten, Function.comp_def]
theorem len2_bind (L : Nat → List Int) {i : Nat} {V : List Int} (hV : 1 ≤ V.length) : ∀ ls : List (List Int), len2 (fun j => fillL (ones i V) (L j)) ls ≤ len2 L ls * V.length
 | [] => by simp [len2]
 | u :: ls => by
  have ih := len2_bind L (i := i) hV ls
  have h1 : (fillL (fun j => fillL (ones i V) (L j)) u).length ≤ (fillL L u).length * V.length := by
   rw [← fill_fill]
   refine fill_len hV ?_ _
   intro j
   unfold ones
   split
   ·exact Nat.le_refl _
   ·show 1 ≤ _; exact hV
  have e1 : ∀ M : Nat → List Int, len2 M (u :: ls) = (fillL M u).length + len2 M ls := fun M => by simp [len2]
  rw [e1, e1, Nat.add_mul]
  omega
theorem unb_set {i : Nat} {v : List Int} (hi : i < B.length) (hb : bd B i = []) (hv : v ≠ []) : unb (B.set i v) + 1 = unb B := by
 unfold unb
 induction B generalizing i with
 | nil => simp at hi
 | cons b B ih =>
  cases i with
  | zero =>
   have hb : b = [] := hb
   subst hb
   rw [List.set_cons_zero, List.countP_cons_of_neg (by simpa using hv), List.countP_cons_of_pos (by simp)]
  | succ i =>
   have ih := ih (i := i) (by simpa using hi) (by simpa [bd] using hb)
   rw [List.set_cons_succ]
   by_cases hbe : b.isEmpty = true
   ·rw [List.countP_cons_of_pos hbe, List.countP_cons_of_pos hbe]; omega
   ·rw [List.countP_cons_of_neg hbe, List.countP_cons_of_neg hbe]; omega
theorem left_pop (hu : Hd sg B K u0 u) (hv : Hd sg B K v0 v) (hR : Res sg B L rk) : SS L (ls ++ [u0]) (rs ++ [v0]) = SS L ls rs + (fillL L u).length + (fillL L v).length := by
 unfold SS
 rw [len2_snoc, len2_snoc, hu.eq L hR.sol, hv.eq L hR.sol]
 omega
theorem fill_pos (hL : Sb sg L) (h : Fo sg 1 u) : 1 ≤ (fillL L u).length := (h.fill hL).pos
theorem round_same (hu : Hd sg B K u0 u) (hv : Hd sg B K v0 v) (hR : Res sg B L rk) {k : Nat} : gS k (SS L ls rs) < gS k (SS L (ls ++ [u0]) (rs ++ [v0])) := by
 rw [left_pop hu hv hR]
 have := fill_pos hR.sb hu.fo
 exact gS_lt k (by omega)
theorem round_parts (hu : Hd sg B K u0 u) (hv : Hd sg B K v0 v) (hR : Res sg B L rk) {ps qs : List (List Int)} (hp : Prt sg u ps) (hq : Prt sg v qs) {k : Nat} : gS k (SS L (ls ++ ps) (rs ++ qs)) < gS k (SS L (ls ++ [u0]) (rs ++ [v0])) := by
 rw [left_pop hu hv hR]
 refine gS_lt k ?_
 unfold SS
 rw [len2_app, len2_app, len2_prt hp, len2_prt hq]
 omega
theorem round_bind (hu : Hd sg B K u0 u) (hv : Hd sg B K v0 v) (hR : Res sg B L rk) {i : Nat} (hi : i < B.length) (hb : bd B i = []) :
  gS (unb (B.set i v)) (SS (fun j => fillL (ones i (fillL L v)) (L j)) ls rs) < gS (unb B) (SS L (ls ++ [u0]) (rs ++ [v0])) := by
 have hvne : v ≠ [] := fun e => by have := hv.fo; rw [e] at this; exact absurd this.none (by simp)
 rw [← unb_set hi hb hvne, left_pop hu hv hR]
 have hV := fill_pos hR.sb hv.fo
 have h1 := len2_bind L (i := i) hV ls
 have h2 := len2_bind L (i := i) hV rs
 have h3 : SS (fun j => fillL (ones i (fillL L v)) (L j)) ls rs ≤ SS L ls rs * (fillL L v).length := by
  unfold SS
  rw [Nat.add_mul]
  omega
 have h4 : SS L ls rs * (fillL L v).length ≤ (SS L ls rs + (fillL L u).length + (fillL L v).length) * (SS L ls rs + (fillL L u).length + (fillL L v).length) := Nat.mul_le_mul (by omega) (by omega)
 have h5 := gS_mono (unb (B.set i v)) (Nat.le_trans h3 h4)
 show _ < _ + 1 + _
 omega
theorem rko_small {sg : List Int} {B : List (List Int)} {L : Nat → List Int} {rk : Nat → Nat} (h : Res sg B L rk) (hv : ∀ i, Vb 48 (bd B i)) : ∃ rk', Rko B rk' ∧ ∀ i, rk' i ≤ 48 := by
 refine ⟨fun i => (List.range 48).countP fun j => decide (rk j < rk i), ?_, fun i => ?_⟩
 ·intro i z hz h0
  have h1 := h.rnk i z hz h0
  have h2 := (hv i).vr hz h0
  have key : ∀ n, (List.range n).countP (fun j => decide (rk j < rk (vr z))) + (if vr z < n then 1 else 0) ≤ (List.range n).countP fun j => decide (rk j < rk i) := by
   intro n
   induction n with
   | zero => simp
   | succ n ih =>
    rw [List.range_succ, List.countP_append, List.countP_append, List.countP_singleton, List.countP_singleton]
    by_cases e : n = vr z
    ·have a1 : (if vr z < n + 1 then 1 else 0) = (1 : Nat) := if_pos (by omega)
     have a2 : (if vr z < n then 1 else 0) = (0 : Nat) := if_neg (by omega)
     have a3 : ¬ decide (rk n < rk (vr z)) = true := by rw [e]; simp
     have a4 : decide (rk n < rk i) = true := by rw [e]; simpa using h1
     rw [a1, if_neg a3, if_pos a4]
     rw [a2] at ih
     omega
    ·have a1 : (if vr z < n + 1 then 1 else 0) = (if vr z < n then 1 else (0 : Nat)) := by
      by_cases h3 : vr z < n
      ·rw [if_pos h3, if_pos (by omega)]
      ·rw [if_neg h3, if_neg (by omega)]
     rw [a1]
     by_cases h3 : rk n < rk (vr z)
     ·have a5 : decide (rk n < rk (vr z)) = true := by simpa using h3
      have a6 : decide (rk n < rk i) = true := by simp; omega
      rw [if_pos a5, if_pos a6]
      omega
     ·have a5 : ¬ decide (rk n < rk (vr z)) = true := by simpa using h3
      have a7 : 0 ≤ (if decide (rk n < rk i) = true then 1 else (0 : Nat)) := Nat.zero_le _
      rw [if_neg a5]
      omega
  have := key 48
  rw [if_pos h2] at this
  exact this
 ·have := List.countP_le_length (p := fun j => decide (rk j < rk i)) (l := List.range 48)
  simpa using this
inductive Chn (B : List (List Int)) : List Int → List (List Int) → Nat → Prop
 | base (a : List Int) (g : List (List Int)) (ha : a.length ≤ 61) (hg : g.length ≤ 3) (h : ∀ v ∈ g, ∀ rk, Rko B rk → pot rk v < pot rk a) : Chn B a g 0
 | push (a u : List Int) (ls g : List (List Int)) (k : Nat) (hc : Chn B a ls k) (hu : ∀ rk, Rko B rk → pot rk u < pot rk a) (hg : g.length ≤ 3) (h : ∀ v ∈ g, ∀ rk, Rko B rk → pot rk v < pot rk u) : Chn B u (ls ++ g) (k + 1)
theorem Chn.len {a : List Int} {k : Nat} (h : Chn B a ls k) : ls.length ≤ 3 * (k + 1) := by
 induction h with
 | base a g ha hg h => omega
 | push a u ls g k hc hu hg h ih => rw [List.length_append]; omega
theorem Chn.down {a : List Int} {k : Nat} (h : Chn B a ls k) : ∃ a0 : List Int, a0.length ≤ 61 ∧ ∀ rk, Rko B rk → pot rk a + k ≤ pot rk a0 := by
 induction h with
 | base a g ha hg h => exact ⟨a, ha, fun rk _ => by omega⟩
 | push a u ls g k hc hu hg h ih =>
  obtain ⟨a0, ha, h0⟩ := ih
  exact ⟨a0, ha, fun rk hr => by have := h0 rk hr; have := hu rk hr; omega⟩
theorem Chn.pop {a u : List Int} {k : Nat} (h : Chn B a (ls ++ [u]) k) : ∃ a' k', Chn B a' ls k' ∧ ∀ rk, Rko B rk → pot rk u < pot rk a' := by
 generalize hL : ls ++ [u] = M at h
 induction h generalizing ls with
 | base a g ha hg h =>
  subst hL
  refine ⟨a, 0, .base a ls ha (by simp at hg; omega) fun v hv => h v (List.mem_append_left _ hv), h u (List.mem_append_right _ (List.mem_cons_self ..))⟩
 | push a v ms g k hc hu hg h ih =>
  rcases List.eq_nil_or_concat g with e | ⟨g', y, e⟩
  ·subst e
   rw [List.append_nil] at hL
   exact ih hL
  ·rw [List.concat_eq_append] at e
   subst e
   rw [← List.append_assoc] at hL
   obtain ⟨h1, h2⟩ := List.append_inj' hL rfl
   injection h2 with h2
   subst h1 h2
   exact ⟨v, k + 1, .push a v ms g' k hc hu (by simp at hg; omega) fun z hz => h z (List.mem_append_left _ hz), h u (List.mem_append_right _ (List.mem_cons_self ..))⟩
theorem Chn.small {a : List Int} {k : Nat} {sg : List Int} {L : Nat → List Int} {rk : Nat → Nat} (h : Chn B a ls k) (hR : Res sg B L rk) (hv : ∀ i, Vb 48 (bd B i)) : ls.length ≤ 10000 := by
 obtain ⟨rk', h1, h2⟩ := rko_small hR hv
 obtain ⟨a0, h3, h4⟩ := h.down
 have h5 := h4 rk' h1
 have h6 : mr rk' a0 ≤ 49 := mr_le fun z _ _ => by have := h2 (vr z); omega
 have h7 := h.len
 unfold pot at h5
 omega
theorem rko_less {i : Nat} {v : List Int} (hi : i < B.length) (hb : bd B i = []) {rk : Nat → Nat} (h : Rko (B.set i v) rk) : Rko B rk := by
 intro j z hz h0
 have hji : ¬ j = i := fun e => by rw [e, hb] at hz; cases hz
 exact h j z (by rw [bd_set hi, if_neg hji]; exact hz) h0
theorem Chn.bind {a : List Int} {k i : Nat} {v : List Int} (h : Chn B a ls k) (hi : i < B.length) (hb : bd B i = []) : Chn (B.set i v) a ls k := by
 induction h with
 | base a g ha hg h => exact .base a g ha hg fun u hu rk hr => h u hu rk (rko_less hi hb hr)
 | push a u ls g k hc hu hg h ih => exact .push a u ls g k ih (fun rk hr => hu rk (rko_less hi hb hr)) hg fun y hy rk hr => h y hy rk (rko_less hi hb hr)
structure MguS (sg s t : List Int) (L : Nat → List Int) : Prop where
 uni : Unis sg s t L
 gen : ∀ θ, Unis sg s t θ → ∀ i, fillL θ (L i) = θ i
theorem Mid.start (K : Nat) (hs : Fo sg 1 s ∧ Vb K s) (ht : Fo sg 1 t ∧ Vb K t) : Mid sg s t K (List.replicate K []) [s] [t] := by
 have hbd : ∀ i, bd (List.replicate K []) i = [] := by
  intro i
  unfold bd
  by_cases hi : i < K <;> simp [List.getD, hi]
 refine ⟨rfl, by simpa using hs, by simpa using ht, by simp, fun i => (by rw [hbd]; exact ⟨by simp, fun x hx => by cases hx⟩), fun θ _ => ?_⟩
 constructor
 ·intro h
  exact ⟨fun i hi => absurd (hbd i) hi, by simpa using h⟩
 ·rintro ⟨-, h⟩
  simpa using h
theorem Res.start (sg : List Int) (K : Nat) : Res sg (List.replicate K []) vt fun _ => 0 := by
 have hbd : ∀ i, bd (List.replicate K []) i = [] := by
  intro i
  unfold bd
  by_cases hi : i < K <;> simp [List.getD, hi]
 exact ⟨fun i => Fo.vt i, fun _ _ => rfl, fun i hi => absurd (hbd i) hi, fun i z hz => (by rw [hbd] at hz; cases hz), fun i hi => absurd (hbd i) hi⟩
theorem Mid.end (h : Mid sg s t K B [] []) (hR : Res sg B L rk) : MguS sg s t L :=
 ⟨⟨hR.sb, (h.iff L hR.sb).2 ⟨hR.sol, rfl⟩⟩, fun θ hθ i => hR.gen ((h.iff θ hθ.1).1 hθ.2).1 _ i (Nat.le_refl _)⟩
end triMath
end
section
namespace occMath
open sig term fillMath matchMath unifMath forest triMath
def sn (S : List Bool) (i : Nat) : Prop := S.getD i false = true
def Cn (B : List (List Int)) (x : Int) (S : List Bool) (z : Int) : Prop := z < 0 → z ≠ x ∧ (bd B (vr z) ≠ [] → sn S (vr z))
def Cl (B : List (List Int)) (x : Int) (S : List Bool) (u : List Int) : Prop := ∀ z ∈ u, Cn B x S z
structure Oc (sg : List Int) (B : List (List Int)) (L : Nat → List Int) (x : Int) (t : List Int) (S : List Bool) (D : List (List Int)) (cur : List Int) (k : Nat) : Prop where
 len : S.length = 48
 q1 : t ∈ D ∨ t = cur ∨ Cl B x S t
 s : ∀ y, sn S y → bd B y ≠ [] ∧ (bd B y ∈ D ∨ bd B y = cur ∨ Cl B x S (bd B y))
 d : ∀ u ∈ D, Fo sg 1 u ∧ Vb 48 u ∧ ∀ z ∈ fillL L u, z < 0 → z ∈ fillL L t
 c : Fo sg 1 cur ∧ Vb 48 cur ∧ ∀ z ∈ fillL L cur, z < 0 → z ∈ fillL L t
 p : ∀ j, j < k → Cn B x S (cur.getD j 0)
variable {sg : List Int} {B : List (List Int)} {L : Nat → List Int} {rk : Nat → Nat} {x : Int} {t : List Int} {S : List Bool} {D : List (List Int)} {cur : List Int} {k : Nat}
theorem Cn.more {S' : List Bool} {z : Int} (h : Cn B x S z) (hs : ∀ i, sn S i → sn S' i) : Cn B x S' z := fun h0 => ⟨(h h0).1, fun hb => hs _ ((h h0).2 hb)⟩
theorem sn_set {i j : Nat} (hi : i < S.length) : sn (S.set i true) j ↔ j = i ∨ sn S j := by
 unfold sn
 by_cases h : j = i
 ·subst h; simp [List.getD, hi]
 ·simp [List.getD, h, Ne.symm h]
theorem sn_new (n i : Nat) : ¬ sn (List.replicate n false) i := by
 unfold sn
 by_cases h : i < n <;> simp [List.getD, h]
def uns (S : List Bool) : Nat := S.countP fun b => !b
theorem uns_set {i : Nat} (hi : i < S.length) (h : ¬ sn S i) : uns (S.set i true) + 1 = uns S := by
 unfold uns
 induction S generalizing i with
 | nil => simp at hi
 | cons b S ih =>
  cases i with
  | zero =>
   have hb : b = false := by unfold sn at h; simpa using h
   subst hb
   simp
  | succ i =>
   have ih := ih (i := i) (by simpa using hi) (by unfold sn at h ⊢; simpa using h)
   rw [List.set_cons_succ]
   cases b <;> simp <;> omega
theorem Oc.start (ht : Fo sg 1 t) (hv : Vb 48 t) : Oc sg B L x t (List.replicate 48 false) [] t 0 :=
 ⟨by simp, .inr (.inl rfl), fun y hy => absurd hy (sn_new 48 y), fun u hu => (by cases hu), ⟨ht, hv, fun _ h _ => h⟩, fun j hj => absurd hj (Nat.not_lt_zero j)⟩
theorem Oc.pass (h : Oc sg B L x t S D cur k) (hz : Cn B x S (cur.getD k 0)) : Oc sg B L x t S D cur (k + 1) :=
 ⟨h.len, h.q1, h.s, h.d, h.c, fun j hj => by
  by_cases e : j = k
  ·rw [e]; exact hz
  ·exact h.p j (by omega)⟩
theorem Oc.mark (h : Oc sg B L x t S D cur k) (hR : Res sg B L rk) (hV : ∀ i, Vb 48 (bd B i)) {i : Nat} (hi : i < 48) (hk : k < cur.length) (hz : cur.getD k 0 = -1 - (i : Int)) (hb : bd B i ≠ []) (hx : cur.getD k 0 ≠ x) : Oc sg B L x t (S.set i true) (D ++ [bd B i]) cur (k + 1) := by
 have hil : i < S.length := by rw [h.len]; exact hi
 have hs : ∀ j, sn S j → sn (S.set i true) j := fun j hj => (sn_set hil).2 (.inr hj)
 have hm : ∀ {u : List Int}, u ∈ D → u ∈ D ++ [bd B i] := fun hu => List.mem_append_left _ hu
 have hc : ∀ {u : List Int}, Cl B x S u → Cl B x (S.set i true) u := fun hc z hz => (hc z hz).more hs
 have hmem : (-1 - (i : Int)) ∈ cur := by
  rw [← hz, List.getD_eq_getElem?_getD, List.getElem?_eq_getElem hk]
  exact List.getElem_mem hk
 refine ⟨by rw [List.length_set]; exact h.len, ?_, ?_, ?_, h.c, ?_⟩
 ·rcases h.q1 with e | e | e
  ·exact .inl (hm e)
  ·exact .inr (.inl e)
  ·exact .inr (.inr (hc e))
 ·intro y hy
  rcases (sn_set hil).1 hy with e | e
  ·rw [e]
   exact ⟨hb, .inl (List.mem_append_right _ (List.mem_cons_self ..))⟩
  ·obtain ⟨h1, h2⟩ := h.s y e
   refine ⟨h1, ?_⟩
   rcases h2 with e | e | e
   ·exact .inl (hm e)
   ·exact .inr (.inl e)
   ·exact .inr (.inr (hc e))
 ·intro u hu
  rcases List.mem_append.1 hu with e | e
  ·exact h.d u e
  ·rw [List.mem_singleton.1 e]
   refine ⟨hR.fo i hb, hV i, fun z hz h0 => h.c.2.2 z ?_ h0⟩
   rw [← hR.bnd i hb] at hz
   have h0 : (-1 - (i : Int)) < 0 := by omega
   refine mem_fill hmem h0 ?_
   rw [vr_at]
   exact hz
 ·intro j hj
  by_cases e : j = k
  ·intro _
   rw [e]
   refine ⟨hx, fun _ => (sn_set hil).2 (.inl ?_)⟩
   rw [hz, vr_at]
  ·exact (h.p j (by omega)).more hs
theorem Oc.pop {u : List Int} (h : Oc sg B L x t S (D ++ [u]) cur k) (hk : cur.length ≤ k) : Oc sg B L x t S D u 0 := by
 have hc : Cl B x S cur := by
  intro z hz
  obtain ⟨j, hj, rfl⟩ := List.mem_iff_getElem.1 hz
  have := h.p j (by omega)
  simpa [List.getD, hj] using this
 have hD : ∀ {v : List Int}, v ∈ D ++ [u] ∨ v = cur ∨ Cl B x S v → v ∈ D ∨ v = u ∨ Cl B x S v := by
  rintro v (e | e | e)
  ·rcases List.mem_append.1 e with e | e
   ·exact .inl e
   ·exact .inr (.inl (List.mem_singleton.1 e))
  ·rw [e]; exact .inr (.inr hc)
  ·exact .inr (.inr e)
 exact ⟨h.len, hD h.q1, fun y hy => ⟨(h.s y hy).1, hD (h.s y hy).2⟩, fun v hv => h.d v (List.mem_append_left _ hv), h.d u (List.mem_append_right _ (List.mem_cons_self ..)), fun j hj => absurd hj (Nat.not_lt_zero j)⟩
theorem Oc.found (h : Oc sg B L x t S D cur k) (hR : Res sg B L rk) (hx : x < 0) (hb : bd B (vr x) = []) (hk : k < cur.length) (e : cur.getD k 0 = x) : x ∈ fillL L t := by
 refine h.c.2.2 x ?_ hx
 have hm : x ∈ cur := by
  rw [← e, List.getD_eq_getElem?_getD, List.getElem?_eq_getElem hk]
  exact List.getElem_mem hk
 refine mem_fill hm hx ?_
 rw [hR.free _ hb]
 unfold vt
 rw [at_vr hx]
 exact List.mem_cons_self ..
theorem Oc.done (h : Oc sg B L x t S [] cur k) (hR : Res sg B L rk) (hx : x < 0) (hk : cur.length ≤ k) : x ∉ fillL L t := by
 have hc : Cl B x S cur := by
  intro z hz
  obtain ⟨j, hj, rfl⟩ := List.mem_iff_getElem.1 hz
  have := h.p j (by omega)
  simpa [List.getD, hj] using this
 have hcl : ∀ {v : List Int}, v ∈ ([] : List (List Int)) ∨ v = cur ∨ Cl B x S v → Cl B x S v := by
  rintro v (e | e | e)
  ·cases e
  ·rw [e]; exact hc
  ·exact e
 have hct := hcl h.q1
 have key : ∀ n y, rk y ≤ n → sn S y → x ∉ L y := by
  intro n
  induction n with
  | zero =>
   intro y hy hs hm
   obtain ⟨h1, h2⟩ := h.s y hs
   rw [hR.bnd y h1] at hm
   obtain ⟨z, hz, h0, hm⟩ := fill_mem hm hx
   have := hR.rnk y z hz h0
   omega
  | succ n ih =>
   intro y hy hs hm
   obtain ⟨h1, h2⟩ := h.s y hs
   rw [hR.bnd y h1] at hm
   obtain ⟨z, hz, h0, hm⟩ := fill_mem hm hx
   have h3 := hR.rnk y z hz h0
   obtain ⟨h4, h5⟩ := hcl h2 z hz h0
   by_cases hb : bd B (vr z) = []
   ·rw [hR.free _ hb] at hm
    unfold vt at hm
    rw [at_vr h0, List.mem_singleton] at hm
    exact h4 hm.symm
   ·exact ih (vr z) (by omega) (h5 hb) hm
 intro hm
 obtain ⟨z, hz, h0, hm⟩ := fill_mem hm hx
 obtain ⟨h4, h5⟩ := hct z hz h0
 by_cases hb : bd B (vr z) = []
 ·rw [hR.free _ hb] at hm
  unfold vt at hm
  rw [at_vr h0, List.mem_singleton] at hm
  exact h4 hm.symm
 ·exact key _ (vr z) (Nat.le_refl _) (h5 hb) hm
end occMath
end
section
namespace appAt
open Go.RowKit base ints marks app
set_option maxRecDepth 100000
theorem blk_own (A : Option Addr) (n c : Nat) : (Value.slice A n c).ownBlock = blk A := by cases A <;> rfl
theorem appAllAt {w : World} {ops : Array Oper} {rest : List Oper} {o : Oper} {a : Act} {Q : Exit → Act → World → Prop} (hgd : o.guard = none) (s x : Operand)
  (ho : o.op = .call { callee := .builtin .append, args := #[s, x], argTypes := #[22, 22] })
  (base : Nat) (A : Option Addr) (n c : Nat) (xs : List Int) (hs : a.eval s = .slice A n c) (hown : Own w base (.slice A n c) xs)
  (S : Option Addr) (m c2 B : Nat) (ys : List Int) (hx : a.eval x = .slice S m c2) (hseg : Seg w B S m ys) (hm1 : 1 ≤ m) (hn : n ≤ 2097152) (hm : m ≤ 2097152) (hbase : base ≤ w.heap.size)
  (h : ∀ A' c' w', Own w' base (.slice A' (n + m) c') (xs ++ ys) → w.grownBy w' (blk A) → (blk A' = blk A ∨ blk A' = some w.heap.size) → wpList Tryz.prog ops Q rest (a.put o.dst (.slice A' (n + m) c')) w') : wpList Tryz.prog ops Q (o :: rest) a w := by
 obtain ⟨i0, hi, hz0, hz1, hz2⟩ := info_parts info_i64
 have hl : xs.length = n := by
  obtain ⟨A', c', e⟩ := hown.slice
  injection e with _ e _
  exact e.symm
 have ho1 : w.ownsRow base 2 1 (.slice A n c) n (xs.map (Value.int .i64)) := by rw [← hl]; rw [← hl] at hown; exact hown
 obtain ⟨b, off, e, _, hc⟩ := hseg.2 (by omega)
 subst e
 refine wpList_append_own_at w hgd s x 22 ho base 2 i0 (.int .i64 0) 1 8 Tryz.underlying22 hi hz0 hz1 hz2 rfl (by decide) (.slice A n c) n (xs.map (Value.int .i64)) hs ho1
  ⟨b, off, none⟩ m c2 (ys.map (Value.int .i64)) hx (by simp [hseg.1]) (fun j u hj => ?_) (fun u hu => ?_) (by unfold maxLen; omega) (by omega) hbase ?_
 ·have hjl : j < m := by
   have := (List.getElem?_eq_some_iff.1 hj).1
   simp at this
   have := hseg.1
   omega
  have hcj := hc j hjl
  have e2 : (⟨b, off, none⟩ : Addr).add j = ⟨b, off + j, none⟩ := by unfold Addr.add; split <;> simp_all
  rw [e2, hcj, ← hj]
  have := hseg.1
  simp [List.getD, show j < ys.length by omega]
 ·obtain ⟨y, _, rfl⟩ := List.mem_map.1 hu
  rfl
 ·intro v' w' hown' hg _ hat
  rw [← List.map_append] at hown'
  obtain ⟨A', c', rfl, ho'⟩ := own_of hown'
  rw [blk_own] at hg
  rw [blk_own, blk_own] at hat
  exact h A' c' w' ho' hg hat
theorem Own.kept {w w' : World} {base : Nat} {A : Option Addr} {n c : Nat} {xs : List Int} {r : Option Nat} (h : Own w base (.slice A n c) xs) (hg : w.grownBy w' r) (hne : blk A = none ∨ blk A ≠ r) : Own w' base (.slice A n c) xs :=
 World.ownsRow.kept h hg (by rw [blk_own]; exact hne)
end appAt
end
section
namespace segs
open Go.RowKit base ints marks app sym appAt
set_option maxRecDepth 100000
def Cap (A : Option Addr) (n c : Nat) : Prop := n ≤ c ∧ c ≤ 9223372036854775807 ∧ (A = none → c = 0)
def Segs (w : World) (B : Nat) (A : Option Addr) (n : Nat) (xss : List (List Int)) : Prop :=
 xss.length = n ∧ (0 < n → ∃ b off, A = some ⟨b, off, none⟩ ∧ b < B ∧ ∀ j, j < n → ∃ A' n' c', w.cell? ⟨b, off + j, none⟩ = some (.slice A' n' c') ∧ Seg w B A' n' (xss.getD j []) ∧ Cap A' n' c')
section
variable {w w' : World} {B B' n : Nat} {A : Option Addr} {xss : List (List Int)}
theorem Segs.spot (h : Segs w B A n xss) {k : Nat} (hk : k < n) : ∃ b off A' n' c', A = some ⟨b, off, none⟩ ∧ b < B ∧ w.cell? ⟨b, off + k, none⟩ = some (.slice A' n' c') ∧ Seg w B A' n' (xss.getD k []) ∧ Cap A' n' c' := by
 obtain ⟨b, off, e, hb, hc⟩ := h.2 (by omega)
 obtain ⟨A', n', c', h1, h2, h3⟩ := hc k hk
 exact ⟨b, off, A', n', c', e, hb, h1, h2, h3⟩
theorem Segs.keep (h : Segs w B A n xss) (hk : ∀ p : Addr, p.block < B → w'.cell? p = w.cell? p) : Segs w' B A n xss :=
 ⟨h.1, fun hn => by
  obtain ⟨b, off, e, hb, hc⟩ := h.2 hn
  refine ⟨b, off, e, hb, fun j hj => ?_⟩
  obtain ⟨A', n', c', h1, h2, h3⟩ := hc j hj
  exact ⟨A', n', c', (hk ⟨b, off + j, none⟩ hb).trans h1, h2.keep hk, h3⟩⟩
theorem Segs.more (h : Segs w B A n xss) (hB : B ≤ B') : Segs w B' A n xss :=
 ⟨h.1, fun hn => by
  obtain ⟨b, off, e, hb, hc⟩ := h.2 hn
  refine ⟨b, off, e, by omega, fun j hj => ?_⟩
  obtain ⟨A', n', c', h1, h2, h3⟩ := hc j hj
  exact ⟨A', n', c', h1, h2.more hB, h3⟩⟩
theorem Segs.below (h : Segs w B A n xss) (hb : Below B w w') : Segs w' B A n xss := h.keep fun _ hp => hb.cell hp
theorem Segs.next (h : Segs w w.heap.size A n xss) (hb : Below w.heap.size w w') : Segs w' w'.heap.size A n xss := (h.below hb).more hb.size
theorem Segs.drew (h : Segs w B A n xss) : Segs w.drew B A n xss := h
theorem Segs.alloc (h : Segs w B A n xss) (hB : B ≤ w.heap.size) (o : Obj) : Segs (w.alloc o) B A n xss := h.keep fun p hp => World.cell?_alloc_lt w o p (by omega)
structure Btw (lo hi : Nat) (w w' : World) : Prop where
 os : w'.os = w.os
 tape : w'.tape = w.tape
 output : w'.output = w.output
 size : w.heap.size ≤ w'.heap.size
 block : ∀ k, k < w.heap.size → (k < lo ∨ hi ≤ k) → w'.heap[k]? = w.heap[k]?
theorem Btw.trans {lo hi : Nat} {a b c : World} (h : Btw lo hi a b) (k : Btw lo hi b c) : Btw lo hi a c :=
 ⟨k.os.trans h.os, k.tape.trans h.tape, k.output.trans h.output, Nat.le_trans h.size k.size, fun i hi' ho => (k.block i (Nat.lt_of_lt_of_le hi' h.size) ho).trans (h.block i hi' ho)⟩
theorem Btw.of_grown {lo hi : Nat} {r : Option Nat} (h : w.grownBy w' r) (hr : ∀ k, r = some k → lo ≤ k ∧ k < hi) : Btw lo hi w w' :=
 ⟨h.os, h.tape, h.output, h.size, fun k hk ho => h.block k hk (fun e => by have := hr k e.symm; omega)⟩
theorem Btw.below {lo hi : Nat} (h : Btw lo hi w w') (hB : B ≤ lo) (hs : B ≤ w.heap.size) : Below B w w' := ⟨h.os, h.tape, h.output, h.size, fun k hk => h.block k (by omega) (.inl (by omega))⟩
theorem Below.btw {a : World} {lo hi : Nat} (h : Below B a w) (k : Btw lo hi w w') (hB : B ≤ lo) (hs : B ≤ w.heap.size) : Below B a w' := h.trans (k.below hB hs)
theorem Row.btw {g : Nat} {t : TypeId} {cs : Array Value} {lo hi : Nat} (h : Row w g t cs) (hb : Btw lo hi w w') (hg : g < lo ∨ hi ≤ g) : Row w' g t cs := (hb.block g h.lt hg).trans h
theorem Row.ne_ {g g' : Nat} {t t' : TypeId} {cs cs' : Array Value} (h : Row w g t cs) (h' : Row w g' t' cs') (hne : t ≠ t') : g ≠ g' := by
 rintro rfl
 unfold Row at h h'
 rw [h] at h'
 injection h' with h'
 injection h' with _ ht
 exact hne ht
end
def Inn (w : World) (lo hi : Nat) (v : Value) (xs : List Int) : Prop := ∃ A c, v = .slice A xs.length c ∧ Own w lo v xs ∧ ∀ k, blk A = some k → k < hi
def Apart (n : Nat) (vs : List Value) : Prop := ∀ i j k, i < j → j < n → (vs.getD i undef).ownBlock = some k → (vs.getD j undef).ownBlock ≠ some k
structure Owns (w : World) (lo hi : Nat) (A : Option Addr) (n c : Nat) (xss : List (List Int)) : Prop where
 len : xss.length = n
 row : ∃ vs : List Value, w.ownsRow lo 22 1 (.slice A n c) n vs ∧ (∀ j, j < n → Inn w lo hi (vs.getD j undef) (xss.getD j [])) ∧ Apart n vs
 top : ∀ k, blk A = some k → k < hi
section
variable {w w' : World} {lo hi n c : Nat} {A : Option Addr} {xss : List (List Int)}
theorem own_form {base n c : Nat} {A : Option Addr} {vs : List Value} {t : TypeId} (h : w.ownsRow base t 1 (.slice A n c) n vs) : (A = none ∧ n = 0 ∧ c = 0 ∧ vs = []) ∨
  ∃ g cur, A = some ⟨g, 0, none⟩ ∧ base ≤ g ∧ Row w g t cur ∧ n ≤ c ∧ cur.size = c ∧ c ≤ 9223372036854775807 ∧ vs.length = n ∧ ∀ j, j < n → cur[j]? = some (vs.getD j undef) := by
 have hl : vs.length = n := by have := h.1; omega
 obtain ⟨h1, h2⟩ := h
 rcases h2 with ⟨e, h0⟩ | ⟨g, cap, cur, e, hb, hg, hn, hm, hs, ht⟩
 ·have e1 := (Value.slice.inj e)
  obtain ⟨rfl, rfl, rfl⟩ := e1
  exact .inl ⟨rfl, rfl, rfl, List.eq_nil_of_length_eq_zero hl⟩
 ·have e1 := (Value.slice.inj e)
  obtain ⟨rfl, -, rfl⟩ := e1
  refine .inr ⟨g, cur, rfl, hb, hg, hn, by omega, by unfold maxLen at hm; omega, hl, fun j hj => ?_⟩
  have h3 : (cur.toList.take (n * 1))[j]? = vs[j]? := by rw [ht]
  rw [List.getElem?_take, if_pos (by omega)] at h3
  rw [← Array.getElem?_toList, h3]
  simp [List.getD, show j < vs.length by omega]
theorem Inn.blk {v : Value} {xs : List Int} (h : Inn w lo hi v xs) : ∀ k, v.ownBlock = some k → lo ≤ k ∧ k < hi ∧ k < w.heap.size := fun k hk => by
 obtain ⟨A, c, rfl, ho, ht⟩ := h
 have h1 := World.ownsRow.lt ho k hk
 rw [blk_own] at hk
 exact ⟨h1.1, ht k hk, h1.2⟩
theorem Inn.kept {v : Value} {xs : List Int} {r : Option Nat} (h : Inn w lo hi v xs) (hg : w.grownBy w' r) (hne : v.ownBlock = none ∨ v.ownBlock ≠ r) : Inn w' lo hi v xs := by
 obtain ⟨A, c, rfl, ho, ht⟩ := h
 exact ⟨A, c, rfl, World.ownsRow.kept ho hg hne, ht⟩
theorem Inn.next {v : Value} {xs : List Int} (h : Inn w lo hi v xs) (hb : Below w.heap.size w w') : Inn w' lo hi v xs := by
 obtain ⟨A, c, rfl, ho, ht⟩ := h
 exact ⟨A, c, rfl, ho.next hb, ht⟩
theorem Inn.cap {v : Value} {xs : List Int} (h : Inn w lo hi v xs) : ∃ A c, v = .slice A xs.length c ∧ Own w lo v xs ∧ Cap A xs.length c := by
 obtain ⟨A, c, rfl, ho, ht⟩ := h
 refine ⟨A, c, rfl, ho, ?_⟩
 rcases own_form (n := xs.length) (vs := xs.map (Value.int .i64)) ho with ⟨rfl, h1, rfl, _⟩ | ⟨g, cur, rfl, _, _, h1, h2, h3, _⟩
 ·exact ⟨by omega, by omega, fun _ => rfl⟩
 ·exact ⟨h1, h3, fun e => by cases e⟩
theorem Owns.segs (h : Owns w lo hi A n c xss) : Segs w w.heap.size A n xss := by
 obtain ⟨vs, hr, hi', _⟩ := h.row
 refine ⟨h.len, fun hn => ?_⟩
 rcases own_form hr with ⟨_, e, _⟩ | ⟨g, cur, rfl, _, hrow, _, _, _, _, hc⟩
 ·omega
 ·refine ⟨g, 0, rfl, hrow.lt, fun j hj => ?_⟩
  obtain ⟨A', c', e, ho, hcap⟩ := (hi' j hj).cap
  refine ⟨A', _, c', ?_, Own.seg (by rw [← e]; exact ho), hcap⟩
  rw [Nat.zero_add, hrow.cell j, hc j hj, e]
theorem Owns.rd (h : Owns w lo hi A n c xss) : Segs w w.heap.size A n xss := h.segs
theorem Owns.cap (h : Owns w lo hi A n c xss) : Cap A n c := by
 obtain ⟨vs, hr, _⟩ := h.row
 rcases own_form hr with ⟨rfl, h1, rfl, _⟩ | ⟨g, cur, rfl, _, _, h1, h2, h3, _⟩
 ·exact ⟨by omega, by omega, fun _ => rfl⟩
 ·exact ⟨h1, h3, fun e => by cases e⟩
theorem Owns.next (h : Owns w lo hi A n c xss) (hb : Below w.heap.size w w') : Owns w' lo hi A n c xss := by
 obtain ⟨h1, ⟨vs, hr, hi', ha⟩, h3⟩ := h
 refine ⟨h1, ⟨vs, ?_, fun j hj => (hi' j hj).next hb, ha⟩, h3⟩
 exact World.ownsRow.kept hr ⟨hb.os, hb.tape, hb.output, hb.size, fun k hk _ => hb.block k hk⟩ (row := none) (by cases (Value.slice A n c).ownBlock <;> simp)
theorem Owns.wider {lo' hi' : Nat} (h : Owns w lo hi A n c xss) (h1 : lo' ≤ lo) (h2 : hi ≤ hi') : Owns w lo' hi' A n c xss := by
 obtain ⟨h3, ⟨vs, hr, hin, ha⟩, h5⟩ := h
 have low : ∀ {t : TypeId} {v : Value} {m : Nat} {us : List Value}, w.ownsRow lo t 1 v m us → w.ownsRow lo' t 1 v m us := fun {t v m us} ho => by
  obtain ⟨q1, q2⟩ := ho
  refine ⟨q1, ?_⟩
  rcases q2 with q2 | ⟨g, cap, cur, hv, hg, r⟩
  ·exact .inl q2
  ·exact .inr ⟨g, cap, cur, hv, Nat.le_trans h1 hg, r⟩
 refine ⟨h3, ⟨vs, low hr, fun j hj => ?_, ha⟩, fun k hk => Nat.lt_of_lt_of_le (h5 k hk) h2⟩
 obtain ⟨A', c', e, ho, ht⟩ := hin j hj
 exact ⟨A', c', e, low ho, fun k hk => Nat.lt_of_lt_of_le (ht k hk) h2⟩
theorem Owns.btw {lo' hi' : Nat} (h : Owns w lo hi A n c xss) (hb : Btw lo' hi' w w') (ho : hi ≤ lo' ∨ hi' ≤ lo) : Owns w' lo hi A n c xss := by
 obtain ⟨h1, ⟨vs, hr, hin, ha⟩, h3⟩ := h
 have key : ∀ {t : TypeId} {m : Nat} {v : Value} {us : List Value}, w.ownsRow lo t 1 v m us → (∀ k, v.ownBlock = some k → k < hi) → w'.ownsRow lo t 1 v m us := fun {t m v us} hr ht => by
  obtain ⟨q1, q2⟩ := hr
  refine ⟨q1, ?_⟩
  rcases q2 with q2 | ⟨g, cap, cur, hv, hg, hh, r⟩
  ·exact .inl q2
  ·have h5 := ht g (by rw [hv]; rfl)
   refine .inr ⟨g, cap, cur, hv, hg, ?_, r⟩
   have hlt : g < w.heap.size := (Array.getElem?_eq_some_iff.1 hh).1
   exact (hb.block g hlt (by omega)).trans hh
 refine ⟨h1, ⟨vs, key hr (fun k hk => h3 k (by rw [blk_own] at hk; exact hk)), fun j hj => ?_, ha⟩, h3⟩
 obtain ⟨A', c', e, ho', ht⟩ := hin j hj
 exact ⟨A', c', e, key ho' (fun k hk => ht k (by rw [e, blk_own] at hk; exact hk)), ht⟩
theorem Owns.nil (w : World) (lo hi : Nat) : Owns w lo hi none 0 0 [] :=
 ⟨rfl, ⟨[], World.ownsRow_nil w lo 22 1, fun j hj => absurd hj (Nat.not_lt_zero _), fun i j k _ hj => absurd hj (Nat.not_lt_zero _)⟩, fun k hk => by cases hk⟩
end
theorem Inn.ne {w : World} {lo hi g : Nat} {v : Value} {xs : List Int} {cs : Array Value} (h : Inn w lo hi v xs) (hr : Row w g 22 cs) : v.ownBlock ≠ some g := by
 obtain ⟨A, c, rfl, ho, _⟩ := h
 rcases own_form (n := xs.length) ho with ⟨rfl, _⟩ | ⟨g', cur', rfl, _, hrow', _⟩
 ·intro e; cases e
 ·intro e
  have e2 : g' = g := by simpa [Value.ownBlock] using e
  exact Row.ne_ hr hrow' (by decide) e2.symm
theorem Inn.wider {w : World} {lo hi lo' hi' : Nat} {v : Value} {xs : List Int} (h : Inn w lo hi v xs) (h1 : lo' ≤ lo) (h2 : hi ≤ hi') : Inn w lo' hi' v xs := by
 obtain ⟨A, c, rfl, ho, ht⟩ := h
 exact ⟨A, c, rfl, Own.lower ho h1, fun k hk => Nat.lt_of_lt_of_le (ht k hk) h2⟩
theorem rowsOf {w : World} {base g n c : Nat} {t : TypeId} {cs : Array Value} (hr : Row w g t cs) (hs : cs.size = c) (hn : n ≤ c) (hm : c ≤ 9223372036854775807) (hb : base ≤ g) : w.ownsRow base t 1 (.slice (some ⟨g, 0, none⟩) n c) n (cs.toList.take n) :=
 ⟨by simp; omega, .inr ⟨g, c, cs, rfl, hb, hr, hn, by unfold maxLen; omega, by omega, by simp⟩⟩
end segs
end
section
namespace segsHelp
open Go.RowKit base ints sig cursor marks app sym appAt segs
set_option maxRecDepth 100000
theorem info_list : (Tryz.prog.info? 22).map (fun i => (i.zero, i.size, i.bytes)) = some (some (.slice none 0 0), 1, 24) := by kernel_rfl
theorem run_make_lists (n : Nat) (hn : n ≤ 1048576) (W : World) : (Instr.makeSlice 61 (.int .i64 (n : Int)) (.int .i64 (n : Int))).run Tryz.prog W =
  .ok (.slice (some ⟨W.heap.size, 0, none⟩) n n) (W.alloc (.cells (madeCells #[.slice none 0 0] n) 22)) := by
 obtain ⟨i0, hi, hz0, hz1, hz2⟩ := info_parts info_list
 have hr := run_make (P := Tryz.prog) W 61 22 i0 _ Tryz.underlying61 hi hz0 .i64 .i64 n n (by omega) (by omega) (by rw [hz2]; omega) (by omega)
 simpa [hz1, Value.cells] using hr
def sumL (xss : List (List Int)) (k : Nat) : Nat := ((xss.take k).map List.length).sum
def tot (xss : List (List Int)) : Nat := xss.length + sumL xss xss.length
theorem sumL_succ {xss : List (List Int)} {k : Nat} (h : k < xss.length) : sumL xss (k + 1) = sumL xss k + (xss.getD k []).length := by
 unfold sumL
 rw [List.take_succ_eq_append_getElem h, List.map_append, List.sum_append]
 simp [List.getD, h]
theorem sumL_mono {xss : List (List Int)} : ∀ {k m : Nat}, k ≤ m → m ≤ xss.length → sumL xss k ≤ sumL xss m
 | k, 0, h, _ => by rw [show k = 0 by omega]; exact Nat.le_refl _
 | k, m + 1, h, hm => by
  by_cases e : k = m + 1
  ·rw [e]; exact Nat.le_refl _
  ·have := sumL_mono (xss := xss) (show k ≤ m by omega) (by omega)
   rw [sumL_succ (by omega)]
   omega
theorem tot_each {xss : List (List Int)} {L : Nat} (h : tot xss ≤ L) : ∀ j, (xss.getD j []).length ≤ L := fun j => by
 by_cases hj : j < xss.length
 ·have h1 := sumL_succ hj
  have h2 := sumL_mono (xss := xss) (show j + 1 ≤ xss.length by omega) (Nat.le_refl _)
  unfold tot at h
  omega
 ·rw [show xss.getD j [] = [] by simp [List.getD, hj]]
  simp
theorem tot_len {xss : List (List Int)} {L n : Nat} (hl : xss.length = n) (h : tot xss ≤ L) : n ≤ L := by unfold tot at h; omega
end segsHelp
end
section
namespace segsMark
open Go.RowKit base ints sig cursor marks app sym appAt segs segsHelp
set_option maxRecDepth 100000
end segsMark
end
section
namespace kinds
open Go.RowKit base ints sig cursor marks app sym appAt segs segsHelp segsMark
set_option maxRecDepth 100000
def Ownd (w : World) (lo hi : Nat) (A : Option Addr) (n c : Nat) (xs : List Int) : Prop := Own w lo (.slice A n c) xs ∧ ∀ k, blk A = some k → k < hi
section
variable {w w' : World} {lo hi n c : Nat} {A : Option Addr} {xs : List Int}
theorem Ownd.rd (h : Ownd w lo hi A n c xs) : Seg w w.heap.size A n xs := Own.seg h.1
theorem Ownd.next (h : Ownd w lo hi A n c xs) (hb : Below w.heap.size w w') : Ownd w' lo hi A n c xs := ⟨h.1.next hb, h.2⟩
theorem Ownd.of_own (h : Own w lo (.slice A n c) xs) : Ownd w lo w.heap.size A n c xs := ⟨h, fun k hk => (World.ownsRow.lt h k (by rw [blk_own]; exact hk)).2⟩
theorem Ownd.cap (h : Ownd w lo hi A n c xs) : Cap A n c := by
 have hl := Own.len h.1
 rcases own_form (n := n) (vs := xs.map (Value.int .i64)) (by rw [hl]; have := h.1; rw [hl] at this; exact this) with ⟨rfl, h1, rfl, _⟩ | ⟨g, cur, rfl, _, _, h1, h2, h3, _⟩
 ·exact ⟨by omega, by omega, fun _ => rfl⟩
 ·exact ⟨h1, h3, fun e => by cases e⟩
theorem drew_below (w : World) : Below w.heap.size w w.drew := ⟨rfl, rfl, rfl, Nat.le_refl _, fun _ _ => rfl⟩
theorem drewN_below (w : World) (d : Nat) : Below w.heap.size w (w.drewN d) := ⟨rfl, rfl, rfl, Nat.le_refl _, fun _ _ => rfl⟩
end
def CopyInts (w : World) (n : Nat) (xs : List Int) (e : Ending) (w' : World) : Prop := ∃ g, e = .returned (.slice (some ⟨g, 0, none⟩) n n) ∧ Ownd w' w.heap.size w'.heap.size (some ⟨g, 0, none⟩) n n xs ∧ w.heap.size < w'.heap.size ∧ Below w.heap.size w w'
theorem intsTo (A : Option Addr) (n c : Nat) (xs : List Int) (w : World) (h : Seg w w.heap.size A n xs) (hn : n ≤ 1048576) :
  Calls Tryz.prog 52 #[.slice A n c] w (CopyInts w n xs) :=
 (toInts A n c xs w h hn).mono fun _ _ ⟨cs, he, hr, hs, hc, hz, hb⟩ => ⟨w.heap.size, he, Ownd.of_own (Own.of_row hr h.1 hs (Nat.le_refl _) (by omega) (Nat.le_refl _) hc), by omega, hb⟩
theorem intsEq (A A' : Option Addr) (n n' c c' : Nat) (xs : List Int) (w : World) (h : Seg w w.heap.size A n xs) (h' : Seg w w.heap.size A' n' xs) (hn : n ≤ 1048576) :
  Calls Tryz.prog 19 #[.slice A n c, .slice A' n' c'] w fun e w' => e = .returned (.bool true) ∧ Below w.heap.size w w' := by
 obtain rfl : n = n' := by rw [← h.1, ← h'.1]
 exact (eqYes A A' n c c' xs w h h' hn).mono fun _ _ ⟨he, d, hd⟩ => ⟨he, by rw [hd]; exact drewN_below _ _⟩
theorem owns_put {w : World} {lo hi n c b : Nat} {A : Option Addr} {xss : List (List Int)} {t : TypeId} {cs : Array Value} (h : Owns w lo hi A n c xss) (hr : Row w b t cs) (hb : b < lo) (i : Nat) (u : Value) : Owns (w.setCell ⟨b, i, none⟩ u) lo hi A n c xss :=
 h.btw (lo' := b) (hi' := b + 1) (Btw.of_grown (grown_put (World.grownBy.refl _ _) _ _) (fun k hk => by injection hk; omega)) (.inr (by omega))
end kinds
end
section
namespace shape
open Go.RowKit base ints sig cursor marks app sym appAt segs segsHelp segsMark kinds
inductive Sh where
 | num : Sh
 | bit : Sh
 | row : TypeId → Sh → Sh
 | cat : Sh → Sh → Sh
@[reducible] def Dat : Sh → Type
 | .num => Int
 | .bit => Bool
 | .row _ s => List (Dat s)
 | .cat a b => Dat a × Dat b
def nc : Sh → Nat
 | .num => 1
 | .bit => 1
 | .row _ _ => 1
 | .cat a b => nc a + nc b
def dft : (s : Sh) → Dat s
 | .num => (0 : Int)
 | .bit => false
 | .row _ _ => []
 | .cat a b => (dft a, dft b)
def Piece (w : World) (b off : Nat) (es : List Value) : Prop := ∀ i, i < es.length → w.cell? ⟨b, off + i, none⟩ = es[i]?
theorem nc_pos : ∀ s : Sh, 1 ≤ nc s
 | .num => Nat.le_refl _
 | .bit => Nat.le_refl _
 | .row _ _ => Nat.le_refl _
 | .cat a b => Nat.le_trans (nc_pos a) (Nat.le_add_right _ _)
def Rd (w : World) (B : Nat) : (s : Sh) → List Value → Dat s → Prop
 | .num, cs, (x : Int) => cs = [.int .i64 x]
 | .bit, cs, (x : Bool) => cs = [.bool x]
 | .row _ s, cs, (d : List (Dat s)) => ∃ A n c, cs = [.slice A n c] ∧ Cap A n c ∧ d.length = n ∧
   (0 < n → ∃ b off, A = some ⟨b, off, none⟩ ∧ b < B ∧ ∀ j, j < n → ∃ es, es.length = nc s ∧ Piece w b (off + j * nc s) es ∧ Rd w B s es (d.getD j (dft s)))
 | .cat a b, cs, d => ∃ ca cb, cs = ca ++ cb ∧ Rd w B a ca d.1 ∧ Rd w B b cb d.2
def Ow (w : World) : (s : Sh) → List Value → Dat s → List Nat → Prop
 | .num, cs, (x : Int), F => cs = [.int .i64 x] ∧ F = []
 | .bit, cs, (x : Bool), F => cs = [.bool x] ∧ F = []
 | .row e s, cs, (d : List (Dat s)), F => ∃ A n c, cs = [.slice A n c] ∧ d.length = n ∧
   ((A = none ∧ n = 0 ∧ c = 0 ∧ F = []) ∨ ∃ (g : Nat) (cur : Array Value) (E : Nat → List Value) (G : Nat → List Nat), A = some ⟨g, 0, none⟩ ∧ Row w g e cur ∧ n ≤ c ∧ c ≤ 9223372036854775807 ∧ cur.size = c * nc s ∧
    F = g :: (List.range n).flatMap G ∧ ∀ j, j < n → (E j).length = nc s ∧ (∀ i, i < nc s → cur[j * nc s + i]? = (E j)[i]?) ∧ Ow w s (E j) (d.getD j (dft s)) (G j))
 | .cat a b, cs, d, F => ∃ ca cb Fa Fb, cs = ca ++ cb ∧ F = Fa ++ Fb ∧ Ow w a ca d.1 Fa ∧ Ow w b cb d.2 Fb
section
variable {w w' : World} {B B' : Nat}
theorem Rd.len : ∀ {s : Sh} {cs : List Value} {d : Dat s}, Rd w B s cs d → cs.length = nc s
 | .num, _, _, h => by have h : _ = _ := h; rw [h]; rfl
 | .bit, _, _, h => by have h : _ = _ := h; rw [h]; rfl
 | .row _ _, _, _, h => by obtain ⟨A, n, c, e, _⟩ := h; rw [e]; rfl
 | .cat a b, _, _, h => by
  obtain ⟨ca, cb, e, h1, h2⟩ := h
  rw [e, List.length_append, h1.len, h2.len]; rfl
theorem Piece.keep {b off : Nat} {es : List Value} (h : Piece w b off es) (hk : ∀ p : Addr, p.block = b → w'.cell? p = w.cell? p) : Piece w' b off es := fun i hi => (hk _ rfl).trans (h i hi)
theorem Rd.keep (hk : ∀ p : Addr, p.block < B → w'.cell? p = w.cell? p) : ∀ {s : Sh} {cs : List Value} {d : Dat s}, Rd w B s cs d → Rd w' B s cs d
 | .num, _, _, h => h
 | .bit, _, _, h => h
 | .row _ s, _, _, h => by
  obtain ⟨A, n, c, e, hc, hl, h1⟩ := h
  refine ⟨A, n, c, e, hc, hl, fun hn => ?_⟩
  obtain ⟨b, off, e2, hb, h2⟩ := h1 hn
  refine ⟨b, off, e2, hb, fun j hj => ?_⟩
  obtain ⟨es, he, hp, hr⟩ := h2 j hj
  exact ⟨es, he, hp.keep (fun p hp => hk p (by rw [hp]; exact hb)), hr.keep hk⟩
 | .cat a b, _, _, h => by
  obtain ⟨ca, cb, e, h1, h2⟩ := h
  exact ⟨ca, cb, e, h1.keep hk, h2.keep hk⟩
theorem Rd.more (hB : B ≤ B') : ∀ {s : Sh} {cs : List Value} {d : Dat s}, Rd w B s cs d → Rd w B' s cs d
 | .num, _, _, h => h
 | .bit, _, _, h => h
 | .row _ s, _, _, h => by
  obtain ⟨A, n, c, e, hc, hl, h1⟩ := h
  refine ⟨A, n, c, e, hc, hl, fun hn => ?_⟩
  obtain ⟨b, off, e2, hb, h2⟩ := h1 hn
  refine ⟨b, off, e2, by omega, fun j hj => ?_⟩
  obtain ⟨es, he, hp, hr⟩ := h2 j hj
  exact ⟨es, he, hp, hr.more hB⟩
 | .cat a b, _, _, h => by
  obtain ⟨ca, cb, e, h1, h2⟩ := h
  exact ⟨ca, cb, e, h1.more hB, h2.more hB⟩
theorem Rd.below {s : Sh} {cs : List Value} {d : Dat s} (h : Rd w B s cs d) (hb : Below B w w') : Rd w' B s cs d := h.keep fun _ hp => hb.cell hp
theorem Rd.next {s : Sh} {cs : List Value} {d : Dat s} (h : Rd w w.heap.size s cs d) (hb : Below w.heap.size w w') : Rd w' w'.heap.size s cs d := (h.below hb).more hb.size
theorem Ow.len : ∀ {s : Sh} {cs : List Value} {d : Dat s} {F : List Nat}, Ow w s cs d F → cs.length = nc s
 | .num, _, _, _, h => by obtain ⟨e, _⟩ := h; rw [e]; rfl
 | .bit, _, _, _, h => by obtain ⟨e, _⟩ := h; rw [e]; rfl
 | .row _ _, _, _, _, h => by obtain ⟨A, n, c, e, _⟩ := h; rw [e]; rfl
 | .cat a b, _, _, _, h => by
  obtain ⟨ca, cb, Fa, Fb, e, _, h1, h2⟩ := h
  rw [e, List.length_append, h1.len, h2.len]; rfl
theorem Ow.keep : ∀ {s : Sh} {cs : List Value} {d : Dat s} {F : List Nat}, Ow w s cs d F → (∀ k ∈ F, w'.heap[k]? = w.heap[k]?) → Ow w' s cs d F
 | .num, _, _, _, h, _ => h
 | .bit, _, _, _, h, _ => h
 | .row e s, _, _, F, h, hk => by
  obtain ⟨A, n, c, e1, hl, h1⟩ := h
  refine ⟨A, n, c, e1, hl, ?_⟩
  rcases h1 with h1 | ⟨g, cur, E, G, e2, hr, h2, h3, h4, h5, h6⟩
  ·exact .inl h1
  ·subst h5
   refine .inr ⟨g, cur, E, G, e2, (hk g (List.mem_cons_self ..)).trans hr, h2, h3, h4, rfl, fun j hj => ?_⟩
   obtain ⟨q1, q2, q3⟩ := h6 j hj
   exact ⟨q1, q2, q3.keep fun k hkG => hk k (List.mem_cons_of_mem _ (List.mem_flatMap.2 ⟨j, List.mem_range.2 hj, hkG⟩))⟩
 | .cat a b, _, _, F, h, hk => by
  obtain ⟨ca, cb, Fa, Fb, e, e2, h1, h2⟩ := h
  subst e2
  exact ⟨ca, cb, Fa, Fb, e, rfl, h1.keep fun k h => hk k (List.mem_append_left _ h), h2.keep fun k h => hk k (List.mem_append_right _ h)⟩
theorem Ow.lt : ∀ {s : Sh} {cs : List Value} {d : Dat s} {F : List Nat}, Ow w s cs d F → ∀ k ∈ F, k < w.heap.size
 | .num, _, _, _, h, k, hk => by obtain ⟨_, e⟩ := h; rw [e] at hk; cases hk
 | .bit, _, _, _, h, k, hk => by obtain ⟨_, e⟩ := h; rw [e] at hk; cases hk
 | .row e s, _, _, F, h, k, hk => by
  obtain ⟨A, n, c, e1, hl, h1⟩ := h
  rcases h1 with ⟨_, _, _, h1⟩ | ⟨g, cur, E, G, e2, hr, h2, h3, h4, h5, h6⟩
  ·rw [h1] at hk; cases hk
  ·rw [h5] at hk
   rcases List.mem_cons.1 hk with hk | hk
   ·rw [hk]; exact hr.lt
   ·obtain ⟨j, hj, hk⟩ := List.mem_flatMap.1 hk
    exact (h6 j (List.mem_range.1 hj)).2.2.lt k hk
 | .cat a b, _, _, F, h, k, hk => by
  obtain ⟨ca, cb, Fa, Fb, e, e2, h1, h2⟩ := h
  rw [e2] at hk
  rcases List.mem_append.1 hk with hk | hk
  ·exact h1.lt k hk
  ·exact h2.lt k hk
theorem Ow.next {s : Sh} {cs : List Value} {d : Dat s} {F : List Nat} (h : Ow w s cs d F) (hb : Below w.heap.size w w') : Ow w' s cs d F := h.keep fun k hk => hb.block k (h.lt k hk)
theorem Ow.rd : ∀ {s : Sh} {cs : List Value} {d : Dat s} {F : List Nat}, Ow w s cs d F → Rd w w.heap.size s cs d
 | .num, _, _, _, h => h.1
 | .bit, _, _, _, h => h.1
 | .row e s, _, _, F, h => by
  obtain ⟨A, n, c, e1, hl, h1⟩ := h
  rcases h1 with ⟨rfl, rfl, rfl, _⟩ | ⟨g, cur, E, G, e2, hr, h2, h3, h4, h5, h6⟩
  ·exact ⟨none, 0, 0, e1, ⟨by omega, by omega, fun _ => rfl⟩, hl, fun h => absurd h (by omega)⟩
  ·refine ⟨A, n, c, e1, ⟨h2, h3, fun e => by rw [e] at e2; cases e2⟩, hl, fun hn => ⟨g, 0, e2, hr.lt, fun j hj => ?_⟩⟩
   obtain ⟨q1, q2, q3⟩ := h6 j hj
   refine ⟨E j, q1, fun i hi => ?_, q3.rd⟩
   rw [Nat.zero_add, hr.cell, q2 i (by omega)]
 | .cat a b, _, _, F, h => by
  obtain ⟨ca, cb, Fa, Fb, e, e2, h1, h2⟩ := h
  exact ⟨ca, cb, e, h1.rd, h2.rd⟩
def Owned (w : World) (lo hi : Nat) (s : Sh) (cs : List Value) (d : Dat s) : Prop := ∃ F, Ow w s cs d F ∧ F.Nodup ∧ ∀ k ∈ F, lo ≤ k ∧ k < hi
variable {lo hi : Nat} {s : Sh} {cs : List Value} {d : Dat s}
theorem Owned.rd (h : Owned w lo hi s cs d) : Rd w w.heap.size s cs d := by obtain ⟨F, h, _⟩ := h; exact h.rd
theorem Owned.next (h : Owned w lo hi s cs d) (hb : Below w.heap.size w w') : Owned w' lo hi s cs d := by obtain ⟨F, h, h2⟩ := h; exact ⟨F, h.next hb, h2⟩
theorem Owned.drew (h : Owned w lo hi s cs d) : Owned w.drew lo hi s cs d := h.next (drew_below w)
theorem Owned.wider {lo' hi' : Nat} (h : Owned w lo hi s cs d) (h1 : lo' ≤ lo) (h2 : hi ≤ hi') : Owned w lo' hi' s cs d := by
 obtain ⟨F, h, h3, h4⟩ := h
 exact ⟨F, h, h3, fun k hk => by have := h4 k hk; omega⟩
theorem Owned.put {g i : Nat} {u : Value} (h : Owned w lo hi s cs d) (hg : g < lo ∨ hi ≤ g) : Owned (w.setCell ⟨g, i, none⟩ u) lo hi s cs d := by
 obtain ⟨F, h, h3, h4⟩ := h
 exact ⟨F, h.keep fun k hk => Below.heap_setCell w _ u k (by have := h4 k hk; show k ≠ g; omega), h3, h4⟩
theorem Owned.cat {mid mid' : Nat} {a b : Sh} {ca cb : List Value} {da : Dat a} {db : Dat b} (h1 : Owned w lo mid a ca da) (h2 : Owned w mid' hi b cb db) (hm : mid ≤ mid') (hl : lo ≤ mid') (hh : mid ≤ hi) : Owned w lo hi (.cat a b) (ca ++ cb) (da, db) := by
 obtain ⟨F, h1, n1, b1⟩ := h1
 obtain ⟨G, h2, n2, b2⟩ := h2
 refine ⟨F ++ G, ⟨ca, cb, F, G, rfl, rfl, h1, h2⟩, List.nodup_append.2 ⟨n1, n2, fun x hx y hy e => ?_⟩, fun k hk => ?_⟩
 ·have := b1 x hx; have := b2 y hy; omega
 ·rcases List.mem_append.1 hk with hk | hk
  ·have := b1 k hk; omega
  ·have := b2 k hk; omega
end
abbrev sI : Sh := .row 2 .num
section
variable {w w' : World} {B : Nat}
theorem rd_ints {v : Value} {xs : List Int} : Rd w B sI [v] xs ↔ ∃ A n c, v = .slice A n c ∧ Seg w B A n xs ∧ Cap A n c := by
 constructor
 ·rintro ⟨A, n, c, e, hc, hl, h⟩
  refine ⟨A, n, c, by injection e, ⟨hl, fun hn => ?_⟩, hc⟩
  obtain ⟨b, off, e2, hb, h2⟩ := h hn
  refine ⟨b, off, e2, hb, fun j hj => ?_⟩
  obtain ⟨es, he, hp, hr⟩ := h2 j hj
  have hr : es = [.int .i64 (xs.getD j 0)] := hr
  have := hp 0 (by rw [hr]; simp)
  rw [hr] at this
  simpa [nc] using this
 ·rintro ⟨A, n, c, rfl, h, hc⟩
  refine ⟨A, n, c, rfl, hc, h.1, fun hn => ?_⟩
  obtain ⟨b, off, e2, hb, h2⟩ := h.2 hn
  refine ⟨b, off, e2, hb, fun j hj => ⟨[.int .i64 (xs.getD j 0)], rfl, fun i hi => ?_, rfl⟩⟩
  have hi : i = 0 := by simpa using hi
  subst hi
  first | (simp [nc]; done) | (simpa [nc] using h2 j hj)
theorem Rd.seg {A : Option Addr} {n c : Nat} {xs : List Int} (h : Rd w B sI [.slice A n c] xs) : Seg w B A n xs := by
 obtain ⟨A', n', c', e, h, _⟩ := rd_ints.1 h
 injection e with e1 e2 e3
 subst e1 e2
 exact h
theorem ow_ints {lo hi : Nat} {A : Option Addr} {n c : Nat} {xs : List Int} : Owned w lo hi sI [.slice A n c] xs ↔ Ownd w lo hi A n c xs := by
 constructor
 ·rintro ⟨F, ⟨A', n', c', e, hl, h⟩, _, hb⟩
  injection e with e
  injection e with e1 e2 e3
  subst e1 e2 e3
  rcases h with ⟨rfl, rfl, rfl, rfl⟩ | ⟨g, cur, E, G, rfl, hr, h2, h3, h4, rfl, h6⟩
  ·have hx : xs = [] := List.eq_nil_of_length_eq_zero hl
   subst hx
   exact ⟨Own.nil _ _, fun k hk => by cases hk⟩
  ·have hg := hb g (List.mem_cons_self ..)
   refine ⟨Own.of_row hr hl (by simpa [nc] using h4) h2 h3 hg.1 fun j hj => ?_, fun k hk => by have : g = k := Option.some.inj hk; omega⟩
   obtain ⟨q1, q2, q3⟩ := h6 j hj
   have q3 : E j = [.int .i64 (xs.getD j 0)] := q3.1
   have := q2 0 (by simp [nc])
   rw [q3] at this
   simpa [nc] using this
 ·rintro ⟨ho, hb⟩
  have hl := Own.len ho
  rcases own_form (n := n) (vs := xs.map (Value.int .i64)) (by rw [hl]; rw [hl] at ho; exact ho) with ⟨rfl, h1, rfl, _⟩ | ⟨g, cur, rfl, hlo, hr, h1, h2, h3, _, h5⟩
  ·subst h1
   exact ⟨[], ⟨none, 0, 0, rfl, hl.symm, .inl ⟨rfl, rfl, rfl, rfl⟩⟩, List.nodup_nil, fun k hk => by cases hk⟩
  ·have hg := hb g rfl
   refine ⟨[g], ⟨some ⟨g, 0, none⟩, n, c, rfl, hl.symm, .inr ⟨g, cur, fun j => [.int .i64 (xs.getD j 0)], fun _ => [], rfl, hr, h1, h3, by simp [nc, h2], ?_, fun j hj => ⟨rfl, fun i hi => ?_, rfl, rfl⟩⟩⟩, by simp, fun k hk => ?_⟩
   ·have : ∀ l : List Nat, l.flatMap (fun _ => ([] : List Nat)) = [] := fun l => by induction l <;> simp_all
    rw [this]
   ·have hi : i = 0 := by simpa [nc] using hi
    subst hi
    have := h5 j hj
    simp only [nc, Nat.mul_one, Nat.add_zero]
    rw [this]
    have hj' : j < xs.length := by omega
    simp [List.getD, hj']
   ·rw [List.mem_singleton.1 hk]; exact ⟨hlo, hg⟩
end
def sz : (s : Sh) → Dat s → Nat
 | .num, _ => 0
 | .bit, _ => 0
 | .row _ s, (d : List (Dat s)) => d.length + (d.map (sz s)).sum
 | .cat a b, d => sz a d.1 + sz b d.2
def szs (s : Sh) (d : List (Dat s)) (k : Nat) : Nat := ((d.take k).map (sz s)).sum
theorem szs_succ {s : Sh} {d : List (Dat s)} {k : Nat} (h : k < d.length) : szs s d (k + 1) = szs s d k + sz s (d.getD k (dft s)) := by
 unfold szs
 rw [List.take_succ_eq_append_getElem h, List.map_append, List.sum_append]
 simp [List.getD, h]
theorem szs_mono {s : Sh} {d : List (Dat s)} : ∀ {k m : Nat}, k ≤ m → m ≤ d.length → szs s d k ≤ szs s d m
 | k, 0, h, _ => by rw [show k = 0 by omega]; exact Nat.le_refl _
 | k, m + 1, h, hm => by
  by_cases e : k = m + 1
  ·rw [e]; exact Nat.le_refl _
  ·have := szs_mono (d := d) (show k ≤ m by omega) (by omega)
   rw [szs_succ (by omega)]
   omega
theorem szs_all {s : Sh} {d : List (Dat s)} {n : Nat} (h : d.length = n) : szs s d n = (d.map (sz s)).sum := by unfold szs; rw [List.take_of_length_le (by omega)]
theorem sz_row {e : TypeId} {s : Sh} {d : List (Dat s)} : sz (.row e s) d = d.length + szs s d d.length := by rw [szs_all rfl]; rfl
theorem sz_each {e : TypeId} {s : Sh} {d : List (Dat s)} {L : Nat} (h : sz (.row e s) d ≤ L) {j : Nat} (hj : j < d.length) : sz s (d.getD j (dft s)) ≤ L := by
 have h1 := szs_succ hj
 have h2 := szs_mono (d := d) (show j + 1 ≤ d.length by omega) (Nat.le_refl _)
 rw [sz_row] at h
 omega
theorem sz_len {e : TypeId} {s : Sh} {d : List (Dat s)} {L : Nat} (h : sz (.row e s) d ≤ L) : d.length ≤ L := by rw [sz_row] at h; omega
theorem sz_ints (xs : List Int) : sz sI xs = xs.length := by
 have : ∀ l : List Int, (l.map (sz .num)).sum = 0 := fun l => by induction l <;> simp_all [sz]
 show xs.length + (xs.map (sz .num)).sum = _
 rw [this]; rfl
def cnt : (s : Sh) → Dat s → Nat
 | .num, _ => 1
 | .bit, _ => 1
 | .row _ s, (d : List (Dat s)) => (d.map (cnt s)).sum
 | .cat a b, d => cnt a d.1 + cnt b d.2
def cnts (s : Sh) (d : List (Dat s)) (k : Nat) : Nat := ((d.take k).map (cnt s)).sum
def mkc : (s : Sh) → Int → Dat s → Dat s
 | .num, k, _ => k
 | .bit, k, _ => decide (k % 3 = 0)
 | .row _ s, k, (d : List (Dat s)) => (List.range d.length).map fun j => mkc s (k + (cnts s d j : Int)) (d.getD j (dft s))
 | .cat a b, k, d => (mkc a k d.1, mkc b (k + (cnt a d.1 : Int)) d.2)
def wd : Sh → Nat
 | .num => 1
 | .bit => 1
 | .row _ s => wd s
 | .cat a b => wd a + wd b
theorem sum_le {α : Type} {f g : α → Nat} {C : Nat} : ∀ {l : List α}, (∀ x ∈ l, f x ≤ C * (1 + g x)) → (l.map f).sum ≤ C * (l.length + (l.map g).sum)
 | [], _ => Nat.zero_le _
 | x :: l, h => by
  have h1 := h x (List.mem_cons_self ..)
  have h2 := sum_le (l := l) fun y hy => h y (List.mem_cons_of_mem _ hy)
  simp only [List.map_cons, List.sum_cons, List.length_cons]
  have e : C * (l.length + 1 + (g x + (l.map g).sum)) = C * (1 + g x) + C * (l.length + (l.map g).sum) := by rw [← Nat.mul_add]; congr 1; omega
  omega
theorem cnt_le : ∀ (s : Sh) (d : Dat s), cnt s d ≤ wd s * (1 + sz s d)
 | .num, _ => by simp [cnt, wd]
 | .bit, _ => by simp [cnt, wd]
 | .row _ s, (d : List (Dat s)) => by
  have h := sum_le (f := cnt s) (g := sz s) (C := wd s) (l := d) fun x _ => cnt_le s x
  show (d.map (cnt s)).sum ≤ wd s * (1 + (d.length + (d.map (sz s)).sum))
  have : wd s * (d.length + (d.map (sz s)).sum) ≤ wd s * (1 + (d.length + (d.map (sz s)).sum)) := Nat.mul_le_mul_left _ (by omega)
  omega
 | .cat a b, d => by
  have h1 := cnt_le a d.1
  have h2 := cnt_le b d.2
  show cnt a d.1 + cnt b d.2 ≤ (wd a + wd b) * (1 + (sz a d.1 + sz b d.2))
  have h3 : wd a * (1 + sz a d.1) ≤ wd a * (1 + (sz a d.1 + sz b d.2)) := Nat.mul_le_mul_left _ (by omega)
  have h4 : wd b * (1 + sz b d.2) ≤ wd b * (1 + (sz a d.1 + sz b d.2)) := Nat.mul_le_mul_left _ (by omega)
  rw [Nat.add_mul]
  omega
end shape
end
section
namespace shape
open Go.RowKit base ints sig cursor marks app sym appAt segs segsHelp segsMark kinds
structure Only (F : List Nat) (w w' : World) : Prop where
 os : w'.os = w.os
 tape : w'.tape = w.tape
 output : w'.output = w.output
 size : w.heap.size ≤ w'.heap.size
 block : ∀ k, k < w.heap.size → k ∉ F → w'.heap[k]? = w.heap[k]?
section
variable {w w' w2 : World} {B : Nat} {s : Sh} {e : TypeId} {v : Value} {F G : List Nat}
theorem Only.trans (h : Only F w w') (k : Only F w' w2) : Only F w w2 :=
 ⟨k.os.trans h.os, k.tape.trans h.tape, k.output.trans h.output, Nat.le_trans h.size k.size, fun i hi ho => (k.block i (Nat.lt_of_lt_of_le hi h.size) ho).trans (h.block i hi ho)⟩
theorem Ow.only {cs : List Value} {d : Dat s} (h : Ow w s cs d F) (ho : Only G w w') (hd : ∀ k ∈ F, k ∉ G) : Ow w' s cs d F := h.keep fun k hk => ho.block k (h.lt k hk) (hd k hk)
theorem Rd.elem {D : List (Dat s)} {j : Nat} (h : Rd w B (.row e s) [v] D) (hj : j < D.length) : ∃ b off n c es, v = .slice (some ⟨b, off, none⟩) n c ∧ D.length = n ∧ n ≤ c ∧ b < B ∧ es.length = nc s ∧ Piece w b (off + j * nc s) es ∧ Rd w B s es (D.getD j (dft s)) := by
 obtain ⟨A, n, c, e1, hc, hl, h1⟩ := h
 injection e1 with e1
 subst hl
 obtain ⟨b, off, e2, hb, h2⟩ := h1 (by omega)
 obtain ⟨es, he, hp, hr⟩ := h2 j hj
 exact ⟨b, off, _, c, es, by rw [e1, e2], rfl, hc.1, hb, he, hp, hr⟩
theorem Rd.slice {D : List (Dat s)} (h : Rd w B (.row e s) [v] D) : ∃ A c, v = .slice A D.length c ∧ Cap A D.length c := by
 obtain ⟨A, n, c, e1, hc, hl, h1⟩ := h
 injection e1 with e1
 subst hl
 exact ⟨A, c, e1, hc⟩
def Copy1 (w : World) (s : Sh) (d : Dat s) (e : Ending) (w' : World) : Prop := ∃ A n c, e = .returned (.slice A n c) ∧ Owned w' w.heap.size w'.heap.size s [.slice A n c] d ∧ Below w.heap.size w w'
def AnsSzK (w : World) (left : Int) (t : Nat) (e : Ending) (w' : World) : Prop := e = .returned (.int .i64 (if left - t < 0 then -1 else left - t)) ∧ Below w.heap.size w w'
def Yes (w : World) (e : Ending) (w' : World) : Prop := e = .returned (.bool true) ∧ Below w.heap.size w w'
theorem szK_ints (v : Value) (xs : List Int) (left : Int) (w : World) (h : Rd w w.heap.size sI [v] xs) (h0 : 0 ≤ left) (h1 : left ≤ 1048576) :
  Calls Tryz.prog 47 #[v, .int .i64 left] w (AnsSzK w left (sz sI xs)) := by
 obtain ⟨A, n, c, rfl, hs, hc⟩ := rd_ints.1 h
 rw [sz_ints, hs.1]
 exact (szInts A n c left w (Nat.le_trans hc.1 hc.2.1) h0 h1).mono fun _ _ ⟨e1, e2⟩ => ⟨e2, e1 ▸ Below.refl _ _⟩
theorem toK_ints (v : Value) (xs : List Int) (w : World) (h : Rd w w.heap.size sI [v] xs) (hz : sz sI xs ≤ 1048576) :
  Calls Tryz.prog 52 #[v] w (Copy1 w sI xs) := by
 obtain ⟨A, n, c, rfl, hs, hc⟩ := rd_ints.1 h
 rw [sz_ints, hs.1] at hz
 exact (intsTo A n c xs w hs hz).mono fun _ _ ⟨g, e, ho, _, hb⟩ => ⟨_, _, _, e, ow_ints.2 ho, hb⟩
theorem eqK_ints (v v' : Value) (xs : List Int) (w : World) (h : Rd w w.heap.size sI [v] xs) (h' : Rd w w.heap.size sI [v'] xs) (hz : sz sI xs ≤ 1048576) :
  Calls Tryz.prog 19 #[v, v'] w (Yes w) := by
 obtain ⟨A, n, c, rfl, hs, hc⟩ := rd_ints.1 h
 obtain ⟨A', n', c', rfl, hs', hc'⟩ := rd_ints.1 h'
 rw [sz_ints, hs.1] at hz
 exact intsEq A A' n n' c c' xs w hs hs' hz
end
section
variable {s : Sh} {e : TypeId}
def HeadCp (w : World) (e : TypeId) (s : Sh) (n : Nat) (D : List (Dat s)) (i : Value) (wr : World) : Prop :=
 ∃ (k : Nat) (cs : Array Value) (E : Nat → List Value) (G : Nat → List Nat), k ≤ n ∧ i = .int .i64 k ∧ Row wr w.heap.size e cs ∧ cs.size = n * nc s ∧ ((List.range k).flatMap G).Nodup ∧
  (∀ j, j < k → (E j).length = nc s ∧ (∀ i, i < nc s → cs[j * nc s + i]? = (E j)[i]?) ∧ Ow wr s (E j) (D.getD j (dft s)) (G j) ∧ ∀ q ∈ G j, w.heap.size < q) ∧ Below w.heap.size w wr
theorem headCp_zero {w : World} {n : Nat} {D : List (Dat s)} {cs : Array Value} (hs : cs.size = n * nc s) : HeadCp w e s n D (.int .i64 0) (w.alloc (.cells cs e)) :=
 ⟨0, cs, fun _ => [], fun _ => [], Nat.zero_le _, rfl, Row.new _ _ _, hs, by simp, fun j hj => absurd hj (Nat.not_lt_zero _), (Below.refl _ _).alloc (Nat.le_refl _) _⟩
def putAll (w : World) (g : Nat) : Nat → List Value → World
 | _, [] => w
 | off, u :: r => putAll (w.setCell ⟨g, off, none⟩ u) g (off + 1) r
def rowPut (cs : Array Value) : Nat → List Value → Array Value
 | _, [] => cs
 | off, u :: r => rowPut (cs.setIfInBounds off u) (off + 1) r
theorem rowPut_size : ∀ {es : List Value} {cs : Array Value} {off : Nat}, (rowPut cs off es).size = cs.size
 | [], _, _ => rfl
 | u :: r, cs, off => by rw [rowPut, rowPut_size]; simp
theorem rowPut_get : ∀ {es : List Value} {cs : Array Value} {off q : Nat}, off + es.length ≤ cs.size → (rowPut cs off es)[q]? = if off ≤ q ∧ q < off + es.length then es[q - off]? else cs[q]?
 | [], cs, off, q, _ => by rw [rowPut, if_neg (by simp only [List.length_nil]; omega)]
 | u :: r, cs, off, q, h => by
  simp only [List.length_cons] at h
  rw [rowPut, rowPut_get (by simp; omega)]
  simp only [List.length_cons]
  by_cases e1 : q = off
  ·subst e1
   rw [if_neg (by omega), if_pos (by omega), Array.getElem?_setIfInBounds, if_pos rfl, if_pos (by omega)]
   simp
  ·by_cases e2 : off ≤ q ∧ q < off + (r.length + 1)
   ·rw [if_pos (by omega), if_pos e2]
    obtain ⟨m, rfl⟩ : ∃ m, q = off + 1 + m := ⟨q - off - 1, by omega⟩
    rw [show off + 1 + m - (off + 1) = m by omega, show off + 1 + m - off = m + 1 by omega, List.getElem?_cons_succ]
   ·rw [if_neg (by omega), if_neg e2, Array.getElem?_setIfInBounds, if_neg (by omega)]
theorem putAll_row {g : Nat} {t : TypeId} : ∀ {es : List Value} {w : World} {cs : Array Value} {off : Nat}, Row w g t cs → Row (putAll w g off es) g t (rowPut cs off es)
 | [], _, _, _, h => h
 | u :: r, w, cs, off, h => by rw [putAll, rowPut]; exact putAll_row (h.put off u)
theorem putAll_keep {g : Nat} : ∀ {es : List Value} {w : World} {off : Nat} {k : Nat}, k ≠ g → (putAll w g off es).heap[k]? = w.heap[k]?
 | [], _, _, _, _ => rfl
 | u :: r, w, off, k, h => by rw [putAll, putAll_keep h]; exact Below.heap_setCell w _ u k h
theorem putAll_below {g B : Nat} {a : World} : ∀ {es : List Value} {w : World} {off : Nat}, Below B a w → B ≤ g → Below B a (putAll w g off es)
 | [], _, _, h, _ => h
 | u :: r, w, off, h, hg => by rw [putAll]; exact putAll_below (h.setCell hg u) hg
theorem headCp_step {w wr w1 : World} {n k : Nat} {D : List (Dat s)} {cs : Array Value} {E : Nat → List Value} {G : Nat → List Nat} (hk : k < n) (hr : Row wr w.heap.size e cs) (hs : cs.size = n * nc s) (hn : ((List.range k).flatMap G).Nodup)
  (hi : ∀ j, j < k → (E j).length = nc s ∧ (∀ i, i < nc s → cs[j * nc s + i]? = (E j)[i]?) ∧ Ow wr s (E j) (D.getD j (dft s)) (G j) ∧ ∀ q ∈ G j, w.heap.size < q) (hb : Below w.heap.size w wr)
  {es : List Value} (ho : Owned w1 wr.heap.size w1.heap.size s es (D.getD k (dft s))) (bb : Below wr.heap.size wr w1) : HeadCp w e s n D (.int .i64 ((k : Int) + 1)) (putAll w1 w.heap.size (k * nc s) es) := by
 obtain ⟨F, ho, hnF, hF⟩ := ho
 have hz := hr.lt
 have hle : k * nc s + nc s ≤ cs.size := by
  have := Nat.mul_le_mul_right (nc s) (show k + 1 ≤ n by omega)
  rw [Nat.add_mul] at this
  omega
 have hel := ho.len
 have hfr : ∀ j, j < k → ∀ q ∈ G j, q < wr.heap.size := fun j hj => (hi j hj).2.2.1.lt
 refine ⟨k + 1, _, fun j => if j = k then es else E j, fun j => if j = k then F else G j, hk, by simp, putAll_row (hr.next bb), by rw [rowPut_size]; exact hs, ?_, fun j hj => ?_, putAll_below (hb.trans (bb.mono hb.size)) (Nat.le_refl _)⟩
 ·rw [List.range_succ, List.flatMap_append]
  have e1 : (List.range k).flatMap (fun j => if j = k then F else G j) = (List.range k).flatMap G := by
   rw [List.flatMap_def, List.flatMap_def]
   congr 1
   exact List.map_congr_left fun j hj => if_neg (by have := List.mem_range.1 hj; omega)
  rw [e1]
  refine List.nodup_append.2 ⟨hn, by simpa using hnF, fun x hx y hy e => ?_⟩
  obtain ⟨j, hj, hx⟩ := List.mem_flatMap.1 hx
  have h1 := hfr j (List.mem_range.1 hj) x hx
  have h2 := hF y (by simpa using hy)
  omega
 ·by_cases ej : j = k
  ·subst ej
   simp only [if_pos]
   refine ⟨hel, fun i hi2 => ?_, ho.keep fun q hq => putAll_keep (by have := hF q hq; omega), fun q hq => by have := hF q hq; omega⟩
   rw [rowPut_get (by omega), if_pos (by omega)]
   congr 1
   omega
  ·simp only [if_neg ej]
   obtain ⟨q1, q2, q3, q4⟩ := hi j (by omega)
   refine ⟨q1, fun i hi2 => ?_, (q3.next bb).keep fun q hq => putAll_keep (by have := q4 q hq; omega), q4⟩
   rw [rowPut_get (by omega), if_neg ?_]
   ·exact q2 i hi2
   ·have := Nat.mul_le_mul_right (nc s) (show j + 1 ≤ k by omega)
    rw [Nat.add_mul] at this
    omega
theorem headCp_end {w wr : World} {n : Nat} {D : List (Dat s)} {cs : Array Value} {E : Nat → List Value} {G : Nat → List Nat} (hl : D.length = n) (hm : n ≤ 1048576) (hr : Row wr w.heap.size e cs) (hs : cs.size = n * nc s) (hn : ((List.range n).flatMap G).Nodup)
  (hi : ∀ j, j < n → (E j).length = nc s ∧ (∀ i, i < nc s → cs[j * nc s + i]? = (E j)[i]?) ∧ Ow wr s (E j) (D.getD j (dft s)) (G j) ∧ ∀ q ∈ G j, w.heap.size < q) (hb : Below w.heap.size w wr) :
  Copy1 w (.row e s) D (.returned (.slice (some ⟨w.heap.size, 0, none⟩) n n)) wr := by
 refine ⟨_, _, _, rfl, ⟨w.heap.size :: (List.range n).flatMap G, ⟨_, n, n, rfl, hl, .inr ⟨w.heap.size, cs, E, G, rfl, hr, Nat.le_refl _, by omega, hs, rfl, fun j hj => ⟨(hi j hj).1, (hi j hj).2.1, (hi j hj).2.2.1⟩⟩⟩, List.nodup_cons.2 ⟨fun h => ?_, hn⟩, fun k hk => ?_⟩, hb⟩
 ·obtain ⟨j, hj, h⟩ := List.mem_flatMap.1 h
  have := (hi j (List.mem_range.1 hj)).2.2.2 _ h
  omega
 ·rcases List.mem_cons.1 hk with hk | hk
  ·rw [hk]; exact ⟨Nat.le_refl _, hr.lt⟩
  ·obtain ⟨j, hj, h⟩ := List.mem_flatMap.1 hk
   have h1 := (hi j (List.mem_range.1 hj)).2.2.2 _ h
   have h2 := (hi j (List.mem_range.1 hj)).2.2.1.lt _ h
   omega
def mixed (s : Sh) (k : Int) (D : List (Dat s)) (j : Nat) : List (Dat s) := (List.range D.length).map fun q => if q < j then mkc s (k + (cnts s D q : Int)) (D.getD q (dft s)) else D.getD q (dft s)
end
theorem Rd.split {w : World} {B : Nat} {a b : Sh} {ca cb : List Value} {d : Dat (.cat a b)} (h : Rd w B (.cat a b) (ca ++ cb) d) (hl : ca.length = nc a) : Rd w B a ca d.1 ∧ Rd w B b cb d.2 := by
 obtain ⟨ca', cb', e, h1, h2⟩ := h
 obtain ⟨rfl, rfl⟩ := List.append_inj e (by rw [hl, h1.len])
 exact ⟨h1, h2⟩
theorem Ow.split {w : World} {a b : Sh} {ca cb : List Value} {d : Dat (.cat a b)} {F : List Nat} (h : Ow w (.cat a b) (ca ++ cb) d F) (hl : ca.length = nc a) : ∃ Fa Fb, F = Fa ++ Fb ∧ Ow w a ca d.1 Fa ∧ Ow w b cb d.2 Fb := by
 obtain ⟨ca', cb', Fa, Fb, e, e2, h1, h2⟩ := h
 obtain ⟨rfl, rfl⟩ := List.append_inj e (by rw [hl, h1.len])
 exact ⟨Fa, Fb, e2, h1, h2⟩
theorem Row.only {w w' : World} {g : Nat} {t : TypeId} {cs : Array Value} {F : List Nat} (h : Row w g t cs) (ho : Only F w w') (hg : g ∉ F) : Row w' g t cs := (ho.block g h.lt hg).trans h
section
variable {s : Sh} {e : TypeId}
def HeadSzK (w : World) (n : Nat) (s : Sh) (D : List (Dat s)) (left : Int) (l i : Value) (wr : World) : Prop := ∃ k : Nat, k ≤ n ∧ i = .int .i64 k ∧ l = .int .i64 (left - n - szs s D k) ∧ 0 ≤ left - n - szs s D k ∧ Below w.heap.size w wr
theorem headSzK_zero {w : World} {n : Nat} {D : List (Dat s)} {left : Int} (h : 0 ≤ left - n) : HeadSzK w n s D left (.int .i64 (left - n)) (.int .i64 0) w := ⟨0, Nat.zero_le _, rfl, by simp [szs], by simp [szs]; omega, Below.refl _ _⟩
theorem headSzK_bad {n k t : Nat} {D : List (Dat s)} {left : Int} (hn : D.length = n) (hk : k < n) (hs : szs s D (k + 1) = szs s D k + t) (q : left - n - szs s D k - t < 0) : Ending.returned (.int .i64 (-1)) = .returned (.int .i64 (if left - (sz (.row e s) D : Nat) < 0 then -1 else left - (sz (.row e s) D : Nat))) := by
 have h2 := szs_mono (d := D) (show k + 1 ≤ D.length by omega) (Nat.le_refl _)
 rw [if_pos (by rw [sz_row]; omega)]
theorem headSzK_step {w w1 : World} {n k t : Nat} {D : List (Dat s)} {left l : Int} (hk : k < n) (hs : szs s D (k + 1) = szs s D k + t) (hl : left - n - szs s D k = l) (q : ¬ l - t < 0) (hb : Below w.heap.size w w1) : HeadSzK w n s D left (.int .i64 (l - t)) (.int .i64 ((k : Int) + 1)) w1 :=
 ⟨k + 1, hk, by simp, by rw [hs, ← hl]; exact congrArg (Value.int .i64) (by omega), by rw [hs]; omega, hb⟩
theorem headSzK_end {w wr : World} {n k : Nat} {D : List (Dat s)} {left : Int} (hn : D.length = n) (hk : ¬ k < n) (hk' : k ≤ n) (h : 0 ≤ left - n - szs s D k) (hb : Below w.heap.size w wr) : AnsSzK w left (sz (.row e s) D) (.returned (.int .i64 (left - n - szs s D k))) wr := by
 have e1 : k = n := by omega
 subst e1
 have e2 : (left - (sz (.row e s) D : Nat) : Int) = left - k - szs s D k := by rw [sz_row, hn]; omega
 exact ⟨by rw [e2, if_neg (by omega)], hb⟩
end
structure CpS (w : World) (tL tI : TypeId) (cs zs part : Array Value) (wr : World) : Prop where
 box : Row wr w.heap.size tL cs
 res : Row wr (w.heap.size + 1) tI zs
 cur : Row wr (w.heap.size + 1 + 1) tI part
 bel : Below w.heap.size w wr
 size : w.heap.size + 1 + 1 + 1 ≤ wr.heap.size
section
variable {w wr w1 : World} {tL tI : TypeId} {cs zs part : Array Value}
theorem CpS.zero (w : World) (tL tI : TypeId) (cs zs : Array Value) : CpS w tL tI cs zs zs (((w.alloc (.cells cs tL)).alloc (.cells zs tI)).alloc (.cells zs tI)) where
 box := by have := ((Row.new w tL cs).alloc (.cells zs tI)).alloc (.cells zs tI); simpa using this
 res := by have := (Row.new (w.alloc (.cells cs tL)) tI zs).alloc (.cells zs tI); simpa using this
 cur := by have := Row.new ((w.alloc (.cells cs tL)).alloc (.cells zs tI)) tI zs; simpa using this
 bel := (((Below.refl _ _).alloc (Nat.le_refl _) _).alloc (by simp) _).alloc (by simp; omega) _
 size := by simp
theorem CpS.next (h : CpS w tL tI cs zs part wr) (bb : Below wr.heap.size wr w1) : CpS w tL tI cs zs part w1 :=
 ⟨h.box.next bb, h.res.next bb, h.cur.next bb, h.bel.trans (bb.mono h.bel.size), Nat.le_trans h.size bb.size⟩
theorem CpS.put (h : CpS w tL tI cs zs part wr) (i : Nat) (u : Value) : CpS w tL tI cs zs (part.setIfInBounds i u) (wr.setCell ⟨w.heap.size + 1 + 1, i, none⟩ u) :=
 ⟨h.box.far (by show _ ≠ w.heap.size + 1 + 1; omega) _, h.res.far (by show _ ≠ w.heap.size + 1 + 1; omega) _, h.cur.put i u, h.bel.setCell (by show _ ≤ w.heap.size + 1 + 1; omega) _, by simpa using h.size⟩
theorem CpS.fin (h : CpS w tL tI cs zs part wr) (i : Nat) (u : Value) : CpS w tL tI cs (zs.setIfInBounds i u) part (wr.setCell ⟨w.heap.size + 1, i, none⟩ u) :=
 ⟨h.box.far (by show _ ≠ w.heap.size + 1; omega) _, h.res.put i u, h.cur.far (by show _ ≠ w.heap.size + 1; omega) _, h.bel.setCell (by show _ ≤ w.heap.size + 1; omega) _, by simpa using h.size⟩
end
end shape
end
section
namespace dice
open Go.RowKit base ints cursor
def SegB (w : World) (B : Nat) (A : Option Addr) (n : Nat) : Prop :=
 0 < n → ∃ b off, A = some ⟨b, off, none⟩ ∧ b < B ∧ ∀ j, j < n → ∃ x : Int, 0 ≤ x ∧ x ≤ 255 ∧ w.cell? ⟨b, off + j, none⟩ = some (.int .u8 x)
theorem SegB.keep {w w' : World} {B : Nat} {A : Option Addr} {n : Nat} (h : SegB w B A n) (hk : ∀ p : Addr, p.block < B → w'.cell? p = w.cell? p) : SegB w' B A n := fun hn => by
 obtain ⟨b, off, e, hb, hc⟩ := h hn
 refine ⟨b, off, e, hb, fun j hj => ?_⟩
 obtain ⟨x, h0, h1, h2⟩ := hc j hj
 exact ⟨x, h0, h1, (hk ⟨b, off + j, none⟩ hb).trans h2⟩
section
variable {w w' : World} {p : Nat} {A : Option Addr} {n c i : Nat} {h : Int}
end
end dice
end
section
namespace drawSig
open Go.RowKit base ints sig cursor marks app sym dice
set_option maxRecDepth 100000
def Good (xs : List Int) : Prop := 1 ≤ xs.length ∧ xs.length ≤ 4 ∧ ∀ j, j < xs.length → 0 ≤ xs.getD j 0 ∧ xs.getD j 0 ≤ 2
section
variable {w : World} {p : Nat} {A : Option Addr} {n c v : Nat} {wr : World} {O : Option Addr} {on oc : Nat} {xs : List Int}
end
def Short (xs : List Int) : Prop := xs.length ≤ 9
theorem Own.blk_lt {w : World} {base : Nat} {O : Option Addr} {on oc : Nat} {xs : List Int} (h : Own w base (.slice O on oc) xs) : ∀ k, blk O = some k → k < w.heap.size := fun k hk => by
 refine (World.ownsRow.lt h k ?_).2
 cases O with
 | none => cases hk
 | some a => exact hk
end drawSig
end
end Go.Proofs.YtlmofkeemlfpgaaGreat
