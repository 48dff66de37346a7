/-
  PLAIN MATHEMATICS of renaming: the order in which variables stand first ('orderL'), the place in it ('idx'), a term renamed ('renL'). Conditions: none. By an AI agent.
-/
import Derived.Test.YtdeegjeopkcomaaFillMath
namespace Go.Proofs.Ytdeegjeopkcomaa.renMath
open Go.Proofs.Ytdeegjeopkcomaa.sig Go.Proofs.Ytdeegjeopkcomaa.term Go.Proofs.Ytdeegjeopkcomaa.termOk Go.Proofs.Ytdeegjeopkcomaa.termFacts Go.Proofs.Ytdeegjeopkcomaa.varsMath Go.Proofs.Ytdeegjeopkcomaa.fillMath

/-- the first place of a number -/
def idx : List Int → Int → Nat
  | [], _ => 0
  | y :: r, x => if y = x then 0 else idx r x + 1
theorem idx_lt : ∀ {o : List Int} {x : Int}, x ∈ o → idx o x < o.length
  | y :: r, x, h => by
    rw [idx]
    split
    · simp
    · rename_i h1
      rcases List.mem_cons.1 h with e | e
      · exact absurd e.symm h1
      · have := idx_lt e; simp; omega
theorem idx_not : ∀ {o : List Int} {x : Int}, x ∉ o → idx o x = o.length
  | [], _, _ => rfl
  | y :: r, x, h => by
    have h1 : ¬ y = x := fun e => h (by rw [e]; exact List.mem_cons_self ..)
    rw [idx, if_neg h1, idx_not (fun e => h (List.mem_cons_of_mem _ e))]
    rfl
theorem idx_get : ∀ {o : List Int} {x : Int}, x ∈ o → o.getD (idx o x) 0 = x
  | y :: r, x, h => by
    rw [idx]
    split
    · rename_i h1; simpa using h1
    · rename_i h1
      rcases List.mem_cons.1 h with e | e
      · exact absurd e.symm h1
      · simpa using idx_get e
theorem idx_first : ∀ {o : List Int} {x : Int} {k : Nat}, k < o.length → (∀ j, j < k → o.getD j 0 ≠ x) → o.getD k 0 = x → idx o x = k
  | y :: r, x, 0, _, _, h => by
    have h : y = x := by simpa using h
    rw [idx, if_pos h]
  | y :: r, x, k + 1, hk, hl, h => by
    have h0 : ¬ y = x := by simpa using hl 0 (by omega)
    rw [idx, if_neg h0, idx_first (k := k) (by simpa using hk) (fun j hj => by simpa using hl (j + 1) (by omega)) (by simpa using h)]
theorem idx_app_mem : ∀ {o q : List Int} {x : Int}, x ∈ o → idx (o ++ q) x = idx o x
  | y :: r, q, x, h => by
    rw [List.cons_append, idx, idx]
    split
    · rfl
    · rename_i h1
      rcases List.mem_cons.1 h with e | e
      · exact absurd e.symm h1
      · rw [idx_app_mem e]
theorem idx_app_new {o : List Int} {x : Int} (h : x ∉ o) : idx (o ++ [x]) x = o.length := by
  refine idx_first (by simp) (fun j hj => ?_) (by simp)
  have e : (o ++ [x]).getD j 0 = o[j] := by simp [List.getD, List.getElem?_append_left hj, hj]
  rw [e]
  exact fun e2 => h (by rw [← e2]; exact List.getElem_mem hj)
theorem idx_map {f : Int → Int} (hf : ∀ a b, f a = f b → a = b) : ∀ (o : List Int) (x : Int), idx (o.map f) (f x) = idx o x
  | [], _ => rfl
  | y :: r, x => by
    rw [List.map_cons, idx, idx]
    by_cases h : y = x
    · rw [if_pos h, if_pos (by rw [h])]
    · rw [if_neg h, if_neg (fun e => h (hf _ _ e)), idx_map hf r x]
theorem mem_map_inj {f : Int → Int} (hf : ∀ a b, f a = f b → a = b) {o : List Int} {x : Int} : f x ∈ o.map f ↔ x ∈ o := by
  rw [List.mem_map]
  exact ⟨fun ⟨y, hy, e⟩ => by rw [← hf _ _ e]; exact hy, fun h => ⟨x, h, rfl⟩⟩

/-- with one more, unless it is there -/
def ext (o : List Int) (x : Int) : List Int := if x ∈ o then o else o ++ [x]
/-- with a number's variable, if it is one -/
def extV (o : List Int) (x : Int) : List Int := if x < 0 then ext o x else o
/-- the variables in the order in which they stand first -/
def orderL (t : List Int) : List Int := t.foldl extV []
theorem order_take {t : List Int} {k : Nat} {x : Int} (hk : k < t.length) (hx : t.getD k 0 = x) : orderL (t.take (k + 1)) = extV (orderL (t.take k)) x := by
  unfold orderL
  rw [take_snoc hk hx, List.foldl_append]
  rfl
theorem ext_mem {o : List Int} {x y : Int} : y ∈ ext o x ↔ y = x ∨ y ∈ o := by
  unfold ext
  split
  · rename_i h
    exact ⟨fun e => .inr e, fun e => by rcases e with e | e; exact e ▸ h; exact e⟩
  · rw [List.mem_append, List.mem_singleton, or_comm]
theorem extV_mem {o : List Int} {x y : Int} : y ∈ extV o x ↔ (y = x ∧ x < 0) ∨ y ∈ o := by
  unfold extV
  split
  · rename_i h
    rw [ext_mem]
    exact ⟨fun e => by rcases e with e | e; exact .inl ⟨e, h⟩; exact .inr e, fun e => by rcases e with e | e; exact .inl e.1; exact .inr e⟩
  · rename_i h
    exact ⟨fun e => .inr e, fun e => by rcases e with e | e; exact absurd e.2 h; exact e⟩
theorem fold_ext_mem {y : Int} : ∀ {l o : List Int}, y ∈ l.foldl extV o ↔ (y ∈ l ∧ y < 0) ∨ y ∈ o
  | [], o => by simp
  | x :: l, o => by
    rw [List.foldl_cons, fold_ext_mem, extV_mem, List.mem_cons]
    constructor
    · rintro (⟨h, h0⟩ | ⟨rfl, h0⟩ | h)
      · exact .inl ⟨.inr h, h0⟩
      · exact .inl ⟨.inl rfl, h0⟩
      · exact .inr h
    · rintro (⟨rfl | h, h0⟩ | h)
      · exact .inr (.inl ⟨rfl, h0⟩)
      · exact .inl ⟨h, h0⟩
      · exact .inr (.inr h)
theorem order_mem {t : List Int} {y : Int} : y ∈ orderL t ↔ y ∈ t ∧ y < 0 := by unfold orderL; rw [fold_ext_mem]; simp
theorem ext_nodup {o : List Int} {x : Int} (h : o.Nodup) : (ext o x).Nodup := by
  unfold ext
  split
  · exact h
  · rename_i hx
    rw [List.nodup_append]
    exact ⟨h, by simp, fun a ha b hb => by simp at hb; subst hb; exact fun e => hx (e ▸ ha)⟩
theorem fold_nodup : ∀ {l o : List Int}, o.Nodup → (l.foldl extV o).Nodup
  | [], _, h => h
  | x :: l, o, h => by
    rw [List.foldl_cons]
    refine fold_nodup ?_
    unfold extV
    split
    · exact ext_nodup h
    · exact h
theorem order_nodup (t : List Int) : (orderL t).Nodup := fold_nodup List.nodup_nil
theorem ext_len (o : List Int) (x : Int) : (ext o x).length ≤ o.length + 1 := by unfold ext; split <;> simp
theorem fold_ext_len : ∀ (l o : List Int), (l.foldl extV o).length ≤ o.length + l.length
  | [], _ => by simp
  | x :: l, o => by
    have h1 := fold_ext_len l (extV o x)
    have h2 : (extV o x).length ≤ o.length + 1 := by unfold extV; split; exact ext_len o x; simp
    simp
    omega
theorem order_len (t : List Int) : (orderL t).length ≤ t.length := by have := fold_ext_len t []; simpa [orderL] using this

/-- a number by an order -/
def ren (o : List Int) (n : Int) : Int := if n < 0 then -1 - (idx o n : Int) else n
/-- a term renamed -/
def renL (t : List Int) : List Int := t.map (ren (orderL t))
theorem ren_ext {o : List Int} {x n : Int} (h : n < 0 → n ∈ o) : ren (extV o x) n = ren o n := by
  unfold ren
  split
  · rename_i h0
    unfold extV ext
    split
    · split
      · rfl
      · rw [idx_app_mem (h h0)]
    · rfl
  · rfl
theorem ren_take {t : List Int} {k : Nat} {x : Int} (hk : k < t.length) (hx : t.getD k 0 = x) : renL (t.take (k + 1)) = renL (t.take k) ++ [ren (extV (orderL (t.take k)) x) x] := by
  unfold renL
  rw [order_take hk hx, take_snoc hk hx, List.map_append]
  congr 1
  refine List.map_congr_left (fun n hn => ren_ext (fun h0 => order_mem.2 ⟨hn, h0⟩))
theorem ren_len (t : List Int) : (renL t).length = t.length := by simp [renL]
/-- what Renamed answers -/
def renI (sg t : List Int) : List Int := if termOkB sg t = true then renL t else []
theorem renI_len {sg t : List Int} {m : Nat} (h : t.length = m) (hm : m ≤ 1048576) : (renI sg t).length ≤ 1048576 := by
  unfold renI
  split
  · rw [ren_len]; omega
  · simp
/-- a place of an order without a number twice -/
theorem idx_nodup {o : List Int} (h : o.Nodup) {k : Nat} (hk : k < o.length) {x : Int} (hx : o.getD k 0 = x) : idx o x = k := by
  refine idx_first hk (fun j hj e => ?_) hx
  have h1 : o[j]'(by omega) = o[k] := by
    have a : o.getD j 0 = o[j]'(by omega) := by simp [List.getD, show j < o.length by omega]
    have b : o.getD k 0 = o[k] := by simp [List.getD, hk]
    rw [← a, ← b, e, hx]
  exact (List.pairwise_iff_getElem.1 h) j k (by omega) hk hj h1
end Go.Proofs.Ytdeegjeopkcomaa.renMath
