/-
  PLAIN MATHEMATICS of the variables of a term: a number put into a rising list ('into'), all of them ('vars'); sorted and compacted it is the same list. Conditions: none. By an AI agent.
-/
import Derived.Test.YtdeegjeopkcomaaSorted
import Derived.Test.YtdeegjeopkcomaaTermOk
namespace Go.Proofs.Ytdeegjeopkcomaa.varsMath
open Go.Proofs.Ytdeegjeopkcomaa.term Go.Proofs.Ytdeegjeopkcomaa.termOk Go.Proofs.Ytdeegjeopkcomaa.sorted

/-- with one more, rising -/
def into : List Int → Int → List Int
  | [], n => [n]
  | y :: r, n => if y < n then y :: into r n else if y = n then y :: r else n :: y :: r
theorem into_end : ∀ {xs : List Int} {n : Int}, (∀ j, j < xs.length → xs.getD j 0 < n) → into xs n = xs ++ [n]
  | [], _, _ => rfl
  | y :: r, n, h => by
    have h0 : y < n := by simpa using h 0 (by simp)
    rw [into, if_pos h0, into_end (fun j hj => by simpa using h (j + 1) (by simpa using hj))]
    rfl
theorem into_at : ∀ {xs : List Int} {n : Int} {k : Nat}, k < xs.length → (∀ j, j < k → xs.getD j 0 < n) → xs.getD k 0 = n → into xs n = xs
  | [], _, _, hk, _, _ => absurd hk (Nat.not_lt_zero _)
  | y :: r, n, 0, _, _, e => by
    have e : y = n := by simpa using e
    rw [into, if_neg (by omega), if_pos e]
  | y :: r, n, k + 1, hk, h, e => by
    have h0 : y < n := by simpa using h 0 (by simp)
    rw [into, if_pos h0, into_at (k := k) (by simpa using hk) (fun j hj => by simpa using h (j + 1) (by omega)) (by simpa using e)]
theorem into_mid : ∀ {xs : List Int} {n : Int} {k : Nat}, k < xs.length → (∀ j, j < k → xs.getD j 0 < n) → n < xs.getD k 0 → into xs n = (xs.take k ++ [n]) ++ xs.drop k
  | [], _, _, hk, _, _ => absurd hk (Nat.not_lt_zero _)
  | y :: r, n, 0, _, _, e => by
    have e : n < y := by simpa using e
    rw [into, if_neg (by omega), if_neg (by omega)]
    rfl
  | y :: r, n, k + 1, hk, h, e => by
    have h0 : y < n := by simpa using h 0 (by simp)
    rw [into, if_pos h0, into_mid (k := k) (by simpa using hk) (fun j hj => by simpa using h (j + 1) (by omega)) (by simpa using e)]
    rfl
theorem into_mem {xs : List Int} {n x : Int} : x ∈ into xs n ↔ x = n ∨ x ∈ xs := by
  induction xs with
  | nil => simp [into]
  | cons y r ih =>
    rw [into]
    split
    · rw [List.mem_cons, ih, List.mem_cons]
      constructor
      · rintro (h | h | h)
        · exact .inr (.inl h)
        · exact .inl h
        · exact .inr (.inr h)
      · rintro (h | h | h)
        · exact .inr (.inl h)
        · exact .inl h
        · exact .inr (.inr h)
    · split
      · rename_i h1 h2
        subst h2
        simp
      · simp
theorem into_len (xs : List Int) (n : Int) : (into xs n).length ≤ xs.length + 1 := by
  induction xs with
  | nil => simp [into]
  | cons y r ih =>
    rw [into]
    split
    · simp; omega
    · split <;> simp
/-- rising -/
abbrev Rises (xs : List Int) : Prop := xs.Pairwise (· < ·)
theorem into_rises {xs : List Int} {n : Int} (h : Rises xs) : Rises (into xs n) := by
  induction xs with
  | nil => simp [into, Rises]
  | cons y r ih =>
    have h1 := List.pairwise_cons.1 h
    rw [into]
    split
    · rename_i hy
      refine List.pairwise_cons.2 ⟨fun z hz => ?_, ih h1.2⟩
      rcases into_mem.1 hz with e | e
      · omega
      · exact h1.1 z e
    · split
      · exact h
      · rename_i a b
        refine List.pairwise_cons.2 ⟨fun z hz => ?_, h⟩
        rcases List.mem_cons.1 hz with e | e
        · omega
        · have := h1.1 z e; omega
/-- two rising lists of the same numbers are one -/
theorem rises_unique : ∀ {xs ys : List Int}, Rises xs → Rises ys → (∀ x, x ∈ xs ↔ x ∈ ys) → xs = ys
  | [], [], _, _, _ => rfl
  | [], y :: r, _, _, h => by have := (h y).2 (List.mem_cons_self ..); cases this
  | x :: r, [], _, _, h => by have := (h x).1 (List.mem_cons_self ..); cases this
  | x :: r, y :: q, hx, hy, h => by
    have h1 := List.pairwise_cons.1 hx
    have h2 := List.pairwise_cons.1 hy
    have e : x = y := by
      have a := (h x).1 (List.mem_cons_self ..)
      have b := (h y).2 (List.mem_cons_self ..)
      rcases List.mem_cons.1 a with a | a
      · exact a
      · rcases List.mem_cons.1 b with b | b
        · exact b.symm
        · have := h1.1 y b
          have := h2.1 x a
          omega
    subst e
    rw [rises_unique h1.2 h2.2 (fun z => ?_)]
    constructor
    · intro hz
      rcases List.mem_cons.1 ((h z).1 (List.mem_cons_of_mem _ hz)) with e | e
      · have := h1.1 z hz; omega
      · exact e
    · intro hz
      rcases List.mem_cons.1 ((h z).2 (List.mem_cons_of_mem _ hz)) with e | e
      · have := h2.1 z hz; omega
      · exact e

/-- the variables' numbers, in the order in which they stand -/
def negs (t : List Int) : List Int := (t.filter fun n => decide (n < 0)).map fun n => -1 - n
/-- the variables' numbers, rising -/
def vars (t : List Int) : List Int := (negs t).foldl into []
theorem negs_snoc_yes {t : List Int} {x : Int} (h : x < 0) : negs (t ++ [x]) = negs t ++ [-1 - x] := by simp [negs, h]
theorem negs_snoc_no {t : List Int} {x : Int} (h : ¬ x < 0) : negs (t ++ [x]) = negs t := by simp [negs, h]
theorem take_snoc {t : List Int} {k : Nat} (hk : k < t.length) {x : Int} (hx : t.getD k 0 = x) : t.take (k + 1) = t.take k ++ [x] := by
  rw [List.take_succ_eq_append_getElem hk, ← hx]
  simp [List.getD, hk]
theorem negs_yes {t : List Int} {k : Nat} {x : Int} (hk : k < t.length) (hx : t.getD k 0 = x) (h : x < 0) : negs (t.take (k + 1)) = negs (t.take k) ++ [-1 - x] := by rw [take_snoc hk hx, negs_snoc_yes h]
theorem negs_no {t : List Int} {k : Nat} {x : Int} (hk : k < t.length) (hx : t.getD k 0 = x) (h : ¬ x < 0) : negs (t.take (k + 1)) = negs (t.take k) := by rw [take_snoc hk hx, negs_snoc_no h]
theorem vars_yes {t : List Int} {k : Nat} {x : Int} (hk : k < t.length) (hx : t.getD k 0 = x) (h : x < 0) : vars (t.take (k + 1)) = into (vars (t.take k)) (-1 - x) := by
  unfold vars; rw [negs_yes hk hx h, List.foldl_append]; rfl
theorem vars_no {t : List Int} {k : Nat} {x : Int} (hk : k < t.length) (hx : t.getD k 0 = x) (h : ¬ x < 0) : vars (t.take (k + 1)) = vars (t.take k) := by unfold vars; rw [negs_no hk hx h]
theorem negs_len (t : List Int) : (negs t).length ≤ t.length := by unfold negs; rw [List.length_map]; exact List.length_filter_le _ _
theorem fold_len : ∀ (l xs : List Int), (l.foldl into xs).length ≤ xs.length + l.length
  | [], _ => by simp
  | n :: l, xs => by have := fold_len l (into xs n); have := into_len xs n; simp; omega
theorem vars_len (t : List Int) : (vars t).length ≤ t.length := by have := fold_len (negs t) []; have := negs_len t; unfold vars; simp at *; omega
theorem fold_mem {x : Int} : ∀ {l xs : List Int}, x ∈ l.foldl into xs ↔ x ∈ xs ∨ x ∈ l
  | [], _ => by simp
  | n :: l, xs => by
    rw [List.foldl_cons, fold_mem, into_mem, List.mem_cons]
    constructor
    · rintro ((h | h) | h)
      · exact .inr (.inl h)
      · exact .inl h
      · exact .inr (.inr h)
    · rintro (h | h | h)
      · exact .inl (.inr h)
      · exact .inl (.inl h)
      · exact .inr h
theorem fold_rises : ∀ {l xs : List Int}, Rises xs → Rises (l.foldl into xs)
  | [], _, h => h
  | n :: l, xs, h => by rw [List.foldl_cons]; exact fold_rises (into_rises h)
theorem vars_mem {t : List Int} {x : Int} : x ∈ vars t ↔ x ∈ negs t := by unfold vars; rw [fold_mem]; simp
theorem vars_rises (t : List Int) : Rises (vars t) := fold_rises List.Pairwise.nil

/-! ### sorted and compacted -/
theorem compact_cons_cons (x y : Int) (r : List Int) : Lib.compact (x :: y :: r) = if x = y then Lib.compact (y :: r) else x :: Lib.compact (y :: r) := by
  unfold Lib.compact Lib.compactUpTo
  have hr : List.range (x :: y :: r).length = 0 :: (List.range (y :: r).length).map (· + 1) := by
    rw [List.length_cons, List.range_succ_eq_map]
  have hr2 : List.range (y :: r).length = 0 :: (List.range r.length).map (· + 1) := by
    rw [List.length_cons, List.range_succ_eq_map]
  have k0 : Lib.keeps (x :: y :: r).toArray 0 = true := by simp [Lib.keeps]
  have k0' : Lib.keeps (y :: r).toArray 0 = true := by simp [Lib.keeps]
  have ks : ∀ j, Lib.keeps (x :: y :: r).toArray (j + 1 + 1) = Lib.keeps (y :: r).toArray (j + 1) := fun j => by
    simp [Lib.keeps]
  have gs : ∀ j, (x :: y :: r).toArray[j + 1]! = (y :: r).toArray[j]! := fun j => by simp
  rw [hr, hr2]
  simp only [List.map_cons, List.filter_cons, k0, k0', if_true, List.filter_map, List.map_map]
  have e1 : Lib.keeps (x :: y :: r).toArray ∘ (fun (j : Nat) => j + 1) ∘ (fun (j : Nat) => j + 1) = Lib.keeps (y :: r).toArray ∘ fun (j : Nat) => j + 1 := by
    funext j
    exact ks j
  have k1 : Lib.keeps (x :: y :: r).toArray (0 + 1) = decide (¬ x = y) := by
    simp [Lib.keeps, eq_comm]
  rw [e1, k1]
  have e2 : (fun j => (x :: y :: r).toArray[j]!) ∘ (fun (j : Nat) => j + 1) ∘ (fun (j : Nat) => j + 1) = (fun j => (y :: r).toArray[j]!) ∘ fun (j : Nat) => j + 1 := by
    funext j
    exact gs (j + 1)
  by_cases h : x = y
  · subst h
    simp [List.map_map, e2]
  · simp [h, List.map_map, e2]
theorem compact_one (x : Int) : Lib.compact [x] = [x] := by simp [Lib.compact, Lib.compactUpTo, Lib.keeps, List.range_succ]
theorem compact_nil : Lib.compact ([] : List Int) = [] := rfl
theorem compact_sorted : ∀ {l : List Int}, l.Pairwise (· ≤ ·) → Rises (Lib.compact l) ∧ (∀ x, x ∈ Lib.compact l ↔ x ∈ l)
  | [], _ => ⟨List.Pairwise.nil, fun x => by rw [compact_nil]⟩
  | [y], _ => ⟨by rw [compact_one]; simp [Rises], fun x => by rw [compact_one]⟩
  | x :: y :: r, h => by
    have h1 := List.pairwise_cons.1 h
    obtain ⟨h2, h3⟩ := compact_sorted h1.2
    rw [compact_cons_cons]
    by_cases e : x = y
    · subst e
      rw [if_pos rfl]
      exact ⟨h2, fun z => by rw [h3]; simp⟩
    · rw [if_neg e]
      refine ⟨List.pairwise_cons.2 ⟨fun z hz => ?_, h2⟩, fun z => by rw [List.mem_cons, h3, List.mem_cons (a := z) (b := x)]⟩
      have h4 := h1.1 y (List.mem_cons_self ..)
      rcases List.mem_cons.1 ((h3 z).1 hz) with e2 | e2
      · omega
      · have := (List.pairwise_cons.1 h1.2).1 z e2
        omega
theorem up_sorted (l : List Int) : (up l).Pairwise (· ≤ ·) := by
  have := List.pairwise_mergeSort (le := fun x y => decide (x ≤ y)) (fun a b c h1 h2 => by simp at *; omega) (fun a b => by simp; omega) l
  refine this.imp (fun h => ?_)
  simpa using h
theorem up_mem {l : List Int} {x : Int} : x ∈ up l ↔ x ∈ l := by unfold up; exact List.mem_mergeSort
theorem sorted_vars (t : List Int) : Lib.compact (up (negs t)) = vars t := by
  have h := compact_sorted (up_sorted (negs t))
  refine rises_unique h.1 (vars_rises t) (fun x => ?_)
  rw [h.2, up_mem, vars_mem]

/-- what VarsOf answers -/
def varsI (sg t : List Int) : List Int := if termOkB sg t = true then vars t else []
theorem varsI_len {sg t : List Int} {m : Nat} (h : t.length = m) (hm : m ≤ 1048576) : (varsI sg t).length ≤ 1048576 := by
  unfold varsI
  split
  · have := vars_len t; omega
  · simp
end Go.Proofs.Ytdeegjeopkcomaa.varsMath
