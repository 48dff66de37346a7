/-
  PLAIN MATHEMATICS of plain substitutions: what is left of a list of lists without the empty ones at its end ('strip'), the plain form of a look-up ('plainL'). Conditions: none. By an AI agent.
-/
import Derived.Test.YtdeegjeopkcomaaFillMath
namespace Go.Proofs.Ytdeegjeopkcomaa.plainMath
open Go.Proofs.Ytdeegjeopkcomaa.fillMath

/-- without the empty lists at its end -/
def strip : List (List Int) → List (List Int)
  | [] => []
  | x :: r => if strip r = [] then (if x = [] then [] else [x]) else x :: strip r
theorem strip_snoc : ∀ (l : List (List Int)) (x : List Int), strip (l ++ [x]) = if x = [] then strip l else l ++ [x]
  | [], x => by
    show strip [x] = _
    by_cases h : x = [] <;> simp [strip, h]
  | y :: r, x => by
    rw [List.cons_append, strip, strip_snoc r x]
    by_cases h : x = []
    · simp [h, strip]
    · simp [h]
theorem strip_len : ∀ l : List (List Int), (strip l).length ≤ l.length
  | [] => by simp [strip]
  | x :: r => by
    have h := strip_len r
    rw [strip]
    split
    · split <;> simp
    · simp; omega
theorem strip_pad : ∀ l : List (List Int), strip l ++ List.replicate (l.length - (strip l).length) [] = l
  | [] => by simp [strip]
  | x :: r => by
    have h := strip_pad r
    rw [strip]
    by_cases h1 : strip r = []
    · rw [h1] at h
      rw [if_pos h1]
      have h2 : List.replicate r.length ([] : List Int) = r := by simpa using h
      by_cases h3 : x = []
      · rw [if_pos h3]
        subst h3
        simp only [List.length_cons, List.length_nil, Nat.sub_zero, List.nil_append]
        rw [List.replicate_succ, h2]
      · rw [if_neg h3]
        simp only [List.length_cons, List.length_nil]
        rw [show r.length + 1 - (0 + 1) = r.length by omega, h2]
        rfl
    · rw [if_neg h1]
      simp only [List.length_cons, List.cons_append]
      rw [show r.length + 1 - ((strip r).length + 1) = r.length - (strip r).length by omega, h]
theorem strip_last {l : List (List Int)} {q : Nat} (hq : q < l.length) (h : l.getD q [] ≠ []) : strip (l.take (q + 1)) = l.take (q + 1) := by
  have e : l.take (q + 1) = l.take q ++ [l.getD q []] := by
    rw [List.take_succ_eq_append_getElem hq]
    simp [List.getD, hq]
  rw [e, strip_snoc, if_neg h]
theorem strip_drop {l : List (List Int)} {q : Nat} (hq : q < l.length) (h : l.getD q [] = []) : strip (l.take (q + 1)) = strip (l.take q) := by
  have e : l.take (q + 1) = l.take q ++ [l.getD q []] := by
    rw [List.take_succ_eq_append_getElem hq]
    simp [List.getD, hq]
  rw [e, strip_snoc, if_pos h]
theorem strip_end : ∀ (l : List (List Int)), strip l = [] ∨ ∃ q, (strip l).length = q + 1 ∧ (strip l).getD q [] ≠ []
  | [] => .inl rfl
  | x :: r => by
    rw [strip]
    rcases strip_end r with h | ⟨q, h1, h2⟩
    · rw [if_pos h]
      by_cases hx : x = []
      · rw [if_pos hx]; exact .inl rfl
      · rw [if_neg hx]; exact .inr ⟨0, rfl, by simpa using hx⟩
    · have hne : strip r ≠ [] := fun e => by rw [e] at h1; cases h1
      rw [if_neg hne]
      exact .inr ⟨q + 1, by simp [h1], by simpa using h2⟩

/-- what replaces variable i, nothing where it stays -/
def bare (L : Nat → List Int) (i : Nat) : List Int := if L i = vt i then [] else L i
def rowsL (L : Nat → List Int) (m : Nat) : List (List Int) := (List.range m).map (bare L)
/-- the plain form -/
def plainL (L : Nat → List Int) (m : Nat) : List (List Int) := strip (rowsL L m)
theorem rows_len (L : Nat → List Int) (m : Nat) : (rowsL L m).length = m := by simp [rowsL]
theorem rows_get {L : Nat → List Int} {m i : Nat} (h : i < m) : (rowsL L m).getD i [] = bare L i := by simp [rowsL, List.getD, h]
theorem rows_succ (L : Nat → List Int) (m : Nat) : rowsL L (m + 1) = rowsL L m ++ [bare L m] := by simp [rowsL, List.range_succ]
theorem plain_same {L : Nat → List Int} {m : Nat} (h : L m = vt m) : plainL L (m + 1) = plainL L m := by
  unfold plainL
  rw [rows_succ, strip_snoc, if_pos (by unfold bare; rw [if_pos h])]
theorem plain_new {L : Nat → List Int} {m : Nat} (h : L m ≠ vt m) (hne : 1 ≤ (L m).length) : plainL L (m + 1) = rowsL L m ++ [L m] := by
  unfold plainL
  have hb : bare L m = L m := by unfold bare; rw [if_neg h]
  rw [rows_succ, strip_snoc, hb, if_neg (fun e => by rw [e] at hne; simp at hne)]
theorem plain_len (L : Nat → List Int) (m : Nat) : (plainL L m).length ≤ m := by have := strip_len (rowsL L m); rw [rows_len] at this; exact this
theorem plain_pad (L : Nat → List Int) (m : Nat) : plainL L m ++ List.replicate (m - (plainL L m).length) [] = rowsL L m := by
  have := strip_pad (rowsL L m)
  rw [rows_len] at this
  exact this
theorem plain_ext {L L' : Nat → List Int} {m : Nat} (h : ∀ i, i < m → L i = L' i) : plainL L m = plainL L' m := by
  unfold plainL rowsL
  congr 1
  refine List.map_congr_left (fun i hi => ?_)
  unfold bare
  rw [h i (List.mem_range.1 hi)]
theorem plain_more {L : Nat → List Int} {m : Nat} : ∀ {k : Nat}, (∀ i, m ≤ i → L i = vt i) → plainL L (m + k) = plainL L m
  | 0, _ => rfl
  | k + 1, h => by rw [← Nat.add_assoc, plain_same (h _ (by omega)), plain_more h]
theorem plain_24 {L : Nat → List Int} {m : Nat} (hm : m ≤ 24) (h : ∀ i, m ≤ i → L i = vt i) : plainL L 24 = plainL L m := by
  have := plain_more (k := 24 - m) h
  rwa [show m + (24 - m) = 24 by omega] at this
/-- an element of the plain form -/
theorem plain_get (L : Nat → List Int) (m i : Nat) : (plainL L m).getD i [] = (rowsL L m).getD i [] := by
  have h := plain_pad L m
  rw [← h]
  by_cases hi : i < (plainL L m).length
  · simp [List.getD, List.getElem?_append_left hi]
  · have e1 : (plainL L m)[i]? = none := List.getElem?_eq_none (by omega)
    simp only [List.getD, e1, Option.getD_none]
    rw [List.getElem?_append_right (by omega)]
    by_cases h2 : i - (plainL L m).length < m - (plainL L m).length
    · simp [List.getElem?_replicate, h2]
    · simp [List.getElem?_replicate, h2]
theorem rows_each {L : Nat → List Int} {m M : Nat} (hM : ∀ i, (L i).length ≤ M) (i : Nat) : ((rowsL L m).getD i []).length ≤ M := by
  by_cases h : i < m
  · rw [rows_get h]
    unfold bare
    split
    · simp
    · exact hM i
  · rw [show (rowsL L m).getD i [] = [] by simp [List.getD, rows_len, h]]
    simp
theorem plain_each {L : Nat → List Int} {m M : Nat} (hM : ∀ i, (L i).length ≤ M) (i : Nat) : ((plainL L m).getD i []).length ≤ M := by rw [plain_get]; exact rows_each hM i
end Go.Proofs.Ytdeegjeopkcomaa.plainMath
