/-
  PLAIN MATHEMATICS of Composed: what the composition gives ('compL'), whether all of it fits ('compOk'), its plain form. Conditions: none. By an AI agent.
-/
import Derived.Test.YtdeegjeopkcomaaPlainOf
namespace Go.Proofs.Ytdeegjeopkcomaa.compMath
open Go.Proofs.Ytdeegjeopkcomaa.term Go.Proofs.Ytdeegjeopkcomaa.termOk Go.Proofs.Ytdeegjeopkcomaa.termFacts Go.Proofs.Ytdeegjeopkcomaa.segsHelp Go.Proofs.Ytdeegjeopkcomaa.fillMath Go.Proofs.Ytdeegjeopkcomaa.substOk Go.Proofs.Ytdeegjeopkcomaa.gives Go.Proofs.Ytdeegjeopkcomaa.plainMath Go.Proofs.Ytdeegjeopkcomaa.plainOf

/-- what the composition gives for a variable -/
def compL (us ss : List (List Int)) (i : Nat) : List Int := fillL (givesL us) (givesL ss i)
def compOk (us ss : List (List Int)) : Bool := (List.range 24).all fun i => decide ((compL us ss i).length ≤ 60)
/-- what Composed answers -/
def composedB (sg : List Int) (ss us : List (List Int)) : Bool := substOkB sg ss && (substOkB sg us && compOk us ss)
def composedI (sg : List Int) (ss us : List (List Int)) : List (List Int) := if composedB sg ss us = true then plainL (compL us ss) 24 else []

theorem composed_s {sg : List Int} {ss us : List (List Int)} (h : substOkB sg ss = false) : composedB sg ss us = false := by unfold composedB; rw [h, Bool.false_and]
theorem composed_u {sg : List Int} {ss us : List (List Int)} (h : substOkB sg us = false) : composedB sg ss us = false := by unfold composedB; rw [h, Bool.false_and, Bool.and_false]
theorem composed_b {sg : List Int} {ss us : List (List Int)} (h : substOkB sg ss = true) (h' : substOkB sg us = true) : composedB sg ss us = compOk us ss := by unfold composedB; rw [h, h', Bool.true_and, Bool.true_and]
theorem composed_yes {sg : List Int} {ss us : List (List Int)} (h : composedB sg ss us = true) : composedI sg ss us = plainL (compL us ss) 24 := by unfold composedI; rw [if_pos h]
theorem composed_no {sg : List Int} {ss us : List (List Int)} (h : composedB sg ss us = false) : composedI sg ss us = [] := by unfold composedI; rw [if_neg (by rw [h]; simp)]

theorem compOk_iff {us ss : List (List Int)} : compOk us ss = true ↔ ∀ i, i < 24 → (compL us ss i).length ≤ 60 := by
  unfold compOk
  rw [List.all_eq_true]
  exact ⟨fun h i hi => of_decide_eq_true (h i (List.mem_range.2 hi)), fun h i hi => decide_eq_true (h i (List.mem_range.1 hi))⟩
theorem compOk_no {us ss : List (List Int)} {i : Nat} (hi : i < 24) (h : ¬ (compL us ss i).length ≤ 60) : compOk us ss = false := by
  cases e : compOk us ss with
  | false => rfl
  | true => exact absurd (compOk_iff.1 e i hi) h
theorem comp_out {us ss : List (List Int)} {i : Nat} (h : ss.length ≤ i) (h' : us.length ≤ i) : compL us ss i = vt i := by
  unfold compL
  rw [gives_out (by omega)]
  unfold vt
  rw [fill_cons, fill_nil, List.append_nil, rep_var (by omega), show (-1 - (-1 - (i : Int))).toNat = i by omega, gives_out (by omega)]
  rfl
theorem comp_pos (us ss : List (List Int)) (i : Nat) : 1 ≤ (compL us ss i).length := by
  have h1 := fill_ge (gives_pos us) (givesL ss i)
  have h2 := gives_pos ss i
  unfold compL
  omega
theorem comp_len {sg : List Int} {us ss : List (List Int)} (h : substOkB sg ss = true) (h' : substOkB sg us = true) (i : Nat) : (compL us ss i).length ≤ 3600 := by
  have h1 := fill_len (M := 60) (by omega) (gives_len h') (givesL ss i)
  have h2 := gives_len h i
  have h3 : (givesL ss i).length * 60 ≤ 60 * 60 := Nat.mul_le_mul_right _ h2
  unfold compL
  omega

/-- the composition as a list -/
def outL (us ss : List (List Int)) (k : Nat) : List (List Int) := (List.range k).map (compL us ss)
theorem out_len (us ss : List (List Int)) (k : Nat) : (outL us ss k).length = k := by simp [outL]
theorem out_get {us ss : List (List Int)} {k i : Nat} (h : i < k) : (outL us ss k).getD i [] = compL us ss i := by simp [outL, List.getD, h]
theorem out_succ (us ss : List (List Int)) (k : Nat) : outL us ss (k + 1) = outL us ss k ++ [compL us ss k] := by simp [outL, List.range_succ]
theorem out_gives {us ss : List (List Int)} {k i : Nat} (h : i < k) : givesL (outL us ss k) i = compL us ss i := by
  have := comp_pos us ss i
  rw [gives_term (by rw [out_get h]; omega), out_get h]
theorem out_plain {us ss : List (List Int)} {k : Nat} (hk : k ≤ 24) (h : ss.length ≤ k) (h' : us.length ≤ k) : plainL (givesL (outL us ss k)) k = plainL (compL us ss) 24 := by
  rw [plain_24 hk (fun i hi => comp_out (by omega) (by omega))]
  exact plain_ext fun i hi => out_gives hi
theorem out_each {us ss : List (List Int)} {k : Nat} (hk : k ≤ 24) (h : ∀ i, i < k → (compL us ss i).length ≤ 60) : tot (outL us ss k) ≤ 1048576 := by
  have h1 := tot_le (xss := outL us ss k) (M := 60) (fun j => by
    by_cases hj : j < k
    · rw [out_get hj]; exact h j hj
    · rw [show (outL us ss k).getD j [] = [] by simp [List.getD, out_len, hj]]; simp)
  rw [out_len] at h1
  have : k * 60 ≤ 24 * 60 := Nat.mul_le_mul_right _ hk
  omega

/-- one of the lists is too long for a term -/
def anyLong (xss : List (List Int)) : Bool := xss.any fun t => decide (60 < t.length)
theorem anyLong_iff {xss : List (List Int)} : anyLong xss = true ↔ ∃ i, 60 < (xss.getD i []).length := by
  unfold anyLong
  rw [List.any_eq_true]
  refine ⟨fun ⟨t, ht, h⟩ => ?_, fun ⟨i, h⟩ => ?_⟩
  · obtain ⟨i, hi, rfl⟩ := List.getElem_of_mem ht
    exact ⟨i, by simpa [List.getD, hi] using h⟩
  · by_cases hi : i < xss.length
    · refine ⟨xss[i], List.getElem_mem hi, ?_⟩
      simpa [List.getD, hi] using h
    · rw [show xss.getD i [] = [] by simp [List.getD, hi]] at h
      simp at h
theorem anyLong_comp (us ss : List (List Int)) : anyLong (plainL (compL us ss) 24) = !compOk us ss := by
  cases h : compOk us ss with
  | true =>
    cases e : anyLong (plainL (compL us ss) 24) with
    | false => rfl
    | true =>
      obtain ⟨i, hi⟩ := anyLong_iff.1 e
      rw [plain_get] at hi
      by_cases h24 : i < 24
      · rw [rows_get h24] at hi
        have := compOk_iff.1 h i h24
        unfold bare at hi
        split at hi
        · simp at hi
        · omega
      · rw [show (rowsL (compL us ss) 24).getD i [] = [] by simp [List.getD, rows_len, h24]] at hi
        simp at hi
  | false =>
    have hn : ∃ i, i < 24 ∧ ¬ (compL us ss i).length ≤ 60 := by
      refine Classical.byContradiction fun hne => ?_
      have : compOk us ss = true := compOk_iff.2 fun i hi => Classical.byContradiction fun hl => hne ⟨i, hi, hl⟩
      rw [h] at this
      cases this
    obtain ⟨i, hi, hl⟩ := hn
    refine anyLong_iff.2 ⟨i, ?_⟩
    rw [plain_get, rows_get hi]
    unfold bare
    rw [if_neg (fun e => by rw [e] at hl; simp [vt] at hl)]
    omega
theorem composed_tot {sg : List Int} {ss us : List (List Int)} : tot (composedI sg ss us) ≤ 1048576 := by
  cases h : composedB sg ss us with
  | false => rw [composed_no h]; simp [tot, sumL]
  | true =>
    rw [composed_yes h]
    unfold composedB at h
    simp only [Bool.and_eq_true] at h
    have h1 := tot_le (plain_each (L := compL us ss) (m := 24) (comp_len h.1 h.2.1))
    have h2 := plain_len (compL us ss) 24
    have h4 : (plainL (compL us ss) 24).length * 3600 ≤ 24 * 3600 := Nat.mul_le_mul_right _ h2
    omega
end Go.Proofs.Ytdeegjeopkcomaa.compMath
