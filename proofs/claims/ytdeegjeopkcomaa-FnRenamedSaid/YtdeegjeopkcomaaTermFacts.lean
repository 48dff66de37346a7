/-
  PLAIN MATHEMATICS of valid terms: their parts, the numbers in them. Conditions: none. By an AI agent.
-/
import Derived.Test.YtdeegjeopkcomaaTermOk
import Derived.Test.YtdeegjeopkcomaaTerm2
namespace Go.Proofs.Ytdeegjeopkcomaa.termFacts
open Go.Proofs.Ytdeegjeopkcomaa.sig Go.Proofs.Ytdeegjeopkcomaa.term Go.Proofs.Ytdeegjeopkcomaa.termOk

theorem term_parts {sg t : List Int} (h : termOkB sg t = true) : sigOkB sg = true ∧ t.length ≤ 60 ∧ scan sg 1 t = some t.length := by
  unfold termOkB termB at h
  simp only [Bool.and_eq_true, decide_eq_true_eq] at h
  exact h
theorem term_mk {sg t : List Int} (h1 : sigOkB sg = true) (h2 : t.length ≤ 60) (h3 : scan sg 1 t = some t.length) : termOkB sg t = true := by
  unfold termOkB termB
  simp [h1, h2, h3]
theorem term_len {sg t : List Int} (h : termOkB sg t = true) : 1 ≤ t.length ∧ t.length ≤ 60 := ⟨scan_pos (q := 0) (term_parts h).2.2, (term_parts h).2.1⟩
theorem term_ar {sg t : List Int} (h : termOkB sg t = true) {j : Nat} (hj : j < t.length) : ¬ ar sg (t.getD j 0) < 0 := by
  obtain ⟨i, h1, _, _⟩ := scan_at (term_parts h).2.2 hj
  obtain ⟨_, _, _, h2, _⟩ := scan_args h1
  exact h2
/-- each number is a variable or a symbol -/
theorem term_num {sg t : List Int} (h : termOkB sg t = true) {j : Nat} (hj : j < t.length) : -24 ≤ t.getD j 0 ∧ t.getD j 0 < 8 := by
  have h1 := term_ar h hj
  have h2 := (sig_arities (term_parts h).1).2
  unfold ar at h1
  split at h1
  · omega
  · split at h1
    · omega
    · omega
theorem term_mem {sg t : List Int} (h : termOkB sg t = true) {x : Int} (hx : x ∈ t) : -24 ≤ x ∧ x < 8 := by
  obtain ⟨j, hj, rfl⟩ := List.getElem_of_mem hx
  have := term_num h hj
  simpa [List.getD, hj] using this
end Go.Proofs.Ytdeegjeopkcomaa.termFacts
