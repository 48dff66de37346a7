/-
  PLAIN MATHEMATICS for laws.FnLess: of two lists exactly one is less or they are equal; less is transitive; the numbers of a term are counted. Conditions: none. By an AI agent.
-/
import Derived.Test.YtadajlchoongcaaLess
import Derived.Test.YtadajlchoongcaaCount
import Derived.Test.YtadajlchoongcaaEndOf
namespace Go.Proofs.Ytadajlchoongcaa.lessMath
open Go.Proofs.Ytadajlchoongcaa.less Go.Proofs.Ytadajlchoongcaa.count Go.Proofs.Ytadajlchoongcaa.term Go.Proofs.Ytadajlchoongcaa.termOk Go.Proofs.Ytadajlchoongcaa.endAt Go.Proofs.Ytadajlchoongcaa.sig

theorem lex_tri : ∀ xs ys : List Int, xs.length = ys.length → (lex xs ys = true ∧ lex ys xs = false ∧ xs ≠ ys) ∨ (lex xs ys = false ∧ lex ys xs = true ∧ xs ≠ ys) ∨ (lex xs ys = false ∧ lex ys xs = false ∧ xs = ys)
  | [], [], _ => .inr (.inr ⟨rfl, rfl, rfl⟩)
  | x :: xs, y :: ys, h => by
    by_cases e : x = y
    · subst e
      have := lex_tri xs ys (by simpa using h)
      simpa [lex] using this
    · have e' : ¬ y = x := fun h => e h.symm
      rcases Int.lt_or_gt_of_ne e with h1 | h1
      · left; simp [lex, e, e', h1]; omega
      · right; left; simp [lex, e, e', h1]; omega
theorem lex_trans : ∀ xs ys zs : List Int, xs.length = ys.length → ys.length = zs.length → lex xs ys = true → lex ys zs = true → lex xs zs = true
  | [], [], _, _, _, h, _ => by simp [lex] at h
  | x :: xs, y :: ys, z :: zs, h1, h2, h3, h4 => by
    by_cases e1 : x = y
    · subst e1
      by_cases e2 : x = z
      · subst e2
        simp [lex] at h3 h4 ⊢
        exact lex_trans xs ys zs (by simpa using h1) (by simpa using h2) h3 h4
      · simpa [lex, e2] using h4
    · by_cases e2 : y = z
      · subst e2
        simpa [lex, e1] using h3
      · simp [lex, e1, e2] at h3 h4
        have e3 : ¬ x = z := by omega
        simp [lex, e3]
        omega
theorem tri (xs ys : List Int) : (lessB xs ys = true ∧ lessB ys xs = false ∧ decide (xs = ys) = false) ∨ (lessB xs ys = false ∧ lessB ys xs = true ∧ decide (xs = ys) = false) ∨ (lessB xs ys = false ∧ lessB ys xs = false ∧ decide (xs = ys) = true) := by
  unfold lessB
  by_cases h : xs.length = ys.length
  · rw [if_pos h, if_pos h.symm]
    rcases lex_tri xs ys h with ⟨a, b, c⟩ | ⟨a, b, c⟩ | ⟨a, b, c⟩
    · exact .inl ⟨a, b, by simp [c]⟩
    · exact .inr (.inl ⟨a, b, by simp [c]⟩)
    · exact .inr (.inr ⟨a, b, by simp [c]⟩)
  · have hne : xs ≠ ys := fun e => h (by rw [e])
    rw [if_neg h, if_neg (fun e => h e.symm)]
    rcases Nat.lt_or_gt_of_ne h with h1 | h1
    · exact .inl ⟨by simp [h1], by simp; omega, by simp [hne]⟩
    · exact .inr (.inl ⟨by simp; omega, by simp [h1], by simp [hne]⟩)
theorem trans (xs ys zs : List Int) (h1 : lessB xs ys = true) (h2 : lessB ys zs = true) : lessB xs zs = true := by
  unfold lessB at *
  by_cases e1 : xs.length = ys.length
  · rw [if_pos e1] at h1
    by_cases e2 : ys.length = zs.length
    · rw [if_pos e2] at h2
      rw [if_pos (e1.trans e2)]
      exact lex_trans xs ys zs e1 e2 h1 h2
    · rw [if_neg e2] at h2
      rw [if_neg (by omega)]
      simp at h2 ⊢
      omega
  · rw [if_neg e1] at h1
    by_cases e2 : ys.length = zs.length
    · rw [if_neg (by omega)]
      simp at h1 ⊢
      omega
    · rw [if_neg e2] at h2
      simp at h1 h2
      rw [if_neg (by omega)]
      simp
      omega

/-- how often the numbers from -24 on occur, k of them -/
def sumC (sg t : List Int) : Nat → Int
  | 0 => 0
  | k + 1 => sumC sg t k + countI sg t (-24 + (k : Int))
theorem countI_bd {sg t : List Int} {m : Nat} (hm : t.length = m) (x : Int) : 0 ≤ countI sg t x ∧ countI sg t x ≤ m := by
  unfold countI
  have := cnt_le t x t.length
  split <;> omega
theorem sumC_bd {sg t : List Int} {m : Nat} (hm : t.length = m) : ∀ k, 0 ≤ sumC sg t k ∧ sumC sg t k ≤ k * m
  | 0 => by simp [sumC]
  | k + 1 => by
    have h1 := sumC_bd (sg := sg) hm k
    have h2 := countI_bd (sg := sg) hm (-24 + (k : Int))
    have e : ((k + 1 : Nat) : Int) * (m : Int) = (k : Int) * m + m := by rw [Int.natCast_add, Int.add_mul]; simp
    simp only [sumC]
    rw [e]
    omega
def inR (K x : Int) : Bool := decide (-24 ≤ x ∧ x < -24 + K)
theorem inR_true {K x : Int} (h : -24 ≤ x ∧ x < -24 + K) : inR K x = true := decide_eq_true h
theorem inR_false {K x : Int} (h : ¬ (-24 ≤ x ∧ x < -24 + K)) : inR K x = false := decide_eq_false h
theorem inR_step (k : Nat) : ∀ l : List Int, l.countP (inR ((k + 1 : Nat) : Int)) = l.countP (inR (k : Int)) + l.count (-24 + (k : Int))
  | [] => rfl
  | x :: l => by
    rw [List.countP_cons, List.countP_cons, List.count_cons, inR_step k l]
    by_cases e : x = -24 + (k : Int)
    · have a1 : inR ((k + 1 : Nat) : Int) x = true := inR_true (by omega)
      have a2 : inR (k : Int) x = false := inR_false (by omega)
      have a3 : (x == -24 + (k : Int)) = true := by simp [e]
      rw [a1, a2, a3]
      simp
      omega
    · have a3 : (x == -24 + (k : Int)) = false := by simp [e]
      by_cases h1 : -24 ≤ x ∧ x < -24 + (k : Int)
      · have a1 : inR ((k + 1 : Nat) : Int) x = true := inR_true (by omega)
        have a2 : inR (k : Int) x = true := inR_true h1
        rw [a1, a2, a3]
        simp
        omega
      · have a1 : inR ((k + 1 : Nat) : Int) x = false := inR_false (by omega)
        have a2 : inR (k : Int) x = false := inR_false h1
        rw [a1, a2, a3]
        simp
theorem sumC_countP {sg t : List Int} (h : termOkB sg t = true) : ∀ k : Nat, sumC sg t k = (t.countP (inR (k : Int)) : Nat)
  | 0 => by
    have : t.countP (inR ((0 : Nat) : Int)) = 0 := by
      rw [List.countP_eq_zero]
      intro x _
      rw [inR_false (by omega)]
      simp
    rw [this]
    rfl
  | k + 1 => by
    simp only [sumC]
    rw [sumC_countP h k]
    unfold countI
    rw [if_pos h]
    unfold cnt
    rw [List.take_length, inR_step]
    simp
theorem scan_all {sg : List Int} : ∀ {l : List Int} {q : Nat}, scan sg q l = some l.length → ∀ x ∈ l, ¬ ar sg x < 0 := by
  intro l
  induction l with
  | nil => intro q _ x hx; cases hx
  | cons y r ih =>
    intro q h x hx
    cases q with
    | zero => rw [scan_zero] at h; injection h with h; simp at h
    | succ q =>
      by_cases ha : ar sg y < 0
      · rw [scan_bad ha] at h; cases h
      · rw [scan_step ha] at h
        obtain ⟨j, hj, e⟩ := Option.map_eq_some_iff.1 h
        have e : j = r.length := by simpa using e
        subst e
        rcases List.mem_cons.1 hx with rfl | hx
        · exact ha
        · exact ih hj x hx
theorem sumC_len {sg t : List Int} (h : termOkB sg t = true) : sumC sg t 32 = t.length := by
  rw [sumC_countP h 32]
  have hp := termOk_parts h
  have hl := (sig_arities hp.1).2.2
  have : t.countP (inR ((32 : Nat) : Int)) = t.length := by
    rw [List.countP_eq_length]
    intro x hx
    have := scan_all hp.2.2 x hx
    unfold ar at this
    refine inR_true ?_
    split at this
    · omega
    · split at this
      · omega
      · omega
  rw [this]
end Go.Proofs.Ytadajlchoongcaa.lessMath
