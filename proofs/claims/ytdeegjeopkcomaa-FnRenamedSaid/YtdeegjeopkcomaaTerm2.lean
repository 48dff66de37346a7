/-
  PLAIN MATHEMATICS of terms, more: a scan parts in two, within a term each place begins a term; the places of arguments; the depth. Conditions: none. By an AI agent.
-/
import Derived.Test.YtdeegjeopkcomaaTerm
namespace Go.Proofs.Ytdeegjeopkcomaa.term

theorem scan_split {sg : List Int} : ∀ {l : List Int} {p q j : Nat}, scan sg (p + q) l = some j → ∃ i, i ≤ j ∧ scan sg p l = some i ∧ scan sg q (l.drop i) = some (j - i) := by
  intro l
  induction l with
  | nil =>
    intro p q j h
    cases p with
    | zero => exact ⟨0, Nat.zero_le _, rfl, by simpa using h⟩
    | succ p => rw [show p + 1 + q = (p + q) + 1 by omega, scan_nil] at h; cases h
  | cons x r ih =>
    intro p q j h
    cases p with
    | zero => exact ⟨0, Nat.zero_le _, rfl, by simpa using h⟩
    | succ p =>
      rw [show p + 1 + q = (p + q) + 1 by omega] at h
      by_cases ha : ar sg x < 0
      · rw [scan_bad ha] at h; cases h
      · rw [scan_step ha] at h
        obtain ⟨j', hj', rfl⟩ := Option.map_eq_some_iff.1 h
        rw [show p + q + (ar sg x).toNat = (p + (ar sg x).toNat) + q by omega] at hj'
        obtain ⟨i, h1, h2, h3⟩ := ih hj'
        refine ⟨i + 1, by omega, by rw [scan_step ha, h2]; rfl, ?_⟩
        rw [List.drop_succ_cons, h3]
        congr 1
        omega

theorem scan_tail {sg : List Int} : ∀ {l : List Int} {q j a : Nat}, scan sg q l = some j → a < j → ∃ q', scan sg (q' + 1) (l.drop a) = some (j - a) := by
  intro l
  induction l with
  | nil =>
    intro q j a h ha
    cases q with
    | zero => rw [scan_zero] at h; injection h; omega
    | succ q => rw [scan_nil] at h; cases h
  | cons x r ih =>
    intro q j a h ha
    cases q with
    | zero => rw [scan_zero] at h; injection h; omega
    | succ q =>
      cases a with
      | zero => exact ⟨q, h⟩
      | succ a =>
        by_cases hx : ar sg x < 0
        · rw [scan_bad hx] at h; cases h
        · rw [scan_step hx] at h
          obtain ⟨j', hj', rfl⟩ := Option.map_eq_some_iff.1 h
          obtain ⟨q', h'⟩ := ih (a := a) hj' (by omega)
          exact ⟨q', by rw [List.drop_succ_cons, h']; congr 1; omega⟩

theorem scan_pos {sg : List Int} {l : List Int} {q j : Nat} (h : scan sg (q + 1) l = some j) : 1 ≤ j := by
  cases l with
  | nil => rw [scan_nil] at h; cases h
  | cons x r =>
    by_cases hx : ar sg x < 0
    · rw [scan_bad hx] at h; cases h
    · rw [scan_step hx] at h
      obtain ⟨j', _, rfl⟩ := Option.map_eq_some_iff.1 h
      omega

theorem scan_le {sg : List Int} : ∀ {l : List Int} {q j : Nat}, scan sg q l = some j → j ≤ l.length := by
  intro l
  induction l with
  | nil =>
    intro q j h
    cases q with
    | zero => rw [scan_zero] at h; injection h; omega
    | succ q => rw [scan_nil] at h; cases h
  | cons x r ih =>
    intro q j h
    cases q with
    | zero => rw [scan_zero] at h; injection h; omega
    | succ q =>
      by_cases hx : ar sg x < 0
      · rw [scan_bad hx] at h; cases h
      · rw [scan_step hx] at h
        obtain ⟨j', hj', rfl⟩ := Option.map_eq_some_iff.1 h
        have := ih hj'
        simp
        omega

/-- within a term each place begins a term -/
theorem scan_at {sg t : List Int} (h : scan sg 1 t = some t.length) {a : Nat} (ha : a < t.length) : ∃ j, scan sg 1 (t.drop a) = some j ∧ 1 ≤ j ∧ a + j ≤ t.length := by
  obtain ⟨q', h'⟩ := scan_tail h ha
  rw [Nat.add_comm] at h'
  obtain ⟨i, h1, h2, _⟩ := scan_split h'
  have h3 := scan_pos (q := 0) h2
  exact ⟨i, h2, h3, by omega⟩

/-- the arguments of what begins at a place: so many terms from the next place on -/
theorem scan_args {sg t : List Int} {a j : Nat} (h : scan sg 1 (t.drop a) = some j) : ∃ i, j = i + 1 ∧ a < t.length ∧ ¬ ar sg (t.getD a 0) < 0 ∧ scan sg (ar sg (t.getD a 0)).toNat (t.drop (a + 1)) = some i := by
  by_cases ha : a < t.length
  · rw [drop_cons ha] at h
    by_cases hx : ar sg (t.getD a 0) < 0
    · rw [scan_bad hx] at h; cases h
    · rw [scan_step hx, Nat.zero_add] at h
      obtain ⟨i, hi, rfl⟩ := Option.map_eq_some_iff.1 h
      exact ⟨i, rfl, ha, hx, hi⟩
  · rw [List.drop_eq_nil_of_le (by omega), scan_nil] at h; cases h

/-- so many terms: the first one, and the rest behind it -/
theorem scan_first {sg t : List Int} {q a i : Nat} (h : scan sg (q + 1) (t.drop a) = some i) : ∃ j, scan sg 1 (t.drop a) = some j ∧ 1 ≤ j ∧ j ≤ i ∧ scan sg q (t.drop (a + j)) = some (i - j) := by
  rw [Nat.add_comm] at h
  obtain ⟨j, h1, h2, h3⟩ := scan_split h
  rw [List.drop_drop] at h3
  exact ⟨j, h2, scan_pos (q := 0) h2, h1, h3⟩

/-- how far what begins at a place reaches -/
def len1 (sg t : List Int) (a : Nat) : Nat := (scan sg 1 (t.drop a)).getD 0
theorem len1_eq {sg t : List Int} {a j : Nat} (h : scan sg 1 (t.drop a) = some j) : len1 sg t a = j := by unfold len1; rw [h]; rfl

/-- the places of so many terms from a place on -/
def places (sg t : List Int) : Nat → Nat → List Int
  | 0, _ => []
  | k + 1, p => (p : Int) :: places sg t k (p + len1 sg t p)

/-- the greatest of what g gives for so many terms from a place on -/
def maxOver (sg t : List Int) (g : Nat → Int) : Nat → Nat → Int
  | 0, _ => 0
  | k + 1, p => max (g p) (maxOver sg t g k (p + len1 sg t p))

/-- the depth of what begins at a place (fuel first) -/
def dep (sg t : List Int) : Nat → Nat → Int
  | 0, _ => 0
  | f + 1, a => maxOver sg t (dep sg t f) (ar sg (t.getD a 0)).toNat (a + 1) + 1

theorem maxOver_bd {sg t : List Int} {g : Nat → Int} {B : Int} (hB : 0 ≤ B) (hg : ∀ p, 0 ≤ g p ∧ g p ≤ B) : ∀ k p, 0 ≤ maxOver sg t g k p ∧ maxOver sg t g k p ≤ B
  | 0, _ => by simp [maxOver, hB]
  | k + 1, p => by
    have h1 := hg p
    have h2 := maxOver_bd (sg := sg) (t := t) hB hg k (p + len1 sg t p)
    simp only [maxOver]
    omega
theorem dep_bd {sg t : List Int} : ∀ f a, 0 ≤ dep sg t f a ∧ dep sg t f a ≤ f
  | 0, _ => by simp [dep]
  | f + 1, a => by
    have := maxOver_bd (sg := sg) (t := t) (g := dep sg t f) (B := f) (by omega) (fun p => dep_bd (sg := sg) (t := t) f p) (ar sg (t.getD a 0)).toNat (a + 1)
    simp only [dep]
    omega
theorem places_len {sg t : List Int} : ∀ k p, (places sg t k p).length = k
  | 0, _ => rfl
  | k + 1, p => by simp [places, places_len]
end Go.Proofs.Ytdeegjeopkcomaa.term
