/-
  PLAIN MATHEMATICS of terms in prefix notation: the number of arguments of a number ('ar'), how far a term reaches ('scan'). Conditions: none. By an AI agent.
-/
namespace Go.Proofs.Ytdeegjeopkcomaa.term

/-- how many arguments a number has: 0 for a variable, the arity for a symbol, -1 for neither -/
def ar (sg : List Int) (x : Int) : Int := if -24 ≤ x ∧ x ≤ -1 then 0 else if 0 ≤ x ∧ x < sg.length then sg.getD x.toNat 0 else -1

def Arities (sg : List Int) : Prop := ∀ j, j < sg.length → 0 ≤ sg.getD j 0 ∧ sg.getD j 0 ≤ 3

theorem ar_var {sg : List Int} {x : Int} (h : -24 ≤ x ∧ x ≤ -1) : ar sg x = 0 := by unfold ar; rw [if_pos h]
theorem ar_sym {sg : List Int} {x : Int} (h : 0 ≤ x) (h' : x < sg.length) : ar sg x = sg.getD x.toNat 0 := by unfold ar; rw [if_neg (by omega), if_pos ⟨h, h'⟩]
theorem ar_no {sg : List Int} {x : Int} (h : ¬ (-24 ≤ x ∧ x ≤ -1)) (h' : ¬ (0 ≤ x ∧ x < sg.length)) : ar sg x = -1 := by unfold ar; rw [if_neg h, if_neg h']
theorem ar_bd {sg : List Int} (hs : Arities sg) (x : Int) : -1 ≤ ar sg x ∧ ar sg x ≤ 3 := by
  unfold ar
  split
  · omega
  · split
    · have := hs x.toNat (by omega); omega
    · omega

/-- how many numbers the first so many terms take; none where they have no end -/
def scan (sg : List Int) : Nat → List Int → Option Nat
  | 0, _ => some 0
  | _ + 1, [] => none
  | m + 1, x :: r => if ar sg x < 0 then none else (scan sg (m + (ar sg x).toNat) r).map (· + 1)

theorem scan_zero (sg l : List Int) : scan sg 0 l = some 0 := by cases l <;> rfl
theorem scan_nil (sg : List Int) (m : Nat) : scan sg (m + 1) [] = none := rfl
theorem scan_bad {sg : List Int} {m : Nat} {x : Int} {r : List Int} (h : ar sg x < 0) : scan sg (m + 1) (x :: r) = none := by rw [scan, if_pos h]
theorem scan_step {sg : List Int} {m : Nat} {x : Int} {r : List Int} (h : ¬ ar sg x < 0) : scan sg (m + 1) (x :: r) = (scan sg (m + (ar sg x).toNat) r).map (· + 1) := by rw [scan, if_neg h]

theorem drop_cons {xs : List Int} {k : Nat} (hk : k < xs.length) : xs.drop k = xs.getD k 0 :: xs.drop (k + 1) := by
  rw [List.drop_eq_getElem_cons hk]
  simp [List.getD, hk]

/-- what a walk over the numbers from a place on knows at place k, with m terms still to come -/
def Scn (sg t : List Int) (at_ k m : Nat) : Prop := at_ ≤ k ∧ k ≤ t.length ∧ scan sg 1 (t.drop at_) = (scan sg m (t.drop k)).map (· + (k - at_))

theorem Scn.start {sg t : List Int} {at_ : Nat} (h : at_ ≤ t.length) : Scn sg t at_ at_ 1 := by
  refine ⟨Nat.le_refl _, h, ?_⟩
  rw [Nat.sub_self]
  cases scan sg 1 (t.drop at_) <;> rfl
theorem Scn.step {sg t : List Int} {at_ k m : Nat} {x : Int} (h : Scn sg t at_ k (m + 1)) (hk : k < t.length) (hx : t.getD k 0 = x) (ha : ¬ ar sg x < 0) : Scn sg t at_ (k + 1) (m + (ar sg x).toNat) := by
  obtain ⟨h1, h2, h3⟩ := h
  refine ⟨by omega, hk, ?_⟩
  rw [h3, drop_cons hk, hx, scan_step ha, Option.map_map]
  congr 1
  funext z
  simp only [Function.comp]
  omega
theorem Scn.bad {sg t : List Int} {at_ k m : Nat} {x : Int} (h : Scn sg t at_ k (m + 1)) (hk : k < t.length) (hx : t.getD k 0 = x) (ha : ar sg x < 0) : scan sg 1 (t.drop at_) = none := by
  rw [h.2.2, drop_cons hk, hx, scan_bad ha]
  rfl
theorem Scn.out {sg t : List Int} {at_ k m : Nat} (h : Scn sg t at_ k (m + 1)) (hk : ¬ k < t.length) : scan sg 1 (t.drop at_) = none := by
  rw [h.2.2, List.drop_eq_nil_of_le (by omega), scan_nil]
  rfl
theorem Scn.done {sg t : List Int} {at_ k : Nat} (h : Scn sg t at_ k 0) : scan sg 1 (t.drop at_) = some (k - at_) := by
  rw [h.2.2, scan_zero]
  simp

/-- the index behind what begins at a place; -1 where it has no end -/
def endI (sg t : List Int) (at_ : Nat) : Int := match scan sg 1 (t.drop at_) with
  | some j => (at_ : Int) + j
  | none => -1
theorem endI_some {sg t : List Int} {at_ j : Nat} (h : scan sg 1 (t.drop at_) = some j) : endI sg t at_ = (at_ : Int) + j := by unfold endI; rw [h]
theorem endI_none {sg t : List Int} {at_ : Nat} (h : scan sg 1 (t.drop at_) = none) : endI sg t at_ = -1 := by unfold endI; rw [h]
theorem Scn.endI {sg t : List Int} {at_ k : Nat} (h : Scn sg t at_ k 0) : endI sg t at_ = (k : Int) := by
  rw [endI_some h.done]; have := h.1; omega

/-- a list that is one term -/
def termB (sg t : List Int) : Bool := decide (t.length ≤ 60) && decide (scan sg 1 t = some t.length)
end Go.Proofs.Ytdeegjeopkcomaa.term
