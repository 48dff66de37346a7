/-
  ARGUMENTS OPENED: a struct of one slice of slices of int64, as the row's form hands it over, reads as a list of lists ('Segs'). Conditions: none; plain lemmas over any program. By an AI agent.
-/
import Derived.Test.YtdeegjeopkcomaaOpen
import Derived.Test.YtdeegjeopkcomaaSegs
import Derived.Deep.Matrix
namespace Go.Proofs.Ytdeegjeopkcomaa.openS
open Go.ChangeShapes Go.WideShapes Go.ChangeAt Go.RowKit Go.Proofs.Ytdeegjeopkcomaa.base Go.Proofs.Ytdeegjeopkcomaa.openArgs Go.Proofs.Ytdeegjeopkcomaa.segs

section
variable {H : Type} {enc : TypeId × Value → H} {P : Program} {w : World}

theorem segs_of_rows {a : Addr} {len cap : Nat} {A : Nat → Option Addr} {L C : Nat → Nat} {Z : Nat → List Int} (hl : len ≤ cap)
    (h : ∀ r, r < cap → w.cell? (a.add r) = some (.slice (A r) (L r) (C r)) ∧ L r ≤ C r ∧ C r ≤ maxLen ∧ (Z r).length = C r ∧ (∀ n ∈ Z r, (Lit.int .i64 n).wf = true) ∧ (A r = none → C r = 0) ∧
      ∀ a', A r = some a' → 0 ≤ a'.block ∧ ∀ c, c < C r → w.cell? (a'.add c) = some (.int .i64 ((Z r).getD c 0))) :
    Segs w w.heap.size (some a) len ((List.range len).map fun r => (Z r).take (L r)) := by
  refine ⟨by simp, fun hn => ?_⟩
  obtain ⟨b, off, spot⟩ := a
  have h0 := (h 0 (by omega)).1
  have hspot : spot = none := by simpa [Addr.add] using World.cell?_spot h0
  subst hspot
  refine ⟨b, off, rfl, ?_, fun j hj => ?_⟩
  · have : w.cell? ⟨b, off, none⟩ = some (.slice (A 0) (L 0) (C 0)) := by simpa [Addr.add] using h0
    exact World.block_lt_of_cell? _ _ this
  · obtain ⟨h1, h2, h3, h4, h5, h6, h7⟩ := h j (by omega)
    rw [show (⟨b, off, none⟩ : Addr).add j = ⟨b, off + j, none⟩ by unfold Addr.add; split <;> simp_all] at h1
    refine ⟨A j, L j, C j, h1, ?_, h2, by unfold maxLen at h3; omega, h6⟩
    have e : (((List.range len).map fun r => (Z r).take (L r)).getD j []) = (Z j).take (L j) := by simp [List.getD, hj]
    rw [e]
    refine Seg.of_row (cap := C j) ?_
    cases hA : A j with
    | none =>
      have hC := h6 hA
      exact .inl ⟨rfl, by omega, hC, List.eq_nil_of_length_eq_zero (by omega)⟩
    | some x => exact .inr ⟨x, rfl, h2, h3, h4, fun i hi => (h7 x hA).2 i (by omega), h5⟩

/-- a struct whose one field is a slice of slices of int64 -/
theorem open_subst {s t e q : TypeId} {f0 : Field} {r : Reach} {b0 : Nat} {v : Value} {d : DataW H} {p : List MemPlace} {held : Bool} (hs : P.underlying s = some (.struct #[f0])) (hone : Go.Deep.oneCellFields P #[f0] = true) (hC : P.cellsOf s = 1)
    (hf : f0.type = t) (ht : P.underlying t = some (.slice e)) (he : P.underlying e = some (.slice q)) (hq : P.underlying q = some (.int .i64)) (ce : P.cellsOf e = 1) (cq : P.cellsOf q = 1)
    (hv : Value.okWide P w r b0 s v) (h : DataW.Trod enc P w 0 (fun _ => true) held s v d p) : ∃ a n c xss, v = .agg #[.slice a n c] ∧ Segs w w.heap.size a n xss ∧ n ≤ 9223372036854775807 := by
  subst hf
  obtain ⟨cs, rfl, hsz⟩ := okWide_struct hs hv
  obtain ⟨c0, rfl⟩ := array1 (hsz.trans hC)
  obtain ⟨fuel, hfu⟩ := h
  obtain ⟨y0, n, _, _, h0⟩ := trod_struct1 hs hfu
  obtain ⟨o0, k0⟩ := Go.Deep.hone_of hone 0 f0 rfl
  have h0' : DataW.trod enc P w 0 (fun _ => true) held n f0.type [c0] = some y0 := by simpa [Value.cells, o0, k0] using h0
  obtain ⟨a, l, c, hcs⟩ := Go.Joins.slice_form ht h0'
  simp at hcs
  subst hcs
  rcases Go.Deep.open_int_rows ht he hq ce cq h0' with ⟨hcs, _⟩ | ⟨x, len, cap, A, L, C, Z, hcs, _, hl, hm, _, hr⟩
  · simp at hcs
    obtain ⟨rfl, rfl, rfl⟩ := hcs
    exact ⟨none, 0, 0, [], rfl, Segs.empty, by omega⟩
  · simp at hcs
    obtain ⟨rfl, rfl, rfl⟩ := hcs
    exact ⟨some x, l, c, _, rfl, segs_of_rows hl hr, by unfold maxLen at hm; omega⟩
end
end Go.Proofs.Ytdeegjeopkcomaa.openS
