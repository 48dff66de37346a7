/-
  ARGUMENTS OPENED: an argument of a law, as the row's form hands it over, reads as a list ('Seg'). Conditions: none; plain lemmas over any program. By an AI agent.
-/
import Derived.Test.YtdeegjeopkcomaaBase
import Derived.ProofKit
import Derived.OpenShut
import Derived.Lib.SmallJoins
namespace Go.Proofs.Ytdeegjeopkcomaa.openArgs
open Go.ChangeShapes Go.WideShapes Go.ChangeAt Go.RowKit Go.Proofs.Ytdeegjeopkcomaa.base

section
variable {H : Type} {enc : TypeId × Value → H} {P : Program} {w : World}

/-- the cells of a slice of int64 -/
theorem ints_of_trod {t e : TypeId} {fuel : Nat} {a : Option Addr} {n c : Nat} {held : Bool} {x : DataW H × List MemPlace} (ht : P.underlying t = some (.slice e)) (he : P.underlying e = some (.int .i64)) (hc : P.cellsOf e = 1)
    (h : DataW.trod enc P w 0 (fun _ => true) held fuel t [.slice a n c] = some x) : ∃ xs, Seg w w.heap.size a n xs ∧ n ≤ 9223372036854775807 := by
  rcases open_ints ht he hc h with ⟨hcs, _⟩ | ⟨y, l, cap, zs, hcs, _, hl, hm, hz, _, hcell, hwz⟩
  · simp at hcs
    obtain ⟨rfl, rfl, rfl⟩ := hcs
    exact ⟨[], Seg.empty, by omega⟩
  · simp at hcs
    obtain ⟨rfl, rfl, rfl⟩ := hcs
    exact ⟨zs.take n, Seg.of_row (.inr ⟨_, rfl, hl, hm, by simpa using hz, hcell, hwz⟩), by unfold maxLen at hm; omega⟩

/-- a slice of int64 -/
theorem open_seg {t e : TypeId} {r : Reach} {b0 : Nat} {v : Value} {d : DataW H} {p : List MemPlace} {held : Bool} (ht : P.underlying t = some (.slice e)) (he : P.underlying e = some (.int .i64)) (hc : P.cellsOf e = 1)
    (hv : Value.okWide P w r b0 t v) (h : DataW.Trod enc P w 0 (fun _ => true) held t v d p) : ∃ a n c xs, v = .slice a n c ∧ Seg w w.heap.size a n xs ∧ n ≤ 9223372036854775807 := by
  obtain ⟨a, n, c, rfl⟩ := okWide_slice ht hv
  obtain ⟨fuel, hf⟩ := h
  obtain ⟨xs, hs, hn⟩ := ints_of_trod ht he hc (by simpa [Value.cells] using hf)
  exact ⟨a, n, c, xs, rfl, hs, hn⟩

theorem array1 {T : Array Value} (h : T.size = 1) : ∃ v, T = #[v] := by
  obtain ⟨l⟩ := T
  match l, h with
  | [v], _ => exact ⟨v, rfl⟩

/-- a struct whose one field is a slice of int64 -/
theorem open_sig {s t e : TypeId} {f0 : Field} {r : Reach} {b0 : Nat} {v : Value} {d : DataW H} {p : List MemPlace} {held : Bool} (hs : P.underlying s = some (.struct #[f0])) (hone : Go.Deep.oneCellFields P #[f0] = true) (hC : P.cellsOf s = 1)
    (hf : f0.type = t) (ht : P.underlying t = some (.slice e)) (he : P.underlying e = some (.int .i64)) (hc : P.cellsOf e = 1)
    (hv : Value.okWide P w r b0 s v) (h : DataW.Trod enc P w 0 (fun _ => true) held s v d p) : ∃ a n c xs, v = .agg #[.slice a n c] ∧ Seg w w.heap.size a n xs ∧ n ≤ 9223372036854775807 := by
  subst hf
  obtain ⟨cs, rfl, hsz⟩ := okWide_struct hs hv
  obtain ⟨c0, rfl⟩ := array1 (hsz.trans hC)
  obtain ⟨fuel, hfu⟩ := h
  obtain ⟨y0, n, _, _, h0⟩ := trod_struct1 hs hfu
  obtain ⟨o0, k0⟩ := Go.Deep.hone_of hone 0 f0 rfl
  have h0' : DataW.trod enc P w 0 (fun _ => true) held n f0.type [c0] = some y0 := by simpa [Value.cells, o0, k0] using h0
  obtain ⟨a, l, c, hcs⟩ := Go.Joins.slice_form ht h0'
  simp at hcs
  subst hcs
  obtain ⟨xs, hseg, hn⟩ := ints_of_trod ht he hc h0'
  exact ⟨a, l, c, xs, rfl, hseg, hn⟩
end
end Go.Proofs.Ytdeegjeopkcomaa.openArgs
