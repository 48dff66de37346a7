/-
  ARGUMENTS OPENED: a slice of bytes. Conditions: none; a plain lemma over any program. By an AI agent.
-/
import Derived.Test.YtdeegjeopkcomaaOpen
import Derived.Test.YtdeegjeopkcomaaDice
namespace Go.Proofs.Ytdeegjeopkcomaa.openArgs
open Go.ChangeShapes Go.WideShapes Go.ChangeAt Go.RowKit Go.Proofs.Ytdeegjeopkcomaa.base Go.Proofs.Ytdeegjeopkcomaa.dice
set_option maxRecDepth 100000

theorem open_segB {H : Type} {enc : TypeId × Value → H} {P : Program} {w : World} {t e : TypeId} {r : Reach} {b0 : Nat} {v : Value} {d : DataW H} {p : List MemPlace} {held : Bool} (ht : P.underlying t = some (.slice e)) (he : P.underlying e = some (.int .u8)) (hc : P.cellsOf e = 1)
    (hv : Value.okWide P w r b0 t v) (h : DataW.Trod enc P w 0 (fun _ => true) held t v d p) : ∃ a n c, ∃ _ : List Int, v = .slice a n c ∧ SegB w w.heap.size a n ∧ n ≤ 9223372036854775807 := by
  obtain ⟨a, n, c, rfl⟩ := okWide_slice ht hv
  obtain ⟨fuel, hf⟩ := h
  refine ⟨a, n, c, [], rfl, ?_⟩
  rcases open_ints ht he hc hf with ⟨hcs, _⟩ | ⟨y, l, cap, zs, hcs, _, hl, hm, hz, _, hcell, hwz⟩
  · simp [Value.cells] at hcs
    obtain ⟨rfl, rfl, rfl⟩ := hcs
    exact ⟨fun h => absurd h (by omega), by omega⟩
  · simp [Value.cells] at hcs
    obtain ⟨rfl, rfl, rfl⟩ := hcs
    have hz' : zs.length = c := by simpa using hz
    refine ⟨fun hn => ?_, by unfold maxLen at hm; omega⟩
    obtain ⟨b, off, spot⟩ := y
    have h0 := hcell 0 (by omega)
    have hspot : spot = none := by simpa [Addr.add] using World.cell?_spot h0
    subst hspot
    refine ⟨b, off, rfl, ?_, fun j hj => ?_⟩
    · have hx : w.cell? ⟨b, off, none⟩ = some (.int .u8 (zs.getD 0 0)) := by simpa [Addr.add] using h0
      unfold World.cell? at hx
      split at hx
      · rename_i c t f he
        exact (Array.getElem?_eq_some_iff.1 he).1
      · cases hx
    · have hx := hcell j (by omega)
      rw [show (⟨b, off, none⟩ : Addr).add j = ⟨b, off + j, none⟩ by unfold Addr.add; split <;> simp_all] at hx
      have hw := hwz (zs.getD j 0) (by
        have : j < zs.length := by omega
        simp [List.getD, this])
      have hb : 0 ≤ zs.getD j 0 ∧ zs.getD j 0 ≤ 255 := by simpa [Lit.wf, IntKind.min, IntKind.max, IntKind.signed, IntKind.bits] using hw
      exact ⟨_, hb.1, hb.2, hx⟩
end Go.Proofs.Ytdeegjeopkcomaa.openArgs
