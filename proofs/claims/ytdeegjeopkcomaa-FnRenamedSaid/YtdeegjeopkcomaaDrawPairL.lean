/-
  SMALL FACTS for what draws a signature and more: a store into a variable of the caller's leaves the drawn alone. Conditions: none. By an AI agent.
-/
import Derived.Test.YtdeegjeopkcomaaDrawNew
namespace Go.Proofs.Ytdeegjeopkcomaa.drawPair
open Go.RowKit Go.Proofs.Ytdeegjeopkcomaa.base Go.Proofs.Ytdeegjeopkcomaa.ints Go.Proofs.Ytdeegjeopkcomaa.sig Go.Proofs.Ytdeegjeopkcomaa.term Go.Proofs.Ytdeegjeopkcomaa.cursor Go.Proofs.Ytdeegjeopkcomaa.termOk Go.Proofs.Ytdeegjeopkcomaa.marks Go.Proofs.Ytdeegjeopkcomaa.app Go.Proofs.Ytdeegjeopkcomaa.sym Go.Proofs.Ytdeegjeopkcomaa.dice Go.Proofs.Ytdeegjeopkcomaa.drawSig Go.Proofs.Ytdeegjeopkcomaa.drawTerm Go.Proofs.Ytdeegjeopkcomaa.drawAny Go.Proofs.Ytdeegjeopkcomaa.drawTwo
set_option maxRecDepth 100000

/-- a cell that holds a slice is no cell of numbers -/
theorem Rd.other {w : World} {p B N : Nat} {O : Option Addr} {on : Nat} {xs : List Int} {a : Option Addr} {l k : Nat} (h : Rd w p B O on xs) (hN : w.cell? ⟨N, 0, none⟩ = some (.slice a l k)) (u : Value) : Rd (w.setCell ⟨N, 0, none⟩ u) p B O on xs :=
  ⟨h.1, fun hn => by
    obtain ⟨b, off, e, hb, hne, hc⟩ := h.2 hn
    refine ⟨b, off, e, hb, hne, fun j hj => ?_⟩
    rw [World.cell?_setCell_other w _ _ _ (fun e => by rw [e] at hN; rw [hc j hj] at hN; cases hN)]
    exact hc j hj⟩
theorem Dice.other {w : World} {p N : Nat} {A : Option Addr} {n c : Nat} {a : Option Addr} {l k : Nat} (d : Dice w p A n c) (hN : w.cell? ⟨N, 0, none⟩ = some (.slice a l k)) (hp : p ≠ N) (u : Value) : Dice (w.setCell ⟨N, 0, none⟩ u) p A n c := by
  obtain ⟨i, h, d⟩ := d
  refine ⟨i, h, d.row.far (p := ⟨N, 0, none⟩) hp u, d.le, fun hn => ?_, d.hn⟩
  obtain ⟨b, off, e, hb, hc⟩ := d.s hn
  refine ⟨b, off, e, hb, fun j hj => ?_⟩
  obtain ⟨x, x0, x1, hx⟩ := hc j hj
  refine ⟨x, x0, x1, ?_⟩
  rw [World.cell?_setCell_other w _ _ _ (fun e => by rw [e] at hN; rw [hx] at hN; cases hN)]
  exact hx

/-- a drawn signature and a drawn list -/
def AnsPair (w : World) (e : Ending) (w' : World) : Prop :=
  ∃ S sn sc sg O on oc xs, e = .returned (.tuple #[.agg #[.slice S sn sc], .slice O on oc]) ∧ Seg w' w'.heap.size S sn sg ∧ Seg w' w'.heap.size O on xs ∧ sn ≤ 9 ∧ on ≤ 65 ∧ on ≤ oc ∧ oc ≤ 9223372036854775807 ∧ Below w.heap.size w w'

theorem pair_of {w u : World} {p : Nat} {S : Option Addr} {sn sc : Nat} {sg : List Int} {O : Option Addr} {on oc : Nat} {xs : List Int} {B : Nat} {a : Option Addr} {l k : Nat} (hs : Rd u p B S sn sg) (hB : B ≤ u.heap.size) (ho : Rd u p u.heap.size O on xs)
    (h1 : sn ≤ 9) (h2 : on ≤ 65) (h3 : on ≤ oc) (h4 : oc ≤ 9223372036854775807) (hb : Below w.heap.size w u) (hN : u.cell? ⟨w.heap.size, 0, none⟩ = some (.slice a l k)) :
    AnsPair w (.returned (.tuple #[.agg #[.slice S sn sc], .slice O on oc])) (u.setCell ⟨w.heap.size, 0, none⟩ (.slice S sn sc)) :=
  ⟨S, sn, sc, sg, O, on, oc, xs, rfl, (Rd.other (Rd.more hs hB) hN _).seg.more (by simp), (Rd.other ho hN _).seg.more (by simp), h1, h2, h3, h4, hb.setCell (Nat.le_refl _) _⟩

theorem Dice.unN {w : World} {p : Nat} {A : Option Addr} {n c : Nat} (d : Dice w.drew p A n c) : Dice w p A n c := by
  obtain ⟨i, h, d⟩ := d
  exact ⟨i, h, d.row, d.le, d.s, d.hn⟩

end Go.Proofs.Ytdeegjeopkcomaa.drawPair
