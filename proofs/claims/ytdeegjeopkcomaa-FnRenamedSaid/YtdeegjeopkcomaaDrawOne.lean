/-
  CONTRACT: spec.l2DrawOne: a drawn signature and a drawn list, off a cursor. Conditions: a drawing cursor. By an AI agent.
-/
import Derived.Test.YtdeegjeopkcomaaDrawPairL
namespace Go.Proofs.Ytdeegjeopkcomaa.drawOne
open Go.RowKit Go.Proofs.Ytdeegjeopkcomaa.base Go.Proofs.Ytdeegjeopkcomaa.ints Go.Proofs.Ytdeegjeopkcomaa.sig Go.Proofs.Ytdeegjeopkcomaa.term Go.Proofs.Ytdeegjeopkcomaa.cursor Go.Proofs.Ytdeegjeopkcomaa.termOk Go.Proofs.Ytdeegjeopkcomaa.marks Go.Proofs.Ytdeegjeopkcomaa.app Go.Proofs.Ytdeegjeopkcomaa.sym Go.Proofs.Ytdeegjeopkcomaa.dice Go.Proofs.Ytdeegjeopkcomaa.drawSig Go.Proofs.Ytdeegjeopkcomaa.drawTerm Go.Proofs.Ytdeegjeopkcomaa.drawAny Go.Proofs.Ytdeegjeopkcomaa.drawPair

/-- a new block is written -/
theorem grown_set {a b : World} {r : Option Nat} (h : a.grownBy b r) {q : Nat} (hq : a.heap.size ≤ q) (i : Nat) (u : Value) : a.grownBy (b.setCell ⟨q, i, none⟩ u) r :=
  ⟨h.os, h.tape, h.output, by simpa [World.setCell] using h.size, fun k hk hn => (Below.heap_setCell _ _ _ _ (by show k ≠ q; omega)).trans (h.block k hk hn)⟩
theorem Rd.drew {w : World} {p B : Nat} {A : Option Addr} {n : Nat} {xs : List Int} (h : Rd w p B A n xs) : Rd w.drew p B A n xs := h

/-- a drawn signature and a drawn list, off a cursor -/
def AnsOne (w : World) (p : Nat) (A : Option Addr) (n c : Nat) (e : Ending) (w' : World) : Prop :=
  ∃ S sn sc sg O on oc xs, e = .returned (.tuple #[.agg #[.slice S sn sc], .slice O on oc]) ∧ Rd w' p w'.heap.size S sn sg ∧ Rd w' p w'.heap.size O on xs ∧ sn ≤ 9 ∧ on ≤ 65 ∧ on ≤ oc ∧ oc ≤ 9223372036854775807 ∧ Dice w' p A n c ∧ w.grownBy w' (some p)

theorem one_of {w u : World} {p : Nat} {A : Option Addr} {n c : Nat} {S : Option Addr} {sn sc : Nat} {sg : List Int} {O : Option Addr} {on oc : Nat} {xs : List Int} {B : Nat} {a : Option Addr} {l k : Nat} (hs : Rd u p B S sn sg) (hB : B ≤ u.heap.size) (ho : Rd u p u.heap.size O on xs)
    (h1 : sn ≤ 9) (h2 : on ≤ 65) (h3 : on ≤ oc) (h4 : oc ≤ 9223372036854775807) (d : Dice u p A n c) (hp : p < w.heap.size) (hg : w.grownBy u (some p)) (hN : u.cell? ⟨w.heap.size, 0, none⟩ = some (.slice a l k)) :
    AnsOne w p A n c (.returned (.tuple #[.agg #[.slice S sn sc], .slice O on oc])) (u.setCell ⟨w.heap.size, 0, none⟩ (.slice S sn sc)) :=
  ⟨S, sn, sc, sg, O, on, oc, xs, rfl, (Rd.other (Rd.more hs hB) hN _).more (by simp), (Rd.other ho hN _).more (by simp), h1, h2, h3, h4, Dice.other d hN (by omega) _, grown_set hg (Nat.le_refl _) _ _⟩

set_option maxHeartbeats 4000000 in
theorem drawOne (p : Nat) (A : Option Addr) (n c : Nat) (w : World) (hd : Dice w p A n c) :
    Calls Try.prog 77 #[.pointer (some ⟨p, 0, none⟩)] w (AnsOne w p A n c) := by
  have hp := hd.lt
  obtain ⟨W0, hW0⟩ : ∃ W0, W0 = w.alloc (.cells #[.slice none 0 0] 26) := ⟨_, rfl⟩
  have rN : Row W0 w.heap.size 26 #[.slice none 0 0] := by rw [hW0]; exact Row.new _ _ _
  have d0 : Dice W0 p A n c := by rw [hW0]; exact hd.alloc _
  have g0 : w.grownBy W0 (some p) := by rw [hW0]; exact World.grownBy_alloc _ _ _
  have L2 := Lib.hid (drawSigAny p A n c W0 d0)
  have hp1 := d0.lt
  have zp : ¬ p = w.heap.size := by omega
  have HW0 := Lib.hid hW0
  clear hd d0 hW0
  go_enter Try.func77, Try.ntmps77
  go_wp2_with fail
  rw [← HW0.out]
  refine L2.out.mono ?_
  rintro e w2 ⟨S, sn, sc, sg, rfl, o2, hshort, d2, g2⟩
  have hsn : sn ≤ 9 := by rw [Own.len o2]; exact hshort
  have z0 := rN.lt
  have z2 := g2.size
  replace rN := Row.away rN g2 (fun e => by injection e; omega)
  have G2 := grown_trans g0 g2
  have T0 := DT.start (sc := sc) d2 (Rd.of_own o2 hp1)
  obtain ⟨W, hW⟩ : ∃ W, W = w2.alloc (.cells #[.slice S sn sc] 26) := ⟨_, rfl⟩
  replace rN : Row W w.heap.size 26 #[.slice none 0 0] := by rw [hW]; exact rN.alloc _
  rw [← hW] at T0
  have HW := Lib.hid hW
  have cV : W.cell? ⟨w2.heap.size, 0, none⟩ = some (.slice S sn sc) := T0.r.cell 0
  have cN : W.cell? ⟨w.heap.size, 0, none⟩ = some (.slice none 0 0) := rN.cell 0
  have fN : W.frozen? ⟨w.heap.size, 0, none⟩ = false := rN.free 0
  have zNv : w.heap.size < w2.heap.size := by omega
  have zne1 : ¬ w2.heap.size = w.heap.size := by omega
  have zne2 : ¬ w.heap.size = w2.heap.size := by omega
  have T1 := T0.drew
  have rN1 := rN.drew
  clear o2 hshort d2 g2 g0 T0 hW L2 rN
  go_wp2_with fail
  rw [← HW.out]
  go_region_held3 (fun w' => w'.cell? ⟨w2.heap.size, 0, none⟩ = some (.slice S sn sc))
    (go_keep)
    (first
      | (go_at_call 62; refine (drawAny p A n c S sn sc sg W.drew T1.d (T1.s.more T1.g.size) (by omega)).mono ?_; rintro e w3 ⟨O, on, oc, xs, rfl, ra, h1, h2, h3, h4, d3, g3⟩; have T2 := T1.dice d3 g3; have cV3 : w3.cell? ⟨w2.heap.size, 0, none⟩ = some (.slice S sn sc) := T2.r.cell 0; have rN3 := Row.away rN1 g3 (fun e => by injection e; omega); have cN3 : w3.cell? ⟨w.heap.size, 0, none⟩ = some (.slice none 0 0) := rN3.cell 0; have fN3 : w3.frozen? ⟨w.heap.size, 0, none⟩ = false := rN3.free 0; have F := Lib.hid (one_of (sc := sc) (p := p) T2.s T2.g.size ra hsn h4 h1 h2 T2.d hp (grown_trans G2 T2.g) cN3)))
  clear cV3 rN3 T2 ra d3 g3 rN1 T1 G2 fN3
  go_wp2
  exact bodyPost_ret (v := .tuple #[.agg #[.slice S sn sc], .slice O on oc]) (by simp [results, Try.results77, go_sem, cN3]) rfl F.out
end Go.Proofs.Ytdeegjeopkcomaa.drawOne
