/-
  THE WALK of laws.FnExactSigOk: it returns true, whatever the signature, and writes nothing that was there. Conditions: the slice reads as a list. By an AI agent.
-/
import Derived.Test.YtadajlchoongcaaSig
import Derived.Deep.RegionHeld3
namespace Go.Proofs.Ytadajlchoongcaa.wSigOk
open Go.RowKit Go.Proofs.Ytadajlchoongcaa.base Go.Proofs.Ytadajlchoongcaa.ints Go.Proofs.Ytadajlchoongcaa.sig

set_option maxHeartbeats 1000000 in
theorem law (a0 : Option Addr) (n c0 : Nat) (xs : List Int) (w : World) (s0 : Seg w w.heap.size a0 n xs) (hN : n ≤ 9223372036854775807) :
    Calls Try.prog 5 #[.agg #[.slice a0 n c0]] w (Fine w) := by
  obtain ⟨W, hW⟩ : ∃ W, W = w.alloc (.cells #[.slice a0 n c0] 41) := ⟨_, rfl⟩
  have hz : W.heap.size = w.heap.size + 1 := by rw [hW]; simp
  have rA : Row W w.heap.size 41 #[.slice a0 n c0] := by rw [hW]; exact Row.new _ _ _
  have bel : Below w.heap.size w W := by rw [hW]; exact (Below.refl _ _).alloc (Nat.le_refl _) _
  replace s0 : Seg W W.heap.size a0 n xs := (s0.below bel).more (by omega)
  have HW := Lib.hid hW
  clear hW
  by_cases h0 : n ≤ 1048576
  · have L := Lib.hid (szSig a0 n c0 1048576 W hN (by omega) (by omega))
    rw [if_neg (by omega)] at L
    go_enter Try.func5, Try.ntmps5
    go_wp2_with fail
    rw [← HW.out]
    refine L.out.mono ?_
    rintro e w1 ⟨rfl, bb⟩
    replace s0 := s0.next bb
    replace rA := rA.next bb
    replace bel := bel.trans (bb.mono (by omega))
    have hz1 : w.heap.size < w1.heap.size := rA.lt
    have cA : w1.cell? ⟨w.heap.size, 0, none⟩ = some (.slice a0 n c0) := rA.cell 0
    clear bb hz L HW
    go_wp2_with fail
    refine (toSig _ _ _ xs _ s0 h0).mono ?_
    rintro e w2 ⟨g2, cs2, rfl, hg2, r2, hs2, hc2, bb⟩
    replace s0 := s0.next bb
    replace rA := rA.next bb
    replace bel := bel.trans (bb.mono (by omega))
    have s2 : Seg w2 w2.heap.size (some ⟨g2, 0, none⟩) n xs := r2.seg s0.1 r2.lt hc2
    have hz2 : w.heap.size < w2.heap.size := rA.lt
    clear cA bb hz1 r2 hs2 hc2 hg2
    have cA : w2.cell? ⟨w.heap.size, 0, none⟩ = some (.slice a0 n c0) := rA.cell 0
    go_wp2_with fail
    refine (specSigOk _ _ _ xs _ s2 h0).mono ?_
    rintro e w3 ⟨rfl, bb⟩
    replace s0 := s0.next bb
    replace rA := rA.next bb
    replace bel := bel.trans (bb.mono (by omega))
    have hz3 : w.heap.size < w3.heap.size := rA.lt
    clear cA bb hz2 s2
    have cA : w3.cell? ⟨w.heap.size, 0, none⟩ = some (.slice a0 n c0) := rA.cell 0
    go_wp2_with fail
    refine (toSig _ _ _ xs _ s0 h0).mono ?_
    rintro e w4 ⟨g4, cs4, rfl, hg4, r4, hs4, hc4, bb⟩
    replace s0 := s0.next bb
    replace rA := rA.next bb
    replace bel := bel.trans (bb.mono (by omega))
    have s4 : Seg w4 w4.heap.size (some ⟨g4, 0, none⟩) n xs := r4.seg s0.1 r4.lt hc4
    have hz4 : w.heap.size < w4.heap.size := rA.lt
    clear cA bb hz3 r4 hs4 hc4 hg4
    have cA : w4.cell? ⟨w.heap.size, 0, none⟩ = some (.slice a0 n c0) := rA.cell 0
    go_wp2_with fail
    obtain ⟨w5, hw5⟩ : ∃ W, W = w4.alloc (.cells #[.slice (some ⟨g4, 0, none⟩) n n] 26) := ⟨_, rfl⟩
    rw [← hw5]
    have rB : Row w5 w4.heap.size 26 #[.slice (some ⟨g4, 0, none⟩) n n] := by rw [hw5]; exact Row.new _ _ _
    have bb : Below w4.heap.size w4 w5 := by rw [hw5]; exact (Below.refl _ _).alloc (Nat.le_refl _) _
    replace s0 := s0.next bb
    replace s4 := s4.next bb
    replace rA := rA.next bb
    replace bel := bel.trans (bb.mono (by omega))
    have hz5 : w.heap.size < w5.heap.size := rA.lt
    clear cA bb hw5
    refine (implSigOk _ _ _ xs _ s4 h0).mono ?_
    rintro e w6 ⟨rfl, bb⟩
    replace s0 := s0.next bb
    replace s4 := s4.next bb
    replace rA := rA.next bb
    replace rB := rB.next bb
    replace bel := bel.trans (bb.mono (by have := hz5; omega))
    have cA : w6.cell? ⟨w.heap.size, 0, none⟩ = some (.slice a0 n c0) := rA.cell 0
    have cB : w6.cell? ⟨w4.heap.size, 0, none⟩ = some (.slice (some ⟨g4, 0, none⟩) n n) := rB.cell 0
    clear bb
    replace s0 := s0.drew
    replace s4 := s4.drew
    replace rA := rA.drew
    replace rB := rB.drew
    replace bel := bel.drew
    go_wp2_with fail
    go_region_held3 (fun w' => w'.cell? ⟨w4.heap.size, 0, none⟩ = some (.slice (some ⟨g4, 0, none⟩) n n) ∧ w'.cell? ⟨w.heap.size, 0, none⟩ = some (.slice a0 n c0))
      (go_keep)
      (first
        | (go_at_call 35; refine (toSig _ _ _ xs _ s0 h0).mono ?_; rintro e w7 ⟨g7, cs7, rfl, hg7, r7, hs7, hc7, bb⟩; have s7 := (r7.seg s0.1 r7.lt hc7); have rA' := rA.next bb; have rB' := rB.next bb; have cA' : w7.cell? ⟨w.heap.size, 0, none⟩ = some (.slice a0 n c0) := rA'.cell 0; have cB' : w7.cell? ⟨w4.heap.size, 0, none⟩ = some (.slice (some ⟨g4, 0, none⟩) n n) := rB'.cell 0; have s4' := Seg.next s4 bb; have b7 := bel.trans (bb.mono (Nat.le_of_lt rA.lt)))
        | (go_at_call 37; refine (eqSigYes _ _ _ _ _ xs _ s4' s7 h0).mono ?_; rintro e w8 ⟨rfl, bc⟩; have cA'' : w8.cell? ⟨w.heap.size, 0, none⟩ = some (.slice a0 n c0) := (rA'.next bc).cell 0; have cB'' : w8.cell? ⟨w4.heap.size, 0, none⟩ = some (.slice (some ⟨g4, 0, none⟩) n n) := (rB'.next bc).cell 0; have b8 := b7.trans (bc.mono (Nat.le_of_lt rA'.lt))))
    clear cA'' cB'' cA' cB' s4' s7 rA' rB' rA rB s0 s4 cA cB r7
    go_wp2
    go_ret
    exact ⟨rfl, b8⟩
  · have L := Lib.hid (szSig a0 n c0 1048576 W hN (by omega) (by omega))
    rw [if_pos (by omega)] at L
    go_enter Try.func5, Try.ntmps5
    go_wp2_with fail
    rw [← HW.out]
    refine L.out.mono ?_
    rintro e w1 ⟨rfl, bb⟩
    replace bel := bel.trans (bb.mono (by omega))
    go_wp2
    go_ret
    exact ⟨rfl, bel⟩
end Go.Proofs.Ytadajlchoongcaa.wSigOk
