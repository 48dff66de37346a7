/-
  THE WALK of laws.FnExactGroundIn: it returns true, whatever the arguments, and writes nothing that was there. Conditions: the slices read as lists. Written by a program of mine (gen.py). By an AI agent.
-/
import Derived.Test.YtdeegjeopkcomaaVarsOf
import Derived.Deep.RegionHeld3
namespace Go.Proofs.Ytdeegjeopkcomaa.wGroundIn
open Go.RowKit Go.Proofs.Ytdeegjeopkcomaa.base Go.Proofs.Ytdeegjeopkcomaa.ints Go.Proofs.Ytdeegjeopkcomaa.sig Go.Proofs.Ytdeegjeopkcomaa.term Go.Proofs.Ytdeegjeopkcomaa.termOk Go.Proofs.Ytdeegjeopkcomaa.varsOf

set_option maxHeartbeats 2000000 in
theorem law (a0 : Option Addr) (n0 c0 : Nat) (xs0 : List Int) (a1 : Option Addr) (n1 c1 : Nat) (xs1 : List Int) (w : World) (s0 : Seg w w.heap.size a0 n0 xs0) (hN0 : n0 ≤ 9223372036854775807) (s1 : Seg w w.heap.size a1 n1 xs1) (hN1 : n1 ≤ 9223372036854775807) :
    Calls Try.prog 10 #[.agg #[.slice a0 n0 c0], .slice a1 n1 c1] w (Fine w) := by
  obtain ⟨W, hW⟩ : ∃ W, W = w.alloc (.cells #[.slice a0 n0 c0] 47) := ⟨_, rfl⟩
  have rA : Row W w.heap.size 47 #[.slice a0 n0 c0] := by rw [hW]; exact Row.new _ _ _
  have bel : Below w.heap.size w W := by rw [hW]; exact (Below.refl _ _).alloc (Nat.le_refl _) _
  replace s0 := (s0.below bel).more bel.size
  replace s1 := (s1.below bel).more bel.size
  have HW := Lib.hid hW
  clear hW
  by_cases h1 : n1 ≤ 1048576
  case neg =>
    go_enter Try.func10, Try.ntmps10
    go_wp2_with fail
    rw [← HW.out]
    go_ret
    exact ⟨rfl, bel⟩
  have L := Lib.hid (szSig a0 n0 c0 1048576 W hN0 (by omega) (by omega))
  by_cases h0 : n0 ≤ 1048576
  case neg =>
    rw [if_pos (by omega)] at L
    go_enter Try.func10, Try.ntmps10
    go_wp2_with fail
    rw [← HW.out]
    refine L.out.mono ?_
    rintro e w1 ⟨rfl, bb⟩
    replace bel := next_trans bel bb
    go_wp2
    go_ret
    exact ⟨rfl, bel⟩
  rw [if_neg (by omega)] at L
  go_enter Try.func10, Try.ntmps10
  go_wp2_with fail
  rw [← HW.out]
  refine L.out.mono ?_
  rintro e w1 ⟨rfl, bb⟩
  replace s0 := s0.next bb
  replace s1 := s1.next bb
  replace rA := rA.next bb
  replace bel := next_trans bel bb
  clear bb L HW
  have cA : w1.cell? ⟨w.heap.size, 0, none⟩ = some (.slice a0 n0 c0) := rA.cell 0
  go_wp2_with fail
  refine (toSig _ _ _ xs0 _ s0 h0).mono ?_
  rintro e w2 ⟨gp0, cs, rfl, hg, r, hs, hc, bb⟩
  have p0 : Seg w2 w2.heap.size (some ⟨gp0, 0, none⟩) n0 xs0 := r.seg s0.1 r.lt hc
  clear hg r hs hc
  replace s0 := s0.next bb
  replace s1 := s1.next bb
  replace rA := rA.next bb
  replace bel := next_trans bel bb
  clear bb
  replace cA : w2.cell? ⟨w.heap.size, 0, none⟩ = some (.slice a0 n0 c0) := rA.cell 0
  go_wp2_with fail
  refine (toSeg _ _ _ xs1 _ s1 h1).mono ?_
  rintro e w3 ⟨gp1, rfl, p1, bb⟩
  replace s0 := s0.next bb
  replace s1 := s1.next bb
  replace p0 := p0.next bb
  replace rA := rA.next bb
  replace bel := next_trans bel bb
  clear bb
  replace cA : w3.cell? ⟨w.heap.size, 0, none⟩ = some (.slice a0 n0 c0) := rA.cell 0
  go_wp2_with fail
  refine (specGroundIn _ _ _ _ _ _ xs0 xs1 _ p0 p1 h0 h1).mono ?_
  rintro e w4 ⟨rfl, bb⟩
  replace s0 := s0.next bb
  replace s1 := s1.next bb
  replace p0 := p0.next bb
  replace p1 := p1.next bb
  replace rA := rA.next bb
  replace bel := next_trans bel bb
  clear bb
  clear p0
  clear p1
  replace cA : w4.cell? ⟨w.heap.size, 0, none⟩ = some (.slice a0 n0 c0) := rA.cell 0
  go_wp2_with fail
  refine (toSig _ _ _ xs0 _ s0 h0).mono ?_
  rintro e w5 ⟨gq0, cs, rfl, hg, r, hs, hc, bb⟩
  have q0 : Seg w5 w5.heap.size (some ⟨gq0, 0, none⟩) n0 xs0 := r.seg s0.1 r.lt hc
  clear hg r hs hc
  replace s0 := s0.next bb
  replace s1 := s1.next bb
  replace rA := rA.next bb
  replace bel := next_trans bel bb
  clear bb
  replace cA : w5.cell? ⟨w.heap.size, 0, none⟩ = some (.slice a0 n0 c0) := rA.cell 0
  go_wp2_with fail
  obtain ⟨w6, hw6⟩ : ∃ W, W = w5.alloc (.cells #[.slice (some ⟨gq0, 0, none⟩) n0 n0] 26) := ⟨_, rfl⟩
  rw [← hw6]
  have rB : Row w6 w5.heap.size 26 #[.slice (some ⟨gq0, 0, none⟩) n0 n0] := by rw [hw6]; exact Row.new _ _ _
  have bb : Below w5.heap.size w5 w6 := by rw [hw6]; exact (Below.refl _ _).alloc (Nat.le_refl _) _
  clear hw6
  replace s0 := s0.next bb
  replace s1 := s1.next bb
  replace q0 := q0.next bb
  replace rA := rA.next bb
  replace bel := next_trans bel bb
  clear bb
  replace cA : w6.cell? ⟨w.heap.size, 0, none⟩ = some (.slice a0 n0 c0) := rA.cell 0
  have cB : w6.cell? ⟨w5.heap.size, 0, none⟩ = some (.slice (some ⟨gq0, 0, none⟩) n0 n0) := rB.cell 0
  refine (toSeg _ _ _ xs1 _ s1 h1).mono ?_
  rintro e w7 ⟨gq1, rfl, q1, bb⟩
  replace s0 := s0.next bb
  replace s1 := s1.next bb
  replace q0 := q0.next bb
  replace rA := rA.next bb
  replace rB := rB.next bb
  replace bel := next_trans bel bb
  clear bb
  replace cA : w7.cell? ⟨w.heap.size, 0, none⟩ = some (.slice a0 n0 c0) := rA.cell 0
  replace cB : w7.cell? ⟨w5.heap.size, 0, none⟩ = some (.slice (some ⟨gq0, 0, none⟩) n0 n0) := rB.cell 0
  go_wp2_with fail
  refine (implGroundIn _ _ _ _ _ _ xs0 xs1 _ q0 q1 h0 h1).mono ?_
  rintro e w8 ⟨rfl, bb⟩
  replace s0 := s0.next bb
  replace s1 := s1.next bb
  replace q0 := q0.next bb
  replace q1 := q1.next bb
  replace rA := rA.next bb
  replace rB := rB.next bb
  replace bel := next_trans bel bb
  clear bb
  replace cA : w8.cell? ⟨w.heap.size, 0, none⟩ = some (.slice a0 n0 c0) := rA.cell 0
  replace cB : w8.cell? ⟨w5.heap.size, 0, none⟩ = some (.slice (some ⟨gq0, 0, none⟩) n0 n0) := rB.cell 0
  replace s0 := s0.drew
  replace s1 := s1.drew
  replace q0 := q0.drew
  replace q1 := q1.drew
  replace rA := rA.drew
  replace rB := rB.drew
  replace bel := bel.drew
  go_wp2_with fail
  go_region_held3 (fun w' => w'.cell? ⟨w5.heap.size, 0, none⟩ = some (.slice (some ⟨gq0, 0, none⟩) n0 n0) ∧ w'.cell? ⟨w.heap.size, 0, none⟩ = some (.slice a0 n0 c0))
    (go_keep)
    (first
      | (go_at_call 42; refine (toSig _ _ _ xs0 _ s0 h0).mono ?_; rintro e w9 ⟨g9, cs, rfl, hg, r, hs, hc, bb⟩; have s9 := (r.seg s0.1 r.lt hc); replace rA := rA.next bb; replace rB := rB.next bb; replace s1 := Seg.next s1 bb; replace q1 := Seg.next q1 bb; replace q0 := Seg.next q0 bb; replace bel := next_trans bel bb; replace cA : w9.cell? ⟨w.heap.size, 0, none⟩ = some (.slice a0 n0 c0) := rA.cell 0; replace cB : w9.cell? ⟨w5.heap.size, 0, none⟩ = some (.slice (some ⟨gq0, 0, none⟩) n0 n0) := rB.cell 0; clear hg r hs hc bb)
      | (go_at_call 44; refine (eqSigYes _ _ _ _ _ xs0 _ q0 s9 h0).mono ?_; rintro e w10 ⟨rfl, bb⟩; replace rA := rA.next bb; replace rB := rB.next bb; replace s1 := Seg.next s1 bb; replace q1 := Seg.next q1 bb; replace bel := next_trans bel bb; replace cA : w10.cell? ⟨w.heap.size, 0, none⟩ = some (.slice a0 n0 c0) := rA.cell 0; replace cB : w10.cell? ⟨w5.heap.size, 0, none⟩ = some (.slice (some ⟨gq0, 0, none⟩) n0 n0) := rB.cell 0))
  clear cA cB rA rB s9 q0 bb
  go_wp2_with fail
  refine (toSeg _ _ _ xs1 _ s1 h1).mono ?_
  rintro e v1 ⟨gv1, rfl, t1, bb⟩
  replace s1 := s1.next bb
  replace q1 := q1.next bb
  replace bel := next_trans bel bb
  clear bb
  go_wp2_with fail
  refine (eqYes _ _ _ _ _ xs1 _ q1 t1 h1).mono ?_
  rintro e w' ⟨rfl, d1, rfl⟩
  replace s1 := s1.drewN d1
  replace q1 := q1.drewN d1
  replace bel := below_drewN bel d1
  clear q1 t1 s1
  go_wp2
  go_ret
  exact ⟨rfl, bel⟩
end Go.Proofs.Ytdeegjeopkcomaa.wGroundIn
