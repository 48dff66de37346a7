/-
  THE WALK of laws.FnExactArgsAt: it returns true, whatever the arguments, and writes nothing that was there. Conditions: the slices read as lists. Written by a program of mine (gen_list.py). By an AI agent.
-/
import Derived.Test.YtadajlchoongcaaArgs
import Derived.Deep.RegionHeld3
namespace Go.Proofs.Ytadajlchoongcaa.wArgsAt
open Go.RowKit Go.Proofs.Ytadajlchoongcaa.base Go.Proofs.Ytadajlchoongcaa.ints Go.Proofs.Ytadajlchoongcaa.sig Go.Proofs.Ytadajlchoongcaa.marks Go.Proofs.Ytadajlchoongcaa.sym Go.Proofs.Ytadajlchoongcaa.term Go.Proofs.Ytadajlchoongcaa.termOk Go.Proofs.Ytadajlchoongcaa.endAt Go.Proofs.Ytadajlchoongcaa.args

set_option maxHeartbeats 4000000 in
theorem law (a0 : Option Addr) (n0 c0 : Nat) (xs0 : List Int) (a1 : Option Addr) (n1 c1 : Nat) (xs1 : List Int) (x2 : Int) (w : World) (s0 : Seg w w.heap.size a0 n0 xs0) (hN0 : n0 ≤ 9223372036854775807) (s1 : Seg w w.heap.size a1 n1 xs1) (hN1 : n1 ≤ 9223372036854775807) (b2 : (Lit.int .i64 x2).wf = true) :
    Calls Try.prog 9 #[.agg #[.slice a0 n0 c0], .slice a1 n1 c1, .int .i64 x2] w (Fine w) := by
  have bd2 : -9223372036854775808 ≤ x2 ∧ x2 ≤ 9223372036854775807 := by simpa [Lit.wf, IntKind.min, IntKind.max, IntKind.signed, IntKind.bits] using b2
  obtain ⟨bl2, bh2⟩ := bd2
  clear b2
  obtain ⟨W, hW⟩ : ∃ W, W = w.alloc (.cells #[.slice a0 n0 c0] 41) := ⟨_, rfl⟩
  have rA : Row W w.heap.size 41 #[.slice a0 n0 c0] := by rw [hW]; exact Row.new _ _ _
  have bW : Below w.heap.size w W := by rw [hW]; exact (Below.refl _ _).alloc (Nat.le_refl _) _
  have zA : w.heap.size < W.heap.size := rA.lt
  replace s0 := (s0.below bW).more bW.size
  have Hl0 := Lib.hid s0.1
  replace s1 := (s1.below bW).more bW.size
  have Hl1 := Lib.hid s1.1
  have HW := Lib.hid hW
  clear hW
  by_cases h1 : n1 ≤ 1048576
  case neg =>
    go_enter Try.func9, Try.ntmps9
    go_wp2_with fail
    rw [← HW.out]
    go_ret
    exact ⟨rfl, bW⟩
  have L := Lib.hid (szSig a0 n0 c0 1048576 W hN0 (by omega) (by omega))
  by_cases h0 : n0 ≤ 1048576
  case neg =>
    rw [if_pos (by omega)] at L
    go_enter Try.func9, Try.ntmps9
    go_wp2_with fail
    rw [← HW.out]
    refine L.out.mono ?_
    rintro e w1 ⟨rfl, bb⟩
    have bel := next_trans bW bb
    go_wp2
    go_ret
    exact ⟨rfl, bel⟩
  rw [if_neg (by omega)] at L
  have hlen : (argsI xs0 xs1 x2).length ≤ 1048576 := argsI_len
  obtain ⟨ys, hys⟩ : ∃ ys, argsI xs0 xs1 x2 = ys := ⟨_, rfl⟩
  rw [hys] at hlen
  have HY := Lib.hid hys
  clear hys
  go_enter Try.func9, Try.ntmps9
  go_wp2_with fail
  rw [← HW.out]
  refine L.out.mono ?_
  rintro e w1 ⟨rfl, bel⟩
  clear L HW
  have cA : w1.cell? ⟨w.heap.size, 0, none⟩ = some (.slice a0 n0 c0) := (rA.next bel).cell 0
  go_wp2_with fail
  refine (toSig _ _ _ xs0 _ ((s0.below bel).more bel.size) h0).mono ?_
  rintro e w2 ⟨gp0, csp0, rfl, hgp0, rp0, hsp0, hcp0, bb⟩
  have p0 : Seg w2 w2.heap.size (some ⟨gp0, 0, none⟩) n0 xs0 := rp0.seg Hl0.out rp0.lt hcp0
  clear hgp0 rp0 hsp0 hcp0
  replace bel := next_trans bel bb
  clear bb
  clear cA
  have cA : w2.cell? ⟨w.heap.size, 0, none⟩ = some (.slice a0 n0 c0) := (rA.next bel).cell 0
  go_wp2_with fail
  refine (toSeg _ _ _ xs1 _ ((s1.below bel).more bel.size) h1).mono ?_
  rintro e w3 ⟨gp1, rfl, p1, bb⟩
  replace p0 := Seg.next p0 bb
  replace bel := next_trans bel bb
  clear bb
  clear cA
  have cA : w3.cell? ⟨w.heap.size, 0, none⟩ = some (.slice a0 n0 c0) := (rA.next bel).cell 0
  go_wp2_with fail
  refine (specArgsAt _ _ _ _ _ _ xs0 xs1 x2 _ p0 p1 h0 h1 bl2 bh2).mono ?_
  rintro e w4 ⟨A4, m4, d4, rfl, o4, bb⟩
  rw [HY.out] at o4
  clear p0
  clear p1
  have s4 := Own.seg o4
  have H4 := Lib.hid (Own.len o4)
  have h4 : m4 ≤ 1048576 := by rw [H4.out]; exact hlen
  clear o4
  replace bel := next_trans bel bb
  clear bb
  clear cA
  have cA : w4.cell? ⟨w.heap.size, 0, none⟩ = some (.slice a0 n0 c0) := (rA.next bel).cell 0
  have belB := Below.refl w4.heap.size w4
  have zW4 := bel.size
  go_wp2_with fail
  refine (toSig _ _ _ xs0 _ ((s0.below bel).more bel.size) h0).mono ?_
  rintro e w5 ⟨gq0, csq0, rfl, hgq0, rq0, hsq0, hcq0, bb⟩
  have q0 : Seg w5 w5.heap.size (some ⟨gq0, 0, none⟩) n0 xs0 := rq0.seg Hl0.out rq0.lt hcq0
  clear hcq0
  have fq0 : gq0 < w5.heap.size := rq0.lt
  have zw5 := bb.size
  replace bel := next_trans bel bb
  replace belB := next_trans belB bb
  clear bb
  clear cA
  have cA : w5.cell? ⟨w.heap.size, 0, none⟩ = some (.slice a0 n0 c0) := (rA.next bel).cell 0
  go_wp2_with fail
  obtain ⟨w6, hw6⟩ : ∃ W, W = w5.alloc (.cells #[.slice (some ⟨gq0, 0, none⟩) n0 n0] 26) := ⟨_, rfl⟩
  rw [← hw6]
  have rB : Row w6 w5.heap.size 26 #[.slice (some ⟨gq0, 0, none⟩) n0 n0] := by rw [hw6]; exact Row.new _ _ _
  have bb : Below w5.heap.size w5 w6 := by rw [hw6]; exact (Below.refl _ _).alloc (Nat.le_refl _) _
  have zw6 := bb.size
  clear hw6
  replace q0 := Seg.next q0 bb
  replace rq0 := Row.next rq0 bb
  replace bel := next_trans bel bb
  replace belB := next_trans belB bb
  clear bb
  clear cA
  have cA : w6.cell? ⟨w.heap.size, 0, none⟩ = some (.slice a0 n0 c0) := (rA.next bel).cell 0
  clear cA
  have cA : w6.cell? ⟨w.heap.size, 0, none⟩ = some (.slice a0 n0 c0) := (rA.next bel).cell 0
  have cB : w6.cell? ⟨w5.heap.size, 0, none⟩ = some (.slice (some ⟨gq0, 0, none⟩) n0 n0) := rB.cell 0
  refine (toInts _ _ _ xs1 _ ((s1.below bel).more bel.size) h1).mono ?_
  rintro e w7 ⟨csq1, rfl, rq1, hsq1, hcq1, zw7, bb⟩
  have q1 : Seg w7 w7.heap.size (some ⟨w6.heap.size, 0, none⟩) n1 xs1 := rq1.seg Hl1.out rq1.lt hcq1
  replace zw7 : w6.heap.size < w7.heap.size := by omega
  clear hcq1
  replace q0 := Seg.next q0 bb
  replace rq0 := Row.next rq0 bb
  replace rB := Row.next rB bb
  replace bel := next_trans bel bb
  replace belB := next_trans belB bb
  clear bb
  clear cA
  have cA : w7.cell? ⟨w.heap.size, 0, none⟩ = some (.slice a0 n0 c0) := (rA.next bel).cell 0
  clear cB
  have cB : w7.cell? ⟨w5.heap.size, 0, none⟩ = some (.slice (some ⟨gq0, 0, none⟩) n0 n0) := rB.cell 0
  go_wp2_with fail
  refine (implArgsAt _ _ _ _ _ _ xs0 xs1 x2 _ q0 q1 h0 h1 bl2 bh2).mono ?_
  rintro e w8 ⟨A8, m8, d8, rfl, o8, bb⟩
  rw [HY.out] at o8
  obtain rfl : m4 = m8 := by rw [H4.out, ← Own.len o8]
  replace q0 := Seg.next q0 bb
  replace q1 := Seg.next q1 bb
  replace rq0 := Row.next rq0 bb
  replace rB := Row.next rB bb
  replace rq1 := Row.next rq1 bb
  replace bel := next_trans bel bb
  replace belB := next_trans belB bb
  clear bb
  clear cA
  have cA : w8.cell? ⟨w.heap.size, 0, none⟩ = some (.slice a0 n0 c0) := (rA.next bel).cell 0
  clear cB
  have cB : w8.cell? ⟨w5.heap.size, 0, none⟩ = some (.slice (some ⟨gq0, 0, none⟩) n0 n0) := rB.cell 0
  go_wp2_with fail
  refine (eqYes _ _ _ _ _ ys _ (Own.seg o8) ((s4.below belB).more belB.size) h4).mono ?_
  rintro e w' ⟨rfl, d1, rfl⟩
  replace q0 := Seg.drewN q0 d1
  replace q1 := Seg.drewN q1 d1
  replace o8 := Own.drewN o8 d1
  replace rq0 := Row.drewN rq0 d1
  replace rB := Row.drewN rB d1
  replace rq1 := Row.drewN rq1 d1
  replace bel := below_drewN bel d1
  replace belB := below_drewN belB d1
  replace q0 := Seg.drew q0
  replace q1 := Seg.drew q1
  replace o8 := Own.drew o8
  replace rq0 := Row.drew rq0
  replace rB := Row.drew rB
  replace rq1 := Row.drew rq1
  replace bel := Below.drew bel
  replace belB := Below.drew belB
  go_wp2_with fail
  go_region_held3 (fun w' => w'.cell? ⟨w5.heap.size, 0, none⟩ = some (.slice (some ⟨gq0, 0, none⟩) n0 n0) ∧ w'.cell? ⟨w.heap.size, 0, none⟩ = some (.slice a0 n0 c0))
    (go_keep)
    (first
      | (go_at_call 35; refine (toSig _ _ _ xs0 _ ((s0.below bel).more bel.size) h0).mono ?_; rintro e w9 ⟨g9, cs, rfl, hg, r, hs, hc, bb⟩; have s9 := (r.seg Hl0.out r.lt hc); replace q0 := Seg.next q0 bb; replace q1 := Seg.next q1 bb; replace o8 := Own.next o8 bb; replace rq0 := Row.next rq0 bb; replace rB := Row.next rB bb; replace rq1 := Row.next rq1 bb; replace bel := next_trans bel bb; replace belB := next_trans belB bb; replace cA : w9.cell? ⟨w.heap.size, 0, none⟩ = some (.slice a0 n0 c0) := (rA.next bel).cell 0; replace cB : w9.cell? ⟨w5.heap.size, 0, none⟩ = some (.slice (some ⟨gq0, 0, none⟩) n0 n0) := rB.cell 0; clear hg r hs hc bb)
      | (go_at_call 37; refine (eqSigYes _ _ _ _ _ xs0 _ q0 s9 h0).mono ?_; rintro e w10 ⟨rfl, bb⟩; replace q0 := Seg.next q0 bb; replace q1 := Seg.next q1 bb; replace o8 := Own.next o8 bb; replace rq0 := Row.next rq0 bb; replace rB := Row.next rB bb; replace rq1 := Row.next rq1 bb; replace bel := next_trans bel bb; replace belB := next_trans belB bb; replace cA : w10.cell? ⟨w.heap.size, 0, none⟩ = some (.slice a0 n0 c0) := (rA.next bel).cell 0; replace cB : w10.cell? ⟨w5.heap.size, 0, none⟩ = some (.slice (some ⟨gq0, 0, none⟩) n0 n0) := rB.cell 0))
  clear s9 bb
  go_wp2_with fail
  refine (toSeg _ _ _ xs1 _ ((s1.below bel).more bel.size) h1).mono ?_
  rintro e v1 ⟨gt1, rfl, t1, bb⟩
  replace q0 := Seg.next q0 bb
  replace q1 := Seg.next q1 bb
  replace o8 := Own.next o8 bb
  replace rq0 := Row.next rq0 bb
  replace rB := Row.next rB bb
  replace rq1 := Row.next rq1 bb
  replace bel := next_trans bel bb
  replace belB := next_trans belB bb
  clear bb
  clear cA
  have cA : v1.cell? ⟨w.heap.size, 0, none⟩ = some (.slice a0 n0 c0) := (rA.next bel).cell 0
  clear cB
  have cB : v1.cell? ⟨w5.heap.size, 0, none⟩ = some (.slice (some ⟨gq0, 0, none⟩) n0 n0) := rB.cell 0
  go_wp2_with fail
  refine (eqYes _ _ _ _ _ xs1 _ q1 t1 h1).mono ?_
  rintro e w' ⟨rfl, e1, rfl⟩
  replace q0 := Seg.drewN q0 e1
  replace q1 := Seg.drewN q1 e1
  replace t1 := Seg.drewN t1 e1
  replace o8 := Own.drewN o8 e1
  replace rq0 := Row.drewN rq0 e1
  replace rB := Row.drewN rB e1
  replace rq1 := Row.drewN rq1 e1
  replace bel := below_drewN bel e1
  replace belB := below_drewN belB e1
  clear t1
  clear q0
  clear q1
  go_wp2_with fail
  refine (markSig _ _ _ 1 _ (.inr ⟨gq0, csq0, rfl, rq0, by rw [hsq0]; exact Nat.le_refl _⟩) h0 (by omega) (by omega)).mono ?_
  rintro e u0 ⟨rfl, hg, -, -⟩
  replace bel := bel.grown hg bel.size (fun k hk => by have hk : gq0 = k := Option.some.inj hk; omega)
  replace belB := belB.grown hg belB.size (fun k hk => by have hk : gq0 = k := Option.some.inj hk; omega)
  replace rq1 := Row.away rq1 hg (fun e => by have e : gq0 = w6.heap.size := Option.some.inj e; omega)
  replace o8 := Own.far o8 hg (fun k hk => by have hk : gq0 = k := Option.some.inj hk; omega)
  clear hg rq0 rB cA cB
  go_wp2_with fail
  refine (markInts _ _ _ (1 + (n0 : Int)) _ (.inr ⟨w6.heap.size, csq1, rfl, rq1, by rw [hsq1]; exact Nat.le_refl _⟩) h1 (by omega) (by omega)).mono ?_
  rintro e u1 ⟨rfl, hg, -, -⟩
  replace bel := bel.grown hg bel.size (fun k hk => by have hk : w6.heap.size = k := Option.some.inj hk; omega)
  replace belB := belB.grown hg belB.size (fun k hk => by have hk : w6.heap.size = k := Option.some.inj hk; omega)
  replace o8 := Own.far o8 hg (fun k hk => by have hk : w6.heap.size = k := Option.some.inj hk; omega)
  clear hg rq1
  go_wp2_with fail
  refine (eqYes _ _ _ _ _ ys _ (Own.seg o8) ((s4.below belB).more belB.size) h4).mono ?_
  rintro e w' ⟨rfl, d2, rfl⟩
  replace o8 := Own.drewN o8 d2
  replace bel := below_drewN bel d2
  replace belB := below_drewN belB d2
  go_wp2_with fail
  refine (markInts _ _ _ 1 _ (Own.buf o8) h4 (by omega) (by omega)).mono ?_
  rintro e u8 ⟨rfl, hg, sm, -⟩
  replace bel := bel.grown hg bel.size (fun k hk => by have := Own.ge o8 k hk; omega)
  replace belB := belB.grown hg belB.size (fun k hk => by have := Own.ge o8 k hk; omega)
  clear hg o8
  go_wp2_with fail
  refine (heldInts _ _ _ 1 _ sm h4 (by omega) (by omega)).mono ?_
  rintro e w' ⟨rfl, rfl⟩
  have cA : u8.cell? ⟨w.heap.size, 0, none⟩ = some (.slice a0 n0 c0) := (rA.next bel).cell 0
  go_wp2_with fail
  refine (toSig _ _ _ xs0 _ ((s0.below bel).more bel.size) h0).mono ?_
  rintro e z2 ⟨gy0, csy0, rfl, hgy0, ry0, hsy0, hcy0, bb⟩
  have y0 : Seg z2 z2.heap.size (some ⟨gy0, 0, none⟩) n0 xs0 := ry0.seg Hl0.out ry0.lt hcy0
  clear hgy0 ry0 hsy0 hcy0
  replace sm := Seg.next sm bb
  replace bel := next_trans bel bb
  replace belB := next_trans belB bb
  clear bb
  clear cA
  have cA : z2.cell? ⟨w.heap.size, 0, none⟩ = some (.slice a0 n0 c0) := (rA.next bel).cell 0
  go_wp2_with fail
  refine (toSeg _ _ _ xs1 _ ((s1.below bel).more bel.size) h1).mono ?_
  rintro e z3 ⟨gy1, rfl, y1, bb⟩
  replace sm := Seg.next sm bb
  replace y0 := Seg.next y0 bb
  replace bel := next_trans bel bb
  replace belB := next_trans belB bb
  clear bb
  clear cA
  have cA : z3.cell? ⟨w.heap.size, 0, none⟩ = some (.slice a0 n0 c0) := (rA.next bel).cell 0
  go_wp2_with fail
  refine (implArgsAt _ _ _ _ _ _ xs0 xs1 x2 _ y0 y1 h0 h1 bl2 bh2).mono ?_
  rintro e z4 ⟨A9, m9, d9, rfl, o9, bb⟩
  rw [HY.out] at o9
  clear y0
  clear y1
  obtain rfl : m4 = m9 := by rw [H4.out, ← Own.len o9]
  have s9 := Own.seg o9
  clear o9
  replace sm := Seg.next sm bb
  replace bel := next_trans bel bb
  replace belB := next_trans belB bb
  clear bb
  clear cA
  have cA : z4.cell? ⟨w.heap.size, 0, none⟩ = some (.slice a0 n0 c0) := (rA.next bel).cell 0
  go_wp2_with fail
  refine (eqYes _ _ _ _ _ ys _ s9 ((s4.below belB).more belB.size) h4).mono ?_
  rintro e w' ⟨rfl, d3, rfl⟩
  replace sm := Seg.drewN sm d3
  replace bel := below_drewN bel d3
  replace belB := below_drewN belB d3
  clear s9 s4 belB cA
  go_wp2_with fail
  refine (heldInts _ _ _ 1 _ sm h4 (by omega) (by omega)).mono ?_
  rintro e w' ⟨rfl, rfl⟩
  have F := Lib.hid (bW.trans (bel.mono (Nat.le_of_lt zA)))
  clear sm bel bW rA
  go_wp2
  go_ret
  exact ⟨rfl, F.out⟩
end Go.Proofs.Ytadajlchoongcaa.wArgsAt
