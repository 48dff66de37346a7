/-
  MERGED: my texts WPeakAt, OpenX, one behind the other, as they are. By an AI agent.
-/
import Derived.Test.YtfmjhfodjhkmlaaMFnExactPeakAt9
import Derived.Deep.RegionHeld3
import Derived.ProofKit
import Derived.OpenShut
import Derived.Lib.SmallJoins
import Derived.Deep.Slices
import Derived.Deep.Fields
namespace Go.Proofs.Ytfmjhfodjhkmlaa
section
open Go.Lib (hid)
namespace wPeakAt
open Go.RowKit base ints sig cursor marks app sym appAt segs segsHelp segsMark kinds shape varsOf kindsR kindsP ruleMath ruleSpec peakSame pkAns pkAll pkAtX
set_option maxRecDepth 100000
set_option maxHeartbeats 8000000 in
theorem law (v0_0 v0_1 : Value) (d0 : Dat sSystem) (x1 : Int) (x2 : Int) (x3 : Int) (w : World) (s0 : Rd w w.heap.size sSystem [v0_0, v0_1] d0) (b1 : (Lit.int .i64 x1).wf = true) (b2 : (Lit.int .i64 x2).wf = true) (b3 : (Lit.int .i64 x3).wf = true) :
  Calls Try.prog 4 #[.agg #[v0_0, v0_1], .int .i64 x1, .int .i64 x2, .int .i64 x3] w (Fine w) := by
 have bd1 : -9223372036854775808 ≤ x1 ∧ x1 ≤ 9223372036854775807 := by simpa [Lit.wf, IntKind.min, IntKind.max, IntKind.signed, IntKind.bits] using b1
 obtain ⟨bl1, bh1⟩ := bd1
 clear b1
 have bd2 : -9223372036854775808 ≤ x2 ∧ x2 ≤ 9223372036854775807 := by simpa [Lit.wf, IntKind.min, IntKind.max, IntKind.signed, IntKind.bits] using b2
 obtain ⟨bl2, bh2⟩ := bd2
 clear b2
 have bd3 : -9223372036854775808 ≤ x3 ∧ x3 ≤ 9223372036854775807 := by simpa [Lit.wf, IntKind.min, IntKind.max, IntKind.signed, IntKind.bits] using b3
 obtain ⟨bl3, bh3⟩ := bd3
 clear b3
 obtain ⟨W, hW⟩ : ∃ W, W = w.alloc (.cells #[v0_0, v0_1] 27) := ⟨_, rfl⟩
 have rA0 : Row W (w.heap.size) 27 #[v0_0, v0_1] := by rw [hW]; have := Row.new (w) 27 #[v0_0, v0_1]; simpa using this
 have bW : Below w.heap.size w W := by rw [hW]; exact (Below.refl w.heap.size w).alloc (by simp) (.cells #[v0_0, v0_1] 27)
 have zA0 := rA0.lt
 replace s0 := s0.next bW
 have HW := hid hW
 clear hW
 obtain ⟨t0, ht0⟩ : ∃ z, sz sSystem d0 = z := ⟨_, rfl⟩
 have HT0 := hid ht0
 clear ht0
 obtain ⟨v, hv⟩ : ∃ v, okA d0.1 d0.2 x1 x2 x3 = v := ⟨_, rfl⟩
 have HV := hid hv
 clear hv
 have ev : (v != v) = false := by simp
 go_enter Try.func4, Try.ntmps4
 go_wp2_with fail
 rw [← HW.out]
 clear HW
 have bel := Below.refl W.heap.size W
 have cA0_0 : W.cell? ⟨w.heap.size, 0, none⟩ = some (v0_0) := (rA0.next bel).cell 0
 have cA0_1 : W.cell? ⟨w.heap.size, 1, none⟩ = some (v0_1) := (rA0.next bel).cell 1
 refine (szK_System _ _ d0 (1048576) _ (s0.next bel) (by omega) (by omega)).mono ?_
 rintro e w1 ⟨he, bb⟩
 rw [HT0.out] at he
 replace bel := next_trans bel bb
 have zw1 := bb.size
 clear bb
 by_cases q0 : t0 ≤ 1048576
 case neg =>
  rw [if_pos (by omega)] at he
  subst he
  have F := hid (bW.trans (bel.mono bW.size))
  clear bel bW cA0_0 cA0_1
  go_wp2
  go_ret
  exact ⟨rfl, F.out⟩
 rw [if_neg (by omega)] at he
 subst he
 have h0 : Hid (sz sSystem d0 ≤ 1048576) := hid (by rw [HT0.out]; omega)
 clear cA0_0 cA0_1
 have cA0_0 : w1.cell? ⟨w.heap.size, 0, none⟩ = some (v0_0) := (rA0.next bel).cell 0
 have cA0_1 : w1.cell? ⟨w.heap.size, 1, none⟩ = some (v0_1) := (rA0.next bel).cell 1
 have hlen : sz sPeak (pkA d0.1 d0.2 x1 x2 x3) ≤ 1048576 := pkA_sz
 obtain ⟨ys, hys⟩ : ∃ ys, pkA d0.1 d0.2 x1 x2 x3 = ys := ⟨_, rfl⟩
 rw [hys] at hlen
 have HY := hid hys
 clear hys
 replace hlen := hid hlen
 obtain ⟨cg, hcg⟩ : ∃ z, cntv sPeak ys = z := ⟨_, rfl⟩
 have hcG : cg ≤ 6 * 1048576 := by have j1 := cntv_le sPeak ys; have j2 := hlen.out; have j3 : wd sPeak = 6 := rfl; rw [hcg, j3] at j1; omega
 have HCG := hid hcg
 clear hcg
 obtain ⟨k0, hk0⟩ : ∃ z, cntv sSystem d0 = z := ⟨_, rfl⟩
 have hK0 : k0 ≤ 3 * 1048576 := by have j1 := cntv_le sSystem d0; have j2 := h0.out; have j3 : wd sSystem = 3 := rfl; rw [hk0, j3] at j1; omega
 have HK0 := hid hk0
 clear hk0
 go_wp2_with fail
 refine (toK_System _ _ d0 _ (s0.next bel) h0.out).mono ?_
 rintro e w2 ⟨p0A0, p0n0, p0c0, p0A1, p0n1, p0c1, rfl, op0, bb⟩
 replace bel := next_trans bel bb
 have zw2 := bb.size
 clear bb
 clear cA0_0 cA0_1
 have cA0_0 : w2.cell? ⟨w.heap.size, 0, none⟩ = some (v0_0) := (rA0.next bel).cell 0
 have cA0_1 : w2.cell? ⟨w.heap.size, 1, none⟩ = some (v0_1) := (rA0.next bel).cell 1
 go_wp2_with fail
 refine (specPeakAtX _ _ d0 x1 x2 x3 _ op0.rd h0.out bl1 bh1 bl2 bh2 bl3 bh3).mono ?_
 rintro e w3 ⟨wA0, wn0, wc0, wA1, wn1, wc1, wA2, wn2, wc2, he, o0, bb⟩
 rw [HV.out] at he
 rw [HY.out] at o0 he
 subst he
 replace op0 := op0.next bb
 replace bel := next_trans bel bb
 have zw3 := bb.size
 clear bb
 have sw := o0.rd
 clear o0
 clear op0
 clear cA0_0 cA0_1
 have cA0_0 : w3.cell? ⟨w.heap.size, 0, none⟩ = some (v0_0) := (rA0.next bel).cell 0
 have cA0_1 : w3.cell? ⟨w.heap.size, 1, none⟩ = some (v0_1) := (rA0.next bel).cell 1
 have dA0_0 : (w3.alloc (.cells #[.slice wA0 wn0 wc0, .slice wA1 wn1 wc1, .slice wA2 wn2 wc2, .int .i64 ys.2.2.2.1, .int .i64 ys.2.2.2.2.1, .int .i64 ys.2.2.2.2.2] 41)).cell? ⟨w.heap.size, 0, none⟩ = some (v0_0) := ((rA0.next bel).alloc _).cell 0
 have dA0_1 : (w3.alloc (.cells #[.slice wA0 wn0 wc0, .slice wA1 wn1 wc1, .slice wA2 wn2 wc2, .int .i64 ys.2.2.2.1, .int .i64 ys.2.2.2.2.1, .int .i64 ys.2.2.2.2.2] 41)).cell? ⟨w.heap.size, 1, none⟩ = some (v0_1) := ((rA0.next bel).alloc _).cell 1
 go_wp2_with fail
 obtain ⟨w4, hw⟩ : ∃ W, W = w3.alloc (.cells #[.slice wA0 wn0 wc0, .slice wA1 wn1 wc1, .slice wA2 wn2 wc2, .int .i64 ys.2.2.2.1, .int .i64 ys.2.2.2.2.1, .int .i64 ys.2.2.2.2.2] 41) := ⟨_, rfl⟩
 rw [← hw]
 have rw : Row w4 w3.heap.size 41 #[.slice wA0 wn0 wc0, .slice wA1 wn1 wc1, .slice wA2 wn2 wc2, .int .i64 ys.2.2.2.1, .int .i64 ys.2.2.2.2.1, .int .i64 ys.2.2.2.2.2] := by rw [hw]; exact Row.new _ _ _
 have bb : Below w3.heap.size w3 w4 := by rw [hw]; exact (Below.refl _ _).alloc (Nat.le_refl _) _
 have yrw : w3.heap.size < w4.heap.size := by rw [hw]; simp
 clear hw
 replace sw := sw.next bb
 replace bel := next_trans bel bb
 have zw4 := bb.size
 clear bb
 clear dA0_0 dA0_1
 have belw := Below.refl w4.heap.size w4
 clear cA0_0 cA0_1
 have cA0_0 : w4.cell? ⟨w.heap.size, 0, none⟩ = some (v0_0) := (rA0.next bel).cell 0
 have cA0_1 : w4.cell? ⟨w.heap.size, 1, none⟩ = some (v0_1) := (rA0.next bel).cell 1
 have cw_0 : w4.cell? ⟨w3.heap.size, 0, none⟩ = some (.slice wA0 wn0 wc0) := (rw.next belw).cell 0
 have cw_1 : w4.cell? ⟨w3.heap.size, 1, none⟩ = some (.slice wA1 wn1 wc1) := (rw.next belw).cell 1
 have cw_2 : w4.cell? ⟨w3.heap.size, 2, none⟩ = some (.slice wA2 wn2 wc2) := (rw.next belw).cell 2
 have cw_3 : w4.cell? ⟨w3.heap.size, 3, none⟩ = some (.int .i64 ys.2.2.2.1) := (rw.next belw).cell 3
 have cw_4 : w4.cell? ⟨w3.heap.size, 4, none⟩ = some (.int .i64 ys.2.2.2.2.1) := (rw.next belw).cell 4
 have cw_5 : w4.cell? ⟨w3.heap.size, 5, none⟩ = some (.int .i64 ys.2.2.2.2.2) := (rw.next belw).cell 5
 refine (toK_System _ _ d0 _ (s0.next bel) h0.out).mono ?_
 rintro e w5 ⟨x0A0, x0n0, x0c0, x0A1, x0n1, x0c1, rfl, ox0, bb⟩
 replace bel := next_trans bel bb
 replace belw := next_trans belw bb
 have zw5 := bb.size
 clear bb
 clear cA0_0 cA0_1 cw_0 cw_1 cw_2 cw_3 cw_4 cw_5
 have cA0_0 : w5.cell? ⟨w.heap.size, 0, none⟩ = some (v0_0) := (rA0.next bel).cell 0
 have cA0_1 : w5.cell? ⟨w.heap.size, 1, none⟩ = some (v0_1) := (rA0.next bel).cell 1
 have cw_0 : w5.cell? ⟨w3.heap.size, 0, none⟩ = some (.slice wA0 wn0 wc0) := (rw.next belw).cell 0
 have cw_1 : w5.cell? ⟨w3.heap.size, 1, none⟩ = some (.slice wA1 wn1 wc1) := (rw.next belw).cell 1
 have cw_2 : w5.cell? ⟨w3.heap.size, 2, none⟩ = some (.slice wA2 wn2 wc2) := (rw.next belw).cell 2
 have cw_3 : w5.cell? ⟨w3.heap.size, 3, none⟩ = some (.int .i64 ys.2.2.2.1) := (rw.next belw).cell 3
 have cw_4 : w5.cell? ⟨w3.heap.size, 4, none⟩ = some (.int .i64 ys.2.2.2.2.1) := (rw.next belw).cell 4
 have cw_5 : w5.cell? ⟨w3.heap.size, 5, none⟩ = some (.int .i64 ys.2.2.2.2.2) := (rw.next belw).cell 5
 have dA0_0 : (w5.alloc (.cells #[.slice x0A0 x0n0 x0c0, .slice x0A1 x0n1 x0c1] 33)).cell? ⟨w.heap.size, 0, none⟩ = some (v0_0) := ((rA0.next bel).alloc _).cell 0
 have dA0_1 : (w5.alloc (.cells #[.slice x0A0 x0n0 x0c0, .slice x0A1 x0n1 x0c1] 33)).cell? ⟨w.heap.size, 1, none⟩ = some (v0_1) := ((rA0.next bel).alloc _).cell 1
 have dw_0 : (w5.alloc (.cells #[.slice x0A0 x0n0 x0c0, .slice x0A1 x0n1 x0c1] 33)).cell? ⟨w3.heap.size, 0, none⟩ = some (.slice wA0 wn0 wc0) := ((rw.next belw).alloc _).cell 0
 have dw_1 : (w5.alloc (.cells #[.slice x0A0 x0n0 x0c0, .slice x0A1 x0n1 x0c1] 33)).cell? ⟨w3.heap.size, 1, none⟩ = some (.slice wA1 wn1 wc1) := ((rw.next belw).alloc _).cell 1
 have dw_2 : (w5.alloc (.cells #[.slice x0A0 x0n0 x0c0, .slice x0A1 x0n1 x0c1] 33)).cell? ⟨w3.heap.size, 2, none⟩ = some (.slice wA2 wn2 wc2) := ((rw.next belw).alloc _).cell 2
 have dw_3 : (w5.alloc (.cells #[.slice x0A0 x0n0 x0c0, .slice x0A1 x0n1 x0c1] 33)).cell? ⟨w3.heap.size, 3, none⟩ = some (.int .i64 ys.2.2.2.1) := ((rw.next belw).alloc _).cell 3
 have dw_4 : (w5.alloc (.cells #[.slice x0A0 x0n0 x0c0, .slice x0A1 x0n1 x0c1] 33)).cell? ⟨w3.heap.size, 4, none⟩ = some (.int .i64 ys.2.2.2.2.1) := ((rw.next belw).alloc _).cell 4
 have dw_5 : (w5.alloc (.cells #[.slice x0A0 x0n0 x0c0, .slice x0A1 x0n1 x0c1] 33)).cell? ⟨w3.heap.size, 5, none⟩ = some (.int .i64 ys.2.2.2.2.2) := ((rw.next belw).alloc _).cell 5
 go_wp2_with fail
 obtain ⟨w6, hw⟩ : ∃ W, W = w5.alloc (.cells #[.slice x0A0 x0n0 x0c0, .slice x0A1 x0n1 x0c1] 33) := ⟨_, rfl⟩
 rw [← hw]
 have rx0 : Row w6 w5.heap.size 33 #[.slice x0A0 x0n0 x0c0, .slice x0A1 x0n1 x0c1] := by rw [hw]; exact Row.new _ _ _
 have bb : Below w5.heap.size w5 w6 := by rw [hw]; exact (Below.refl _ _).alloc (Nat.le_refl _) _
 have yrx0 : w5.heap.size < w6.heap.size := by rw [hw]; simp
 clear hw
 replace ox0 := ox0.next bb
 replace bel := next_trans bel bb
 replace belw := next_trans belw bb
 have zw6 := bb.size
 clear bb
 clear dA0_0 dA0_1 dw_0 dw_1 dw_2 dw_3 dw_4 dw_5
 clear cA0_0 cA0_1 cw_0 cw_1 cw_2 cw_3 cw_4 cw_5
 have cA0_0 : w6.cell? ⟨w.heap.size, 0, none⟩ = some (v0_0) := (rA0.next bel).cell 0
 have cA0_1 : w6.cell? ⟨w.heap.size, 1, none⟩ = some (v0_1) := (rA0.next bel).cell 1
 have cw_0 : w6.cell? ⟨w3.heap.size, 0, none⟩ = some (.slice wA0 wn0 wc0) := (rw.next belw).cell 0
 have cw_1 : w6.cell? ⟨w3.heap.size, 1, none⟩ = some (.slice wA1 wn1 wc1) := (rw.next belw).cell 1
 have cw_2 : w6.cell? ⟨w3.heap.size, 2, none⟩ = some (.slice wA2 wn2 wc2) := (rw.next belw).cell 2
 have cw_3 : w6.cell? ⟨w3.heap.size, 3, none⟩ = some (.int .i64 ys.2.2.2.1) := (rw.next belw).cell 3
 have cw_4 : w6.cell? ⟨w3.heap.size, 4, none⟩ = some (.int .i64 ys.2.2.2.2.1) := (rw.next belw).cell 4
 have cw_5 : w6.cell? ⟨w3.heap.size, 5, none⟩ = some (.int .i64 ys.2.2.2.2.2) := (rw.next belw).cell 5
 have cx0_0 : w6.cell? ⟨w5.heap.size, 0, none⟩ = some (.slice x0A0 x0n0 x0c0) := (rx0).cell 0
 have cx0_1 : w6.cell? ⟨w5.heap.size, 1, none⟩ = some (.slice x0A1 x0n1 x0c1) := (rx0).cell 1
 refine (implPeakAtX _ _ d0 x1 x2 x3 _ ox0.rd h0.out bl1 bh1 bl2 bh2 bl3 bh3).mono ?_
 rintro e w7 ⟨gA0, gn0, gc0, gA1, gn1, gc1, gA2, gn2, gc2, he, o0, bb⟩
 rw [HV.out] at he
 rw [HY.out] at o0 he
 subst he
 replace ox0 := ox0.next bb
 replace rx0 := rx0.next bb
 replace bel := next_trans bel bb
 replace belw := next_trans belw bb
 have zw7 := bb.size
 clear bb
 have og := o0
 clear o0
 clear cA0_0 cA0_1 cw_0 cw_1 cw_2 cw_3 cw_4 cw_5 cx0_0 cx0_1
 have cA0_0 : w7.cell? ⟨w.heap.size, 0, none⟩ = some (v0_0) := (rA0.next bel).cell 0
 have cA0_1 : w7.cell? ⟨w.heap.size, 1, none⟩ = some (v0_1) := (rA0.next bel).cell 1
 have cw_0 : w7.cell? ⟨w3.heap.size, 0, none⟩ = some (.slice wA0 wn0 wc0) := (rw.next belw).cell 0
 have cw_1 : w7.cell? ⟨w3.heap.size, 1, none⟩ = some (.slice wA1 wn1 wc1) := (rw.next belw).cell 1
 have cw_2 : w7.cell? ⟨w3.heap.size, 2, none⟩ = some (.slice wA2 wn2 wc2) := (rw.next belw).cell 2
 have cw_3 : w7.cell? ⟨w3.heap.size, 3, none⟩ = some (.int .i64 ys.2.2.2.1) := (rw.next belw).cell 3
 have cw_4 : w7.cell? ⟨w3.heap.size, 4, none⟩ = some (.int .i64 ys.2.2.2.2.1) := (rw.next belw).cell 4
 have cw_5 : w7.cell? ⟨w3.heap.size, 5, none⟩ = some (.int .i64 ys.2.2.2.2.2) := (rw.next belw).cell 5
 have cx0_0 : w7.cell? ⟨w5.heap.size, 0, none⟩ = some (.slice x0A0 x0n0 x0c0) := (rx0).cell 0
 have cx0_1 : w7.cell? ⟨w5.heap.size, 1, none⟩ = some (.slice x0A1 x0n1 x0c1) := (rx0).cell 1
 have dA0_0 : (w7.alloc (.cells #[.slice gA0 gn0 gc0, .slice gA1 gn1 gc1, .slice gA2 gn2 gc2, .int .i64 ys.2.2.2.1, .int .i64 ys.2.2.2.2.1, .int .i64 ys.2.2.2.2.2] 41)).cell? ⟨w.heap.size, 0, none⟩ = some (v0_0) := ((rA0.next bel).alloc _).cell 0
 have dA0_1 : (w7.alloc (.cells #[.slice gA0 gn0 gc0, .slice gA1 gn1 gc1, .slice gA2 gn2 gc2, .int .i64 ys.2.2.2.1, .int .i64 ys.2.2.2.2.1, .int .i64 ys.2.2.2.2.2] 41)).cell? ⟨w.heap.size, 1, none⟩ = some (v0_1) := ((rA0.next bel).alloc _).cell 1
 have dw_0 : (w7.alloc (.cells #[.slice gA0 gn0 gc0, .slice gA1 gn1 gc1, .slice gA2 gn2 gc2, .int .i64 ys.2.2.2.1, .int .i64 ys.2.2.2.2.1, .int .i64 ys.2.2.2.2.2] 41)).cell? ⟨w3.heap.size, 0, none⟩ = some (.slice wA0 wn0 wc0) := ((rw.next belw).alloc _).cell 0
 have dw_1 : (w7.alloc (.cells #[.slice gA0 gn0 gc0, .slice gA1 gn1 gc1, .slice gA2 gn2 gc2, .int .i64 ys.2.2.2.1, .int .i64 ys.2.2.2.2.1, .int .i64 ys.2.2.2.2.2] 41)).cell? ⟨w3.heap.size, 1, none⟩ = some (.slice wA1 wn1 wc1) := ((rw.next belw).alloc _).cell 1
 have dw_2 : (w7.alloc (.cells #[.slice gA0 gn0 gc0, .slice gA1 gn1 gc1, .slice gA2 gn2 gc2, .int .i64 ys.2.2.2.1, .int .i64 ys.2.2.2.2.1, .int .i64 ys.2.2.2.2.2] 41)).cell? ⟨w3.heap.size, 2, none⟩ = some (.slice wA2 wn2 wc2) := ((rw.next belw).alloc _).cell 2
 have dw_3 : (w7.alloc (.cells #[.slice gA0 gn0 gc0, .slice gA1 gn1 gc1, .slice gA2 gn2 gc2, .int .i64 ys.2.2.2.1, .int .i64 ys.2.2.2.2.1, .int .i64 ys.2.2.2.2.2] 41)).cell? ⟨w3.heap.size, 3, none⟩ = some (.int .i64 ys.2.2.2.1) := ((rw.next belw).alloc _).cell 3
 have dw_4 : (w7.alloc (.cells #[.slice gA0 gn0 gc0, .slice gA1 gn1 gc1, .slice gA2 gn2 gc2, .int .i64 ys.2.2.2.1, .int .i64 ys.2.2.2.2.1, .int .i64 ys.2.2.2.2.2] 41)).cell? ⟨w3.heap.size, 4, none⟩ = some (.int .i64 ys.2.2.2.2.1) := ((rw.next belw).alloc _).cell 4
 have dw_5 : (w7.alloc (.cells #[.slice gA0 gn0 gc0, .slice gA1 gn1 gc1, .slice gA2 gn2 gc2, .int .i64 ys.2.2.2.1, .int .i64 ys.2.2.2.2.1, .int .i64 ys.2.2.2.2.2] 41)).cell? ⟨w3.heap.size, 5, none⟩ = some (.int .i64 ys.2.2.2.2.2) := ((rw.next belw).alloc _).cell 5
 have dx0_0 : (w7.alloc (.cells #[.slice gA0 gn0 gc0, .slice gA1 gn1 gc1, .slice gA2 gn2 gc2, .int .i64 ys.2.2.2.1, .int .i64 ys.2.2.2.2.1, .int .i64 ys.2.2.2.2.2] 41)).cell? ⟨w5.heap.size, 0, none⟩ = some (.slice x0A0 x0n0 x0c0) := ((rx0).alloc _).cell 0
 have dx0_1 : (w7.alloc (.cells #[.slice gA0 gn0 gc0, .slice gA1 gn1 gc1, .slice gA2 gn2 gc2, .int .i64 ys.2.2.2.1, .int .i64 ys.2.2.2.2.1, .int .i64 ys.2.2.2.2.2] 41)).cell? ⟨w5.heap.size, 1, none⟩ = some (.slice x0A1 x0n1 x0c1) := ((rx0).alloc _).cell 1
 go_wp2_with fail
 obtain ⟨w8, hw⟩ : ∃ W, W = w7.alloc (.cells #[.slice gA0 gn0 gc0, .slice gA1 gn1 gc1, .slice gA2 gn2 gc2, .int .i64 ys.2.2.2.1, .int .i64 ys.2.2.2.2.1, .int .i64 ys.2.2.2.2.2] 41) := ⟨_, rfl⟩
 rw [← hw]
 have rg : Row w8 w7.heap.size 41 #[.slice gA0 gn0 gc0, .slice gA1 gn1 gc1, .slice gA2 gn2 gc2, .int .i64 ys.2.2.2.1, .int .i64 ys.2.2.2.2.1, .int .i64 ys.2.2.2.2.2] := by rw [hw]; exact Row.new _ _ _
 have bb : Below w7.heap.size w7 w8 := by rw [hw]; exact (Below.refl _ _).alloc (Nat.le_refl _) _
 have yrg : w7.heap.size < w8.heap.size := by rw [hw]; simp
 clear hw
 replace ox0 := ox0.next bb
 replace rx0 := rx0.next bb
 replace og := og.next bb
 replace bel := next_trans bel bb
 replace belw := next_trans belw bb
 have zw8 := bb.size
 clear bb
 clear dA0_0 dA0_1 dw_0 dw_1 dw_2 dw_3 dw_4 dw_5 dx0_0 dx0_1
 clear cA0_0 cA0_1 cw_0 cw_1 cw_2 cw_3 cw_4 cw_5 cx0_0 cx0_1
 have cA0_0 : w8.cell? ⟨w.heap.size, 0, none⟩ = some (v0_0) := (rA0.next bel).cell 0
 have cA0_1 : w8.cell? ⟨w.heap.size, 1, none⟩ = some (v0_1) := (rA0.next bel).cell 1
 have cw_0 : w8.cell? ⟨w3.heap.size, 0, none⟩ = some (.slice wA0 wn0 wc0) := (rw.next belw).cell 0
 have cw_1 : w8.cell? ⟨w3.heap.size, 1, none⟩ = some (.slice wA1 wn1 wc1) := (rw.next belw).cell 1
 have cw_2 : w8.cell? ⟨w3.heap.size, 2, none⟩ = some (.slice wA2 wn2 wc2) := (rw.next belw).cell 2
 have cw_3 : w8.cell? ⟨w3.heap.size, 3, none⟩ = some (.int .i64 ys.2.2.2.1) := (rw.next belw).cell 3
 have cw_4 : w8.cell? ⟨w3.heap.size, 4, none⟩ = some (.int .i64 ys.2.2.2.2.1) := (rw.next belw).cell 4
 have cw_5 : w8.cell? ⟨w3.heap.size, 5, none⟩ = some (.int .i64 ys.2.2.2.2.2) := (rw.next belw).cell 5
 have cx0_0 : w8.cell? ⟨w5.heap.size, 0, none⟩ = some (.slice x0A0 x0n0 x0c0) := (rx0).cell 0
 have cx0_1 : w8.cell? ⟨w5.heap.size, 1, none⟩ = some (.slice x0A1 x0n1 x0c1) := (rx0).cell 1
 have cg_0 : w8.cell? ⟨w7.heap.size, 0, none⟩ = some (.slice gA0 gn0 gc0) := (rg).cell 0
 have cg_1 : w8.cell? ⟨w7.heap.size, 1, none⟩ = some (.slice gA1 gn1 gc1) := (rg).cell 1
 have cg_2 : w8.cell? ⟨w7.heap.size, 2, none⟩ = some (.slice gA2 gn2 gc2) := (rg).cell 2
 have cg_3 : w8.cell? ⟨w7.heap.size, 3, none⟩ = some (.int .i64 ys.2.2.2.1) := (rg).cell 3
 have cg_4 : w8.cell? ⟨w7.heap.size, 4, none⟩ = some (.int .i64 ys.2.2.2.2.1) := (rg).cell 4
 have cg_5 : w8.cell? ⟨w7.heap.size, 5, none⟩ = some (.int .i64 ys.2.2.2.2.2) := (rg).cell 5
 refine (eqK_Peak _ _ _ _ _ _ ys _ og.rd (sw.next belw) hlen.out).mono ?_
 rintro e w9 ⟨rfl, bb⟩
 replace ox0 := ox0.next bb
 replace rx0 := rx0.next bb
 replace og := og.next bb
 replace rg := rg.next bb
 replace bel := next_trans bel bb
 replace belw := next_trans belw bb
 have zw9 := bb.size
 clear bb
 clear cA0_0 cA0_1 cw_0 cw_1 cw_2 cw_3 cw_4 cw_5 cx0_0 cx0_1 cg_0 cg_1 cg_2 cg_3 cg_4 cg_5
 have cA0_0 : w9.cell? ⟨w.heap.size, 0, none⟩ = some (v0_0) := (rA0.next bel).cell 0
 have cA0_1 : w9.cell? ⟨w.heap.size, 1, none⟩ = some (v0_1) := (rA0.next bel).cell 1
 have cw_0 : w9.cell? ⟨w3.heap.size, 0, none⟩ = some (.slice wA0 wn0 wc0) := (rw.next belw).cell 0
 have cw_1 : w9.cell? ⟨w3.heap.size, 1, none⟩ = some (.slice wA1 wn1 wc1) := (rw.next belw).cell 1
 have cw_2 : w9.cell? ⟨w3.heap.size, 2, none⟩ = some (.slice wA2 wn2 wc2) := (rw.next belw).cell 2
 have cw_3 : w9.cell? ⟨w3.heap.size, 3, none⟩ = some (.int .i64 ys.2.2.2.1) := (rw.next belw).cell 3
 have cw_4 : w9.cell? ⟨w3.heap.size, 4, none⟩ = some (.int .i64 ys.2.2.2.2.1) := (rw.next belw).cell 4
 have cw_5 : w9.cell? ⟨w3.heap.size, 5, none⟩ = some (.int .i64 ys.2.2.2.2.2) := (rw.next belw).cell 5
 have cx0_0 : w9.cell? ⟨w5.heap.size, 0, none⟩ = some (.slice x0A0 x0n0 x0c0) := (rx0).cell 0
 have cx0_1 : w9.cell? ⟨w5.heap.size, 1, none⟩ = some (.slice x0A1 x0n1 x0c1) := (rx0).cell 1
 have cg_0 : w9.cell? ⟨w7.heap.size, 0, none⟩ = some (.slice gA0 gn0 gc0) := (rg).cell 0
 have cg_1 : w9.cell? ⟨w7.heap.size, 1, none⟩ = some (.slice gA1 gn1 gc1) := (rg).cell 1
 have cg_2 : w9.cell? ⟨w7.heap.size, 2, none⟩ = some (.slice gA2 gn2 gc2) := (rg).cell 2
 have cg_3 : w9.cell? ⟨w7.heap.size, 3, none⟩ = some (.int .i64 ys.2.2.2.1) := (rg).cell 3
 have cg_4 : w9.cell? ⟨w7.heap.size, 4, none⟩ = some (.int .i64 ys.2.2.2.2.1) := (rg).cell 4
 have cg_5 : w9.cell? ⟨w7.heap.size, 5, none⟩ = some (.int .i64 ys.2.2.2.2.2) := (rg).cell 5
 go_wp2_with fail
 replace ox0 := ox0.drew
 replace rx0 := rx0.drew
 replace og := og.drew
 replace rg := rg.drew
 replace bel := bel.drew
 replace belw := belw.drew
 have zdw9 := (drew_below w9).size
 go_region_held3 (fun w' => w'.cell? ⟨w5.heap.size, 0, none⟩ = some (.slice x0A0 x0n0 x0c0) ∧ w'.cell? ⟨w5.heap.size, 1, none⟩ = some (.slice x0A1 x0n1 x0c1) ∧ w'.cell? ⟨w.heap.size, 0, none⟩ = some (v0_0) ∧ w'.cell? ⟨w.heap.size, 1, none⟩ = some (v0_1))
  (go_keep)
  (first
   | (go_at_call 9; refine (toK_System _ _ d0 _ (s0.next bel) h0.out).mono ?_; rintro e w10 ⟨t0A0, t0n0, t0c0, t0A1, t0n1, t0c1, rfl, ot, bb⟩; replace ox0 := ox0.next bb; replace rx0 := rx0.next bb; replace og := og.next bb; replace rg := rg.next bb; replace bel := next_trans bel bb; replace belw := next_trans belw bb; have k0_0w10 : w10.cell? ⟨w.heap.size, 0, none⟩ = some (v0_0) := (rA0.next bel).cell 0; have k0_1w10 : w10.cell? ⟨w.heap.size, 1, none⟩ = some (v0_1) := (rA0.next bel).cell 1; have l0_0w10 : w10.cell? ⟨w5.heap.size, 0, none⟩ = some (.slice x0A0 x0n0 x0c0) := rx0.cell 0; have l0_1w10 : w10.cell? ⟨w5.heap.size, 1, none⟩ = some (.slice x0A1 x0n1 x0c1) := rx0.cell 1; have zqw10 := bb.size; clear bb)
   | (go_at_call 12; refine (eqK_System _ _ _ _ d0 _ ox0.rd ot.rd h0.out).mono ?_; rintro e w11 ⟨rfl, bb⟩; replace ox0 := ox0.next bb; replace rx0 := rx0.next bb; replace og := og.next bb; replace rg := rg.next bb; replace bel := next_trans bel bb; replace belw := next_trans belw bb; have k0_0w11 : w11.cell? ⟨w.heap.size, 0, none⟩ = some (v0_0) := (rA0.next bel).cell 0; have k0_1w11 : w11.cell? ⟨w.heap.size, 1, none⟩ = some (v0_1) := (rA0.next bel).cell 1; have l0_0w11 : w11.cell? ⟨w5.heap.size, 0, none⟩ = some (.slice x0A0 x0n0 x0c0) := rx0.cell 0; have l0_1w11 : w11.cell? ⟨w5.heap.size, 1, none⟩ = some (.slice x0A1 x0n1 x0c1) := rx0.cell 1; have zqw11 := bb.size; clear bb ot))
 clear k0_0w10 l0_0w10 k0_1w10 l0_1w10 k0_0w11 l0_0w11 k0_1w11 l0_1w11
 clear cA0_0 cA0_1 cw_0 cw_1 cw_2 cw_3 cw_4 cw_5 cx0_0 cx0_1 cg_0 cg_1 cg_2 cg_3 cg_4 cg_5
 have cA0_0 : w11.cell? ⟨w.heap.size, 0, none⟩ = some (v0_0) := (rA0.next bel).cell 0
 have cA0_1 : w11.cell? ⟨w.heap.size, 1, none⟩ = some (v0_1) := (rA0.next bel).cell 1
 have cw_0 : w11.cell? ⟨w3.heap.size, 0, none⟩ = some (.slice wA0 wn0 wc0) := (rw.next belw).cell 0
 have cw_1 : w11.cell? ⟨w3.heap.size, 1, none⟩ = some (.slice wA1 wn1 wc1) := (rw.next belw).cell 1
 have cw_2 : w11.cell? ⟨w3.heap.size, 2, none⟩ = some (.slice wA2 wn2 wc2) := (rw.next belw).cell 2
 have cw_3 : w11.cell? ⟨w3.heap.size, 3, none⟩ = some (.int .i64 ys.2.2.2.1) := (rw.next belw).cell 3
 have cw_4 : w11.cell? ⟨w3.heap.size, 4, none⟩ = some (.int .i64 ys.2.2.2.2.1) := (rw.next belw).cell 4
 have cw_5 : w11.cell? ⟨w3.heap.size, 5, none⟩ = some (.int .i64 ys.2.2.2.2.2) := (rw.next belw).cell 5
 have cx0_0 : w11.cell? ⟨w5.heap.size, 0, none⟩ = some (.slice x0A0 x0n0 x0c0) := (rx0).cell 0
 have cx0_1 : w11.cell? ⟨w5.heap.size, 1, none⟩ = some (.slice x0A1 x0n1 x0c1) := (rx0).cell 1
 have cg_0 : w11.cell? ⟨w7.heap.size, 0, none⟩ = some (.slice gA0 gn0 gc0) := (rg).cell 0
 have cg_1 : w11.cell? ⟨w7.heap.size, 1, none⟩ = some (.slice gA1 gn1 gc1) := (rg).cell 1
 have cg_2 : w11.cell? ⟨w7.heap.size, 2, none⟩ = some (.slice gA2 gn2 gc2) := (rg).cell 2
 have cg_3 : w11.cell? ⟨w7.heap.size, 3, none⟩ = some (.int .i64 ys.2.2.2.1) := (rg).cell 3
 have cg_4 : w11.cell? ⟨w7.heap.size, 4, none⟩ = some (.int .i64 ys.2.2.2.2.1) := (rg).cell 4
 have cg_5 : w11.cell? ⟨w7.heap.size, 5, none⟩ = some (.int .i64 ys.2.2.2.2.2) := (rg).cell 5
 obtain ⟨Fox0, fox0, nox0, box0⟩ := ox0
 go_wp2_with fail
 refine (markK_System _ _ d0 (1) Fox0 _ fox0 nox0 h0.out (by omega) (by rw [HK0.out]; omega)).mono ?_
 rintro e w12 ⟨he, omox0, onox0⟩
 rw [HK0.out] at he
 have bt := onox0.btw box0
 clear onox0
 clear omox0 fox0 nox0 box0
 subst he
 replace rx0 := Row.btw rx0 bt (by omega)
 replace og := og.btw bt (by omega)
 replace rg := Row.btw rg bt (by omega)
 replace bel := Below.btw bel bt (by omega) bel.size
 replace belw := Below.btw belw bt (by omega) belw.size
 have zw12 := bt.size
 clear bt
 clear cA0_0 cA0_1 cw_0 cw_1 cw_2 cw_3 cw_4 cw_5 cx0_0 cx0_1 cg_0 cg_1 cg_2 cg_3 cg_4 cg_5
 have cA0_0 : w12.cell? ⟨w.heap.size, 0, none⟩ = some (v0_0) := (rA0.next bel).cell 0
 have cA0_1 : w12.cell? ⟨w.heap.size, 1, none⟩ = some (v0_1) := (rA0.next bel).cell 1
 have cw_0 : w12.cell? ⟨w3.heap.size, 0, none⟩ = some (.slice wA0 wn0 wc0) := (rw.next belw).cell 0
 have cw_1 : w12.cell? ⟨w3.heap.size, 1, none⟩ = some (.slice wA1 wn1 wc1) := (rw.next belw).cell 1
 have cw_2 : w12.cell? ⟨w3.heap.size, 2, none⟩ = some (.slice wA2 wn2 wc2) := (rw.next belw).cell 2
 have cw_3 : w12.cell? ⟨w3.heap.size, 3, none⟩ = some (.int .i64 ys.2.2.2.1) := (rw.next belw).cell 3
 have cw_4 : w12.cell? ⟨w3.heap.size, 4, none⟩ = some (.int .i64 ys.2.2.2.2.1) := (rw.next belw).cell 4
 have cw_5 : w12.cell? ⟨w3.heap.size, 5, none⟩ = some (.int .i64 ys.2.2.2.2.2) := (rw.next belw).cell 5
 have cx0_0 : w12.cell? ⟨w5.heap.size, 0, none⟩ = some (.slice x0A0 x0n0 x0c0) := (rx0).cell 0
 have cx0_1 : w12.cell? ⟨w5.heap.size, 1, none⟩ = some (.slice x0A1 x0n1 x0c1) := (rx0).cell 1
 have cg_0 : w12.cell? ⟨w7.heap.size, 0, none⟩ = some (.slice gA0 gn0 gc0) := (rg).cell 0
 have cg_1 : w12.cell? ⟨w7.heap.size, 1, none⟩ = some (.slice gA1 gn1 gc1) := (rg).cell 1
 have cg_2 : w12.cell? ⟨w7.heap.size, 2, none⟩ = some (.slice gA2 gn2 gc2) := (rg).cell 2
 have cg_3 : w12.cell? ⟨w7.heap.size, 3, none⟩ = some (.int .i64 ys.2.2.2.1) := (rg).cell 3
 have cg_4 : w12.cell? ⟨w7.heap.size, 4, none⟩ = some (.int .i64 ys.2.2.2.2.1) := (rg).cell 4
 have cg_5 : w12.cell? ⟨w7.heap.size, 5, none⟩ = some (.int .i64 ys.2.2.2.2.2) := (rg).cell 5
 clear rx0
 clear cA0_0 cA0_1 cw_0 cw_1 cw_2 cw_3 cw_4 cw_5 cx0_0 cx0_1 cg_0 cg_1 cg_2 cg_3 cg_4 cg_5
 have cA0_0 : w12.cell? ⟨w.heap.size, 0, none⟩ = some (v0_0) := (rA0.next bel).cell 0
 have cA0_1 : w12.cell? ⟨w.heap.size, 1, none⟩ = some (v0_1) := (rA0.next bel).cell 1
 have cw_0 : w12.cell? ⟨w3.heap.size, 0, none⟩ = some (.slice wA0 wn0 wc0) := (rw.next belw).cell 0
 have cw_1 : w12.cell? ⟨w3.heap.size, 1, none⟩ = some (.slice wA1 wn1 wc1) := (rw.next belw).cell 1
 have cw_2 : w12.cell? ⟨w3.heap.size, 2, none⟩ = some (.slice wA2 wn2 wc2) := (rw.next belw).cell 2
 have cw_3 : w12.cell? ⟨w3.heap.size, 3, none⟩ = some (.int .i64 ys.2.2.2.1) := (rw.next belw).cell 3
 have cw_4 : w12.cell? ⟨w3.heap.size, 4, none⟩ = some (.int .i64 ys.2.2.2.2.1) := (rw.next belw).cell 4
 have cw_5 : w12.cell? ⟨w3.heap.size, 5, none⟩ = some (.int .i64 ys.2.2.2.2.2) := (rw.next belw).cell 5
 have cg_0 : w12.cell? ⟨w7.heap.size, 0, none⟩ = some (.slice gA0 gn0 gc0) := (rg).cell 0
 have cg_1 : w12.cell? ⟨w7.heap.size, 1, none⟩ = some (.slice gA1 gn1 gc1) := (rg).cell 1
 have cg_2 : w12.cell? ⟨w7.heap.size, 2, none⟩ = some (.slice gA2 gn2 gc2) := (rg).cell 2
 have cg_3 : w12.cell? ⟨w7.heap.size, 3, none⟩ = some (.int .i64 ys.2.2.2.1) := (rg).cell 3
 have cg_4 : w12.cell? ⟨w7.heap.size, 4, none⟩ = some (.int .i64 ys.2.2.2.2.1) := (rg).cell 4
 have cg_5 : w12.cell? ⟨w7.heap.size, 5, none⟩ = some (.int .i64 ys.2.2.2.2.2) := (rg).cell 5
 go_wp2_with fail
 refine (eqK_Peak _ _ _ _ _ _ ys _ og.rd (sw.next belw) hlen.out).mono ?_
 rintro e w13 ⟨rfl, bb⟩
 replace og := og.next bb
 replace rg := rg.next bb
 replace bel := next_trans bel bb
 replace belw := next_trans belw bb
 have zw13 := bb.size
 clear bb
 clear cA0_0 cA0_1 cw_0 cw_1 cw_2 cw_3 cw_4 cw_5 cg_0 cg_1 cg_2 cg_3 cg_4 cg_5
 have cA0_0 : w13.cell? ⟨w.heap.size, 0, none⟩ = some (v0_0) := (rA0.next bel).cell 0
 have cA0_1 : w13.cell? ⟨w.heap.size, 1, none⟩ = some (v0_1) := (rA0.next bel).cell 1
 have cw_0 : w13.cell? ⟨w3.heap.size, 0, none⟩ = some (.slice wA0 wn0 wc0) := (rw.next belw).cell 0
 have cw_1 : w13.cell? ⟨w3.heap.size, 1, none⟩ = some (.slice wA1 wn1 wc1) := (rw.next belw).cell 1
 have cw_2 : w13.cell? ⟨w3.heap.size, 2, none⟩ = some (.slice wA2 wn2 wc2) := (rw.next belw).cell 2
 have cw_3 : w13.cell? ⟨w3.heap.size, 3, none⟩ = some (.int .i64 ys.2.2.2.1) := (rw.next belw).cell 3
 have cw_4 : w13.cell? ⟨w3.heap.size, 4, none⟩ = some (.int .i64 ys.2.2.2.2.1) := (rw.next belw).cell 4
 have cw_5 : w13.cell? ⟨w3.heap.size, 5, none⟩ = some (.int .i64 ys.2.2.2.2.2) := (rw.next belw).cell 5
 have cg_0 : w13.cell? ⟨w7.heap.size, 0, none⟩ = some (.slice gA0 gn0 gc0) := (rg).cell 0
 have cg_1 : w13.cell? ⟨w7.heap.size, 1, none⟩ = some (.slice gA1 gn1 gc1) := (rg).cell 1
 have cg_2 : w13.cell? ⟨w7.heap.size, 2, none⟩ = some (.slice gA2 gn2 gc2) := (rg).cell 2
 have cg_3 : w13.cell? ⟨w7.heap.size, 3, none⟩ = some (.int .i64 ys.2.2.2.1) := (rg).cell 3
 have cg_4 : w13.cell? ⟨w7.heap.size, 4, none⟩ = some (.int .i64 ys.2.2.2.2.1) := (rg).cell 4
 have cg_5 : w13.cell? ⟨w7.heap.size, 5, none⟩ = some (.int .i64 ys.2.2.2.2.2) := (rg).cell 5
 obtain ⟨Fog, fog, nog, bog⟩ := og
 go_wp2_with fail
 refine (markK_Peak _ _ _ ys (1) Fog _ fog nog hlen.out (by omega) (by rw [HCG.out]; omega)).mono ?_
 rintro e w14 ⟨he, omog, onog⟩
 rw [HCG.out] at he
 have bt := onog.btw bog
 clear onog
 have om : Owned w14 (w6.heap.size) (w7.heap.size) sPeak [.slice gA0 gn0 gc0, .slice gA1 gn1 gc1, .slice gA2 gn2 gc2, .int .i64 ys.2.2.2.1, .int .i64 ys.2.2.2.2.1, .int .i64 ys.2.2.2.2.2] (mkv sPeak 1 ys) := ⟨Fog, omog, nog, bog⟩
 clear omog fog nog bog
 subst he
 replace rg := Row.btw rg bt (by omega)
 replace bel := Below.btw bel bt (by omega) bel.size
 replace belw := Below.btw belw bt (by omega) belw.size
 have zw14 := bt.size
 clear bt
 clear cA0_0 cA0_1 cw_0 cw_1 cw_2 cw_3 cw_4 cw_5 cg_0 cg_1 cg_2 cg_3 cg_4 cg_5
 have cA0_0 : w14.cell? ⟨w.heap.size, 0, none⟩ = some (v0_0) := (rA0.next bel).cell 0
 have cA0_1 : w14.cell? ⟨w.heap.size, 1, none⟩ = some (v0_1) := (rA0.next bel).cell 1
 have cw_0 : w14.cell? ⟨w3.heap.size, 0, none⟩ = some (.slice wA0 wn0 wc0) := (rw.next belw).cell 0
 have cw_1 : w14.cell? ⟨w3.heap.size, 1, none⟩ = some (.slice wA1 wn1 wc1) := (rw.next belw).cell 1
 have cw_2 : w14.cell? ⟨w3.heap.size, 2, none⟩ = some (.slice wA2 wn2 wc2) := (rw.next belw).cell 2
 have cw_3 : w14.cell? ⟨w3.heap.size, 3, none⟩ = some (.int .i64 ys.2.2.2.1) := (rw.next belw).cell 3
 have cw_4 : w14.cell? ⟨w3.heap.size, 4, none⟩ = some (.int .i64 ys.2.2.2.2.1) := (rw.next belw).cell 4
 have cw_5 : w14.cell? ⟨w3.heap.size, 5, none⟩ = some (.int .i64 ys.2.2.2.2.2) := (rw.next belw).cell 5
 have cg_0 : w14.cell? ⟨w7.heap.size, 0, none⟩ = some (.slice gA0 gn0 gc0) := (rg).cell 0
 have cg_1 : w14.cell? ⟨w7.heap.size, 1, none⟩ = some (.slice gA1 gn1 gc1) := (rg).cell 1
 have cg_2 : w14.cell? ⟨w7.heap.size, 2, none⟩ = some (.slice gA2 gn2 gc2) := (rg).cell 2
 have cg_3 : w14.cell? ⟨w7.heap.size, 3, none⟩ = some (.int .i64 ys.2.2.2.1) := (rg).cell 3
 have cg_4 : w14.cell? ⟨w7.heap.size, 4, none⟩ = some (.int .i64 ys.2.2.2.2.1) := (rg).cell 4
 have cg_5 : w14.cell? ⟨w7.heap.size, 5, none⟩ = some (.int .i64 ys.2.2.2.2.2) := (rg).cell 5
 go_wp2_with fail
 refine (heldK_Peak _ _ _ ys 1 _ om.rd hlen.out (by omega) (by rw [HCG.out]; omega)).mono ?_
 rintro e w15 ⟨he, bb⟩
 rw [HCG.out] at he
 subst he
 replace rg := rg.next bb
 replace om := om.next bb
 replace bel := next_trans bel bb
 replace belw := next_trans belw bb
 have zw15 := bb.size
 clear bb
 clear cA0_0 cA0_1 cw_0 cw_1 cw_2 cw_3 cw_4 cw_5 cg_0 cg_1 cg_2 cg_3 cg_4 cg_5
 have cA0_0 : w15.cell? ⟨w.heap.size, 0, none⟩ = some (v0_0) := (rA0.next bel).cell 0
 have cA0_1 : w15.cell? ⟨w.heap.size, 1, none⟩ = some (v0_1) := (rA0.next bel).cell 1
 have cw_0 : w15.cell? ⟨w3.heap.size, 0, none⟩ = some (.slice wA0 wn0 wc0) := (rw.next belw).cell 0
 have cw_1 : w15.cell? ⟨w3.heap.size, 1, none⟩ = some (.slice wA1 wn1 wc1) := (rw.next belw).cell 1
 have cw_2 : w15.cell? ⟨w3.heap.size, 2, none⟩ = some (.slice wA2 wn2 wc2) := (rw.next belw).cell 2
 have cw_3 : w15.cell? ⟨w3.heap.size, 3, none⟩ = some (.int .i64 ys.2.2.2.1) := (rw.next belw).cell 3
 have cw_4 : w15.cell? ⟨w3.heap.size, 4, none⟩ = some (.int .i64 ys.2.2.2.2.1) := (rw.next belw).cell 4
 have cw_5 : w15.cell? ⟨w3.heap.size, 5, none⟩ = some (.int .i64 ys.2.2.2.2.2) := (rw.next belw).cell 5
 have cg_0 : w15.cell? ⟨w7.heap.size, 0, none⟩ = some (.slice gA0 gn0 gc0) := (rg).cell 0
 have cg_1 : w15.cell? ⟨w7.heap.size, 1, none⟩ = some (.slice gA1 gn1 gc1) := (rg).cell 1
 have cg_2 : w15.cell? ⟨w7.heap.size, 2, none⟩ = some (.slice gA2 gn2 gc2) := (rg).cell 2
 have cg_3 : w15.cell? ⟨w7.heap.size, 3, none⟩ = some (.int .i64 ys.2.2.2.1) := (rg).cell 3
 have cg_4 : w15.cell? ⟨w7.heap.size, 4, none⟩ = some (.int .i64 ys.2.2.2.2.1) := (rg).cell 4
 have cg_5 : w15.cell? ⟨w7.heap.size, 5, none⟩ = some (.int .i64 ys.2.2.2.2.2) := (rg).cell 5
 go_wp2_with fail
 refine (toK_System _ _ d0 _ (s0.next bel) h0.out).mono ?_
 rintro e w16 ⟨p0A0, p0n0, p0c0, p0A1, p0n1, p0c1, rfl, op0, bb⟩
 replace rg := rg.next bb
 replace om := om.next bb
 replace bel := next_trans bel bb
 replace belw := next_trans belw bb
 have zw16 := bb.size
 clear bb
 clear cA0_0 cA0_1 cw_0 cw_1 cw_2 cw_3 cw_4 cw_5 cg_0 cg_1 cg_2 cg_3 cg_4 cg_5
 have cA0_0 : w16.cell? ⟨w.heap.size, 0, none⟩ = some (v0_0) := (rA0.next bel).cell 0
 have cA0_1 : w16.cell? ⟨w.heap.size, 1, none⟩ = some (v0_1) := (rA0.next bel).cell 1
 have cw_0 : w16.cell? ⟨w3.heap.size, 0, none⟩ = some (.slice wA0 wn0 wc0) := (rw.next belw).cell 0
 have cw_1 : w16.cell? ⟨w3.heap.size, 1, none⟩ = some (.slice wA1 wn1 wc1) := (rw.next belw).cell 1
 have cw_2 : w16.cell? ⟨w3.heap.size, 2, none⟩ = some (.slice wA2 wn2 wc2) := (rw.next belw).cell 2
 have cw_3 : w16.cell? ⟨w3.heap.size, 3, none⟩ = some (.int .i64 ys.2.2.2.1) := (rw.next belw).cell 3
 have cw_4 : w16.cell? ⟨w3.heap.size, 4, none⟩ = some (.int .i64 ys.2.2.2.2.1) := (rw.next belw).cell 4
 have cw_5 : w16.cell? ⟨w3.heap.size, 5, none⟩ = some (.int .i64 ys.2.2.2.2.2) := (rw.next belw).cell 5
 have cg_0 : w16.cell? ⟨w7.heap.size, 0, none⟩ = some (.slice gA0 gn0 gc0) := (rg).cell 0
 have cg_1 : w16.cell? ⟨w7.heap.size, 1, none⟩ = some (.slice gA1 gn1 gc1) := (rg).cell 1
 have cg_2 : w16.cell? ⟨w7.heap.size, 2, none⟩ = some (.slice gA2 gn2 gc2) := (rg).cell 2
 have cg_3 : w16.cell? ⟨w7.heap.size, 3, none⟩ = some (.int .i64 ys.2.2.2.1) := (rg).cell 3
 have cg_4 : w16.cell? ⟨w7.heap.size, 4, none⟩ = some (.int .i64 ys.2.2.2.2.1) := (rg).cell 4
 have cg_5 : w16.cell? ⟨w7.heap.size, 5, none⟩ = some (.int .i64 ys.2.2.2.2.2) := (rg).cell 5
 go_wp2_with fail
 refine (implPeakAtX _ _ d0 x1 x2 x3 _ op0.rd h0.out bl1 bh1 bl2 bh2 bl3 bh3).mono ?_
 rintro e w17 ⟨hA0, hn0, hc0, hA1, hn1, hc1, hA2, hn2, hc2, he, o0, bb⟩
 rw [HV.out] at he
 rw [HY.out] at o0 he
 subst he
 replace rg := rg.next bb
 replace om := om.next bb
 replace op0 := op0.next bb
 replace bel := next_trans bel bb
 replace belw := next_trans belw bb
 have zw17 := bb.size
 clear bb
 have sh := o0.rd
 clear o0
 clear op0
 clear cA0_0 cA0_1 cw_0 cw_1 cw_2 cw_3 cw_4 cw_5 cg_0 cg_1 cg_2 cg_3 cg_4 cg_5
 have cA0_0 : w17.cell? ⟨w.heap.size, 0, none⟩ = some (v0_0) := (rA0.next bel).cell 0
 have cA0_1 : w17.cell? ⟨w.heap.size, 1, none⟩ = some (v0_1) := (rA0.next bel).cell 1
 have cw_0 : w17.cell? ⟨w3.heap.size, 0, none⟩ = some (.slice wA0 wn0 wc0) := (rw.next belw).cell 0
 have cw_1 : w17.cell? ⟨w3.heap.size, 1, none⟩ = some (.slice wA1 wn1 wc1) := (rw.next belw).cell 1
 have cw_2 : w17.cell? ⟨w3.heap.size, 2, none⟩ = some (.slice wA2 wn2 wc2) := (rw.next belw).cell 2
 have cw_3 : w17.cell? ⟨w3.heap.size, 3, none⟩ = some (.int .i64 ys.2.2.2.1) := (rw.next belw).cell 3
 have cw_4 : w17.cell? ⟨w3.heap.size, 4, none⟩ = some (.int .i64 ys.2.2.2.2.1) := (rw.next belw).cell 4
 have cw_5 : w17.cell? ⟨w3.heap.size, 5, none⟩ = some (.int .i64 ys.2.2.2.2.2) := (rw.next belw).cell 5
 have cg_0 : w17.cell? ⟨w7.heap.size, 0, none⟩ = some (.slice gA0 gn0 gc0) := (rg).cell 0
 have cg_1 : w17.cell? ⟨w7.heap.size, 1, none⟩ = some (.slice gA1 gn1 gc1) := (rg).cell 1
 have cg_2 : w17.cell? ⟨w7.heap.size, 2, none⟩ = some (.slice gA2 gn2 gc2) := (rg).cell 2
 have cg_3 : w17.cell? ⟨w7.heap.size, 3, none⟩ = some (.int .i64 ys.2.2.2.1) := (rg).cell 3
 have cg_4 : w17.cell? ⟨w7.heap.size, 4, none⟩ = some (.int .i64 ys.2.2.2.2.1) := (rg).cell 4
 have cg_5 : w17.cell? ⟨w7.heap.size, 5, none⟩ = some (.int .i64 ys.2.2.2.2.2) := (rg).cell 5
 have dA0_0 : (w17.alloc (.cells #[.slice hA0 hn0 hc0, .slice hA1 hn1 hc1, .slice hA2 hn2 hc2, .int .i64 ys.2.2.2.1, .int .i64 ys.2.2.2.2.1, .int .i64 ys.2.2.2.2.2] 41)).cell? ⟨w.heap.size, 0, none⟩ = some (v0_0) := ((rA0.next bel).alloc _).cell 0
 have dA0_1 : (w17.alloc (.cells #[.slice hA0 hn0 hc0, .slice hA1 hn1 hc1, .slice hA2 hn2 hc2, .int .i64 ys.2.2.2.1, .int .i64 ys.2.2.2.2.1, .int .i64 ys.2.2.2.2.2] 41)).cell? ⟨w.heap.size, 1, none⟩ = some (v0_1) := ((rA0.next bel).alloc _).cell 1
 have dw_0 : (w17.alloc (.cells #[.slice hA0 hn0 hc0, .slice hA1 hn1 hc1, .slice hA2 hn2 hc2, .int .i64 ys.2.2.2.1, .int .i64 ys.2.2.2.2.1, .int .i64 ys.2.2.2.2.2] 41)).cell? ⟨w3.heap.size, 0, none⟩ = some (.slice wA0 wn0 wc0) := ((rw.next belw).alloc _).cell 0
 have dw_1 : (w17.alloc (.cells #[.slice hA0 hn0 hc0, .slice hA1 hn1 hc1, .slice hA2 hn2 hc2, .int .i64 ys.2.2.2.1, .int .i64 ys.2.2.2.2.1, .int .i64 ys.2.2.2.2.2] 41)).cell? ⟨w3.heap.size, 1, none⟩ = some (.slice wA1 wn1 wc1) := ((rw.next belw).alloc _).cell 1
 have dw_2 : (w17.alloc (.cells #[.slice hA0 hn0 hc0, .slice hA1 hn1 hc1, .slice hA2 hn2 hc2, .int .i64 ys.2.2.2.1, .int .i64 ys.2.2.2.2.1, .int .i64 ys.2.2.2.2.2] 41)).cell? ⟨w3.heap.size, 2, none⟩ = some (.slice wA2 wn2 wc2) := ((rw.next belw).alloc _).cell 2
 have dw_3 : (w17.alloc (.cells #[.slice hA0 hn0 hc0, .slice hA1 hn1 hc1, .slice hA2 hn2 hc2, .int .i64 ys.2.2.2.1, .int .i64 ys.2.2.2.2.1, .int .i64 ys.2.2.2.2.2] 41)).cell? ⟨w3.heap.size, 3, none⟩ = some (.int .i64 ys.2.2.2.1) := ((rw.next belw).alloc _).cell 3
 have dw_4 : (w17.alloc (.cells #[.slice hA0 hn0 hc0, .slice hA1 hn1 hc1, .slice hA2 hn2 hc2, .int .i64 ys.2.2.2.1, .int .i64 ys.2.2.2.2.1, .int .i64 ys.2.2.2.2.2] 41)).cell? ⟨w3.heap.size, 4, none⟩ = some (.int .i64 ys.2.2.2.2.1) := ((rw.next belw).alloc _).cell 4
 have dw_5 : (w17.alloc (.cells #[.slice hA0 hn0 hc0, .slice hA1 hn1 hc1, .slice hA2 hn2 hc2, .int .i64 ys.2.2.2.1, .int .i64 ys.2.2.2.2.1, .int .i64 ys.2.2.2.2.2] 41)).cell? ⟨w3.heap.size, 5, none⟩ = some (.int .i64 ys.2.2.2.2.2) := ((rw.next belw).alloc _).cell 5
 have dg_0 : (w17.alloc (.cells #[.slice hA0 hn0 hc0, .slice hA1 hn1 hc1, .slice hA2 hn2 hc2, .int .i64 ys.2.2.2.1, .int .i64 ys.2.2.2.2.1, .int .i64 ys.2.2.2.2.2] 41)).cell? ⟨w7.heap.size, 0, none⟩ = some (.slice gA0 gn0 gc0) := ((rg).alloc _).cell 0
 have dg_1 : (w17.alloc (.cells #[.slice hA0 hn0 hc0, .slice hA1 hn1 hc1, .slice hA2 hn2 hc2, .int .i64 ys.2.2.2.1, .int .i64 ys.2.2.2.2.1, .int .i64 ys.2.2.2.2.2] 41)).cell? ⟨w7.heap.size, 1, none⟩ = some (.slice gA1 gn1 gc1) := ((rg).alloc _).cell 1
 have dg_2 : (w17.alloc (.cells #[.slice hA0 hn0 hc0, .slice hA1 hn1 hc1, .slice hA2 hn2 hc2, .int .i64 ys.2.2.2.1, .int .i64 ys.2.2.2.2.1, .int .i64 ys.2.2.2.2.2] 41)).cell? ⟨w7.heap.size, 2, none⟩ = some (.slice gA2 gn2 gc2) := ((rg).alloc _).cell 2
 have dg_3 : (w17.alloc (.cells #[.slice hA0 hn0 hc0, .slice hA1 hn1 hc1, .slice hA2 hn2 hc2, .int .i64 ys.2.2.2.1, .int .i64 ys.2.2.2.2.1, .int .i64 ys.2.2.2.2.2] 41)).cell? ⟨w7.heap.size, 3, none⟩ = some (.int .i64 ys.2.2.2.1) := ((rg).alloc _).cell 3
 have dg_4 : (w17.alloc (.cells #[.slice hA0 hn0 hc0, .slice hA1 hn1 hc1, .slice hA2 hn2 hc2, .int .i64 ys.2.2.2.1, .int .i64 ys.2.2.2.2.1, .int .i64 ys.2.2.2.2.2] 41)).cell? ⟨w7.heap.size, 4, none⟩ = some (.int .i64 ys.2.2.2.2.1) := ((rg).alloc _).cell 4
 have dg_5 : (w17.alloc (.cells #[.slice hA0 hn0 hc0, .slice hA1 hn1 hc1, .slice hA2 hn2 hc2, .int .i64 ys.2.2.2.1, .int .i64 ys.2.2.2.2.1, .int .i64 ys.2.2.2.2.2] 41)).cell? ⟨w7.heap.size, 5, none⟩ = some (.int .i64 ys.2.2.2.2.2) := ((rg).alloc _).cell 5
 go_wp2_with fail
 obtain ⟨w18, hw⟩ : ∃ W, W = w17.alloc (.cells #[.slice hA0 hn0 hc0, .slice hA1 hn1 hc1, .slice hA2 hn2 hc2, .int .i64 ys.2.2.2.1, .int .i64 ys.2.2.2.2.1, .int .i64 ys.2.2.2.2.2] 41) := ⟨_, rfl⟩
 rw [← hw]
 have rh : Row w18 w17.heap.size 41 #[.slice hA0 hn0 hc0, .slice hA1 hn1 hc1, .slice hA2 hn2 hc2, .int .i64 ys.2.2.2.1, .int .i64 ys.2.2.2.2.1, .int .i64 ys.2.2.2.2.2] := by rw [hw]; exact Row.new _ _ _
 have bb : Below w17.heap.size w17 w18 := by rw [hw]; exact (Below.refl _ _).alloc (Nat.le_refl _) _
 have yrh : w17.heap.size < w18.heap.size := by rw [hw]; simp
 clear hw
 replace rg := rg.next bb
 replace om := om.next bb
 replace sh := sh.next bb
 replace bel := next_trans bel bb
 replace belw := next_trans belw bb
 have zw18 := bb.size
 clear bb
 clear dA0_0 dA0_1 dw_0 dw_1 dw_2 dw_3 dw_4 dw_5 dg_0 dg_1 dg_2 dg_3 dg_4 dg_5
 have belh := Below.refl w18.heap.size w18
 clear cA0_0 cA0_1 cw_0 cw_1 cw_2 cw_3 cw_4 cw_5 cg_0 cg_1 cg_2 cg_3 cg_4 cg_5
 have cA0_0 : w18.cell? ⟨w.heap.size, 0, none⟩ = some (v0_0) := (rA0.next bel).cell 0
 have cA0_1 : w18.cell? ⟨w.heap.size, 1, none⟩ = some (v0_1) := (rA0.next bel).cell 1
 have cw_0 : w18.cell? ⟨w3.heap.size, 0, none⟩ = some (.slice wA0 wn0 wc0) := (rw.next belw).cell 0
 have cw_1 : w18.cell? ⟨w3.heap.size, 1, none⟩ = some (.slice wA1 wn1 wc1) := (rw.next belw).cell 1
 have cw_2 : w18.cell? ⟨w3.heap.size, 2, none⟩ = some (.slice wA2 wn2 wc2) := (rw.next belw).cell 2
 have cw_3 : w18.cell? ⟨w3.heap.size, 3, none⟩ = some (.int .i64 ys.2.2.2.1) := (rw.next belw).cell 3
 have cw_4 : w18.cell? ⟨w3.heap.size, 4, none⟩ = some (.int .i64 ys.2.2.2.2.1) := (rw.next belw).cell 4
 have cw_5 : w18.cell? ⟨w3.heap.size, 5, none⟩ = some (.int .i64 ys.2.2.2.2.2) := (rw.next belw).cell 5
 have cg_0 : w18.cell? ⟨w7.heap.size, 0, none⟩ = some (.slice gA0 gn0 gc0) := (rg).cell 0
 have cg_1 : w18.cell? ⟨w7.heap.size, 1, none⟩ = some (.slice gA1 gn1 gc1) := (rg).cell 1
 have cg_2 : w18.cell? ⟨w7.heap.size, 2, none⟩ = some (.slice gA2 gn2 gc2) := (rg).cell 2
 have cg_3 : w18.cell? ⟨w7.heap.size, 3, none⟩ = some (.int .i64 ys.2.2.2.1) := (rg).cell 3
 have cg_4 : w18.cell? ⟨w7.heap.size, 4, none⟩ = some (.int .i64 ys.2.2.2.2.1) := (rg).cell 4
 have cg_5 : w18.cell? ⟨w7.heap.size, 5, none⟩ = some (.int .i64 ys.2.2.2.2.2) := (rg).cell 5
 have ch_0 : w18.cell? ⟨w17.heap.size, 0, none⟩ = some (.slice hA0 hn0 hc0) := (rh.next belh).cell 0
 have ch_1 : w18.cell? ⟨w17.heap.size, 1, none⟩ = some (.slice hA1 hn1 hc1) := (rh.next belh).cell 1
 have ch_2 : w18.cell? ⟨w17.heap.size, 2, none⟩ = some (.slice hA2 hn2 hc2) := (rh.next belh).cell 2
 have ch_3 : w18.cell? ⟨w17.heap.size, 3, none⟩ = some (.int .i64 ys.2.2.2.1) := (rh.next belh).cell 3
 have ch_4 : w18.cell? ⟨w17.heap.size, 4, none⟩ = some (.int .i64 ys.2.2.2.2.1) := (rh.next belh).cell 4
 have ch_5 : w18.cell? ⟨w17.heap.size, 5, none⟩ = some (.int .i64 ys.2.2.2.2.2) := (rh.next belh).cell 5
 refine (eqK_Peak _ _ _ _ _ _ ys _ (sh.next belh) (sw.next belw) hlen.out).mono ?_
 rintro e w19 ⟨rfl, bb⟩
 replace rg := rg.next bb
 replace om := om.next bb
 replace bel := next_trans bel bb
 replace belw := next_trans belw bb
 replace belh := next_trans belh bb
 have zw19 := bb.size
 clear bb
 clear cA0_0 cA0_1 cw_0 cw_1 cw_2 cw_3 cw_4 cw_5 cg_0 cg_1 cg_2 cg_3 cg_4 cg_5 ch_0 ch_1 ch_2 ch_3 ch_4 ch_5
 have cA0_0 : w19.cell? ⟨w.heap.size, 0, none⟩ = some (v0_0) := (rA0.next bel).cell 0
 have cA0_1 : w19.cell? ⟨w.heap.size, 1, none⟩ = some (v0_1) := (rA0.next bel).cell 1
 have cw_0 : w19.cell? ⟨w3.heap.size, 0, none⟩ = some (.slice wA0 wn0 wc0) := (rw.next belw).cell 0
 have cw_1 : w19.cell? ⟨w3.heap.size, 1, none⟩ = some (.slice wA1 wn1 wc1) := (rw.next belw).cell 1
 have cw_2 : w19.cell? ⟨w3.heap.size, 2, none⟩ = some (.slice wA2 wn2 wc2) := (rw.next belw).cell 2
 have cw_3 : w19.cell? ⟨w3.heap.size, 3, none⟩ = some (.int .i64 ys.2.2.2.1) := (rw.next belw).cell 3
 have cw_4 : w19.cell? ⟨w3.heap.size, 4, none⟩ = some (.int .i64 ys.2.2.2.2.1) := (rw.next belw).cell 4
 have cw_5 : w19.cell? ⟨w3.heap.size, 5, none⟩ = some (.int .i64 ys.2.2.2.2.2) := (rw.next belw).cell 5
 have cg_0 : w19.cell? ⟨w7.heap.size, 0, none⟩ = some (.slice gA0 gn0 gc0) := (rg).cell 0
 have cg_1 : w19.cell? ⟨w7.heap.size, 1, none⟩ = some (.slice gA1 gn1 gc1) := (rg).cell 1
 have cg_2 : w19.cell? ⟨w7.heap.size, 2, none⟩ = some (.slice gA2 gn2 gc2) := (rg).cell 2
 have cg_3 : w19.cell? ⟨w7.heap.size, 3, none⟩ = some (.int .i64 ys.2.2.2.1) := (rg).cell 3
 have cg_4 : w19.cell? ⟨w7.heap.size, 4, none⟩ = some (.int .i64 ys.2.2.2.2.1) := (rg).cell 4
 have cg_5 : w19.cell? ⟨w7.heap.size, 5, none⟩ = some (.int .i64 ys.2.2.2.2.2) := (rg).cell 5
 have ch_0 : w19.cell? ⟨w17.heap.size, 0, none⟩ = some (.slice hA0 hn0 hc0) := (rh.next belh).cell 0
 have ch_1 : w19.cell? ⟨w17.heap.size, 1, none⟩ = some (.slice hA1 hn1 hc1) := (rh.next belh).cell 1
 have ch_2 : w19.cell? ⟨w17.heap.size, 2, none⟩ = some (.slice hA2 hn2 hc2) := (rh.next belh).cell 2
 have ch_3 : w19.cell? ⟨w17.heap.size, 3, none⟩ = some (.int .i64 ys.2.2.2.1) := (rh.next belh).cell 3
 have ch_4 : w19.cell? ⟨w17.heap.size, 4, none⟩ = some (.int .i64 ys.2.2.2.2.1) := (rh.next belh).cell 4
 have ch_5 : w19.cell? ⟨w17.heap.size, 5, none⟩ = some (.int .i64 ys.2.2.2.2.2) := (rh.next belh).cell 5
 go_wp2_with fail
 refine (heldK_Peak _ _ _ ys 1 _ om.rd hlen.out (by omega) (by rw [HCG.out]; omega)).mono ?_
 rintro e w20 ⟨he, bb⟩
 rw [HCG.out] at he
 subst he
 replace rg := rg.next bb
 replace om := om.next bb
 replace bel := next_trans bel bb
 replace belw := next_trans belw bb
 replace belh := next_trans belh bb
 have zw20 := bb.size
 clear bb
 clear cA0_0 cA0_1 cw_0 cw_1 cw_2 cw_3 cw_4 cw_5 cg_0 cg_1 cg_2 cg_3 cg_4 cg_5 ch_0 ch_1 ch_2 ch_3 ch_4 ch_5
 have cA0_0 : w20.cell? ⟨w.heap.size, 0, none⟩ = some (v0_0) := (rA0.next bel).cell 0
 have cA0_1 : w20.cell? ⟨w.heap.size, 1, none⟩ = some (v0_1) := (rA0.next bel).cell 1
 have cw_0 : w20.cell? ⟨w3.heap.size, 0, none⟩ = some (.slice wA0 wn0 wc0) := (rw.next belw).cell 0
 have cw_1 : w20.cell? ⟨w3.heap.size, 1, none⟩ = some (.slice wA1 wn1 wc1) := (rw.next belw).cell 1
 have cw_2 : w20.cell? ⟨w3.heap.size, 2, none⟩ = some (.slice wA2 wn2 wc2) := (rw.next belw).cell 2
 have cw_3 : w20.cell? ⟨w3.heap.size, 3, none⟩ = some (.int .i64 ys.2.2.2.1) := (rw.next belw).cell 3
 have cw_4 : w20.cell? ⟨w3.heap.size, 4, none⟩ = some (.int .i64 ys.2.2.2.2.1) := (rw.next belw).cell 4
 have cw_5 : w20.cell? ⟨w3.heap.size, 5, none⟩ = some (.int .i64 ys.2.2.2.2.2) := (rw.next belw).cell 5
 have cg_0 : w20.cell? ⟨w7.heap.size, 0, none⟩ = some (.slice gA0 gn0 gc0) := (rg).cell 0
 have cg_1 : w20.cell? ⟨w7.heap.size, 1, none⟩ = some (.slice gA1 gn1 gc1) := (rg).cell 1
 have cg_2 : w20.cell? ⟨w7.heap.size, 2, none⟩ = some (.slice gA2 gn2 gc2) := (rg).cell 2
 have cg_3 : w20.cell? ⟨w7.heap.size, 3, none⟩ = some (.int .i64 ys.2.2.2.1) := (rg).cell 3
 have cg_4 : w20.cell? ⟨w7.heap.size, 4, none⟩ = some (.int .i64 ys.2.2.2.2.1) := (rg).cell 4
 have cg_5 : w20.cell? ⟨w7.heap.size, 5, none⟩ = some (.int .i64 ys.2.2.2.2.2) := (rg).cell 5
 have ch_0 : w20.cell? ⟨w17.heap.size, 0, none⟩ = some (.slice hA0 hn0 hc0) := (rh.next belh).cell 0
 have ch_1 : w20.cell? ⟨w17.heap.size, 1, none⟩ = some (.slice hA1 hn1 hc1) := (rh.next belh).cell 1
 have ch_2 : w20.cell? ⟨w17.heap.size, 2, none⟩ = some (.slice hA2 hn2 hc2) := (rh.next belh).cell 2
 have ch_3 : w20.cell? ⟨w17.heap.size, 3, none⟩ = some (.int .i64 ys.2.2.2.1) := (rh.next belh).cell 3
 have ch_4 : w20.cell? ⟨w17.heap.size, 4, none⟩ = some (.int .i64 ys.2.2.2.2.1) := (rh.next belh).cell 4
 have ch_5 : w20.cell? ⟨w17.heap.size, 5, none⟩ = some (.int .i64 ys.2.2.2.2.2) := (rh.next belh).cell 5
 have F := hid (bW.trans (bel.mono bW.size))
 clear bel belw belh rg om bW cA0_0 cA0_1 cw_0 cw_1 cw_2 cw_3 cw_4 cw_5 cg_0 cg_1 cg_2 cg_3 cg_4 cg_5 ch_0 ch_1 ch_2 ch_3 ch_4 ch_5
 go_wp2
 go_ret
 exact ⟨rfl, F.out⟩
end wPeakAt
end
section
namespace openX
open Go.ChangeShapes Go.WideShapes Go.ChangeAt Go.RowKit base segs shape
def Wf : (s : Sh) → Dat s → Prop
 | .num, (x : Int) => -9223372036854775808 ≤ x ∧ x ≤ 9223372036854775807
 | .bit, _ => True
 | .row _ s, (d : List (Dat s)) => ∀ j, j < d.length → Wf s (d.getD j (dft s))
 | .cat a b, d => Wf a d.1 ∧ Wf b d.2
mutual
def fitsB (P : Program) : Nat → Sh → TypeId → Bool
 | 0, _, _ => false
 | n + 1, s, t => match P.underlying t with
  | some (.struct fs) => P.cellsOf t == nc s && fitsL P n fs.toList 0 s
  | some (.int .i64) => match s with | .num => true | _ => false
  | some .bool => match s with | .bit => true | _ => false
  | some (.slice e) => match s with | .row _ s' => P.cellsOf e == nc s' && fitsB P n s' e | _ => false
  | _ => false
def fitsL (P : Program) : Nat → List Field → Nat → Sh → Bool
 | 0, _, _, _ => false
 | _ + 1, [], _, _ => false
 | n + 1, [f], k, s => f.offset == k && (P.cellsOf f.type == nc s && fitsB P n s f.type)
 | n + 1, f :: g :: fs, k, s => match s with | .cat a b => f.offset == k && (P.cellsOf f.type == nc a && (fitsB P n a f.type && fitsL P n (g :: fs) (k + nc a) b)) | _ => false
end
section
variable {H : Type} {enc : TypeId × Value → H} {P : Program} {w : World} {held : Bool}
theorem addr_add {b off i : Nat} : (⟨b, off, none⟩ : Addr).add i = ⟨b, off + i, none⟩ := by unfold Addr.add; split <;> simp_all
theorem rd_trod : ∀ n : Nat, (∀ (s : Sh) (t : TypeId) (fuel : Nat) (cs : List Value) (x : DataW H × List MemPlace), fitsB P n s t = true → DataW.trod enc P w 0 (fun _ => true) held fuel t cs = some x → ∃ d, Rd w w.heap.size s cs d ∧ Wf s d) ∧
  (∀ (fs : List Field) (k : Nat) (s : Sh) (cs : List Value) (m : Nat), fitsL P n fs k s = true → (∀ (i : Nat) (f : Field), fs[i]? = some f → ∃ x, DataW.trod enc P w 0 (fun _ => true) held m f.type ((cs.drop f.offset).take (P.cellsOf f.type)) = some x) →
   ∃ d, Rd w w.heap.size s ((cs.drop k).take (nc s)) d ∧ Wf s d) := by
 intro n
 induction n with
 | zero => exact ⟨fun _ _ _ _ _ h => by simp [fitsB] at h, fun _ _ _ _ _ h => by simp [fitsL] at h⟩
 | succ n ih =>
  refine ⟨fun s t fuel cs x hf h => ?_, fun fs k s cs m hf h => ?_⟩
  ·unfold fitsB at hf
   split at hf
   ·rename_i fs hu
    simp only [Bool.and_eq_true, beq_iff_eq] at hf
    obtain ⟨xs, n', hfu, hx, hlen, hxl, hg⟩ := DataW.trod_struct hu h
    obtain ⟨d, hr, hw⟩ := ih.2 fs.toList 0 s cs n' hf.2 (fun i f hi => by
     have hi' : fs[i]? = some f := by simpa using hi
     have h1 := hg i f hi'
     have hlt : i < fs.size := (Array.getElem?_eq_some_iff.1 hi').1
     exact ⟨xs[i]'(by omega), by rw [h1]; exact List.getElem?_eq_getElem (by omega)⟩)
    rw [List.drop_zero, List.take_of_length_le (by omega)] at hr
    exact ⟨d, hr, hw⟩
   ·rename_i hu
    split at hf
    ·obtain ⟨z, e1, _, hw⟩ := DataW.trod_int hu h
     refine ⟨z, e1, ?_⟩
     show -9223372036854775808 ≤ z ∧ z ≤ 9223372036854775807
     simpa [Lit.wf, IntKind.min, IntKind.max, IntKind.signed, IntKind.bits] using hw
    ·cases hf
   ·rename_i hu
    split at hf
    ·obtain ⟨z, e1, _⟩ := DataW.trod_bool hu h
     exact ⟨z, e1, trivial⟩
    ·cases hf
   ·rename_i e hu
    split at hf
    ·rename_i e0 s'
     simp only [Bool.and_eq_true, beq_iff_eq] at hf
     rcases Go.Deep.open_slice hu h with ⟨hcs, _⟩ | ⟨a, len, cap, m, n', D, Pl, hcs, _, hl, hm, hmm, _, hi⟩
     ·exact ⟨[], ⟨none, 0, 0, hcs, ⟨by omega, by omega, fun _ => rfl⟩, rfl, fun h => absurd h (by omega)⟩, fun j hj => absurd hj (Nat.not_lt_zero _)⟩
     ·have hmc : m = cap := by simpa using hmm
      subst hmc
      have hd : ∀ j, j < len → ∃ (es : List Value) (dj : Dat s'), es.length = nc s' ∧ (∀ i, i < nc s' → w.cell? ((a.add (j * nc s')).add i) = es[i]?) ∧ Rd w w.heap.size s' es dj ∧ Wf s' dj := fun j hj => by
       obtain ⟨cs', hc, ht⟩ := hi j (by omega)
       obtain ⟨dj, hr, hw⟩ := ih.1 s' e n' cs' _ hf.2 ht
       rw [hf.1] at hc
       obtain ⟨_, hcl, hat⟩ := World.cells?_some hc
       exact ⟨cs', dj, hcl, hat, hr, hw⟩
      have hspot : 0 < len → a.spot = none := fun h0 => by
       obtain ⟨es, dj, h1, h2, _⟩ := hd 0 h0
       have hp := nc_pos s'
       have h3 := h2 0 (by omega)
       rw [List.getElem?_eq_getElem (by omega)] at h3
       have := World.cell?_spot h3
       simpa [Addr.add] using this
      obtain ⟨ds, hdl, hds⟩ : ∃ ds : List (Dat s'), ds.length = len ∧ ∀ j, j < len → ∃ es : List Value, es.length = nc s' ∧ (∀ i, i < nc s' → w.cell? ((a.add (j * nc s')).add i) = es[i]?) ∧ Rd w w.heap.size s' es (ds.getD j (dft s')) ∧ Wf s' (ds.getD j (dft s')) := by
       refine ⟨(List.range len).map fun j => if hj : j < len then Classical.choose (Classical.choose_spec (hd j hj)) else dft s', by simp, fun j hj => ?_⟩
       refine ⟨Classical.choose (hd j hj), ?_⟩
       have h1 := Classical.choose_spec (Classical.choose_spec (hd j hj))
       have e1 : ((List.range len).map fun j => if hj : j < len then Classical.choose (Classical.choose_spec (hd j hj)) else dft s').getD j (dft s') = Classical.choose (Classical.choose_spec (hd j hj)) := by simp [List.getD, hj]
       rw [e1]
       exact h1
      refine ⟨ds, ⟨some a, len, m, hcs, ⟨hl, by unfold maxLen at hm; omega, fun e => by cases e⟩, hdl, fun h0 => ?_⟩, fun j hj => by
       obtain ⟨es, _, _, _, hw⟩ := hds j (by rw [← hdl]; exact hj)
       exact hw⟩
      obtain ⟨b, off, spot⟩ := a
      have hs := hspot h0
      simp only at hs
      subst hs
      refine ⟨b, off, rfl, ?_, fun j hj => ?_⟩
      ·obtain ⟨es, h1, h2, _⟩ := hds 0 h0
       have hp := nc_pos s'
       have h3 := h2 0 (by omega)
       rw [List.getElem?_eq_getElem (by omega)] at h3
       have h4 := World.block_lt_of_cell? _ _ h3
       simpa [addr_add] using h4
      ·obtain ⟨es, h1, h2, h3, _⟩ := hds j hj
       refine ⟨es, h1, fun i hi2 => ?_, h3⟩
       have := h2 i (by omega)
       rw [addr_add, addr_add] at this
       exact this
    ·cases hf
   ·cases hf
  ·match fs, hf, h with
   | [], hf, _ => simp [fitsL] at hf
   | [f], hf, h =>
    unfold fitsL at hf
    simp only [Bool.and_eq_true, beq_iff_eq] at hf
    obtain ⟨h1, h2, h3⟩ := hf
    obtain ⟨x, hx⟩ := h 0 f rfl
    rw [h1, h2] at hx
    exact ih.1 s f.type m _ x h3 hx
   | f :: g :: fs, hf, h =>
    cases s with
    | cat a b =>
     unfold fitsL at hf
     simp only [Bool.and_eq_true, beq_iff_eq] at hf
     obtain ⟨h1, h2, h3, h4⟩ := hf
     obtain ⟨x, hx⟩ := h 0 f rfl
     rw [h1, h2] at hx
     obtain ⟨d1, r1, w1⟩ := ih.1 a f.type m _ x h3 hx
     obtain ⟨d2, r2, w2⟩ := ih.2 (g :: fs) (k + nc a) b cs m h4 (fun i f' hi => h (i + 1) f' hi)
     refine ⟨(d1, d2), ⟨_, _, ?_, r1, r2⟩, w1, w2⟩
     show List.take (nc a + nc b) (List.drop k cs) = _
     rw [List.take_add, List.drop_drop]
    | num => simp [fitsL] at hf
    | bit => simp [fitsL] at hf
    | row e s' => simp [fitsL] at hf
theorem open_val {s : Sh} {t : TypeId} {v : Value} {d : DataW H} {p : List MemPlace} {n : Nat} (hf : fitsB P n s t = true) (h : DataW.Trod enc P w 0 (fun _ => true) held t v d p) : ∃ x, Rd w w.heap.size s v.cells.toList x ∧ Wf s x := by
 obtain ⟨fuel, hfu⟩ := h
 exact (rd_trod n).1 s t fuel _ _ hf hfu
end
end openX
end
end Go.Proofs.Ytfmjhfodjhkmlaa
