/-
  MERGED: my texts WJoinOf, one behind the other, as they are. By an AI agent.
-/
import Derived.Test.YtblhmplpcdcejaaMFnExactJoinOf10
import Derived.Deep.RegionHeld3
namespace Go.Proofs.Ytblhmplpcdcejaa
section
open Go.Lib (hid)
namespace wJoinOf
open Go.RowKit base ints sig cursor marks app sym appAt segs segsHelp segsMark kinds shape varsOf kindsR kindsW ruleMath ruleSpec stepMath walkMath stepSpec walkSpec reachMath reachSpec joinX join2
set_option maxRecDepth 100000
set_option maxHeartbeats 8000000 in
theorem law (v0_0 v0_1 : Value) (d0 : Dat sSystem) (a1 : Option Addr) (n1 c1 : Nat) (d1 : List Int) (a2 : Option Addr) (n2 c2 : Nat) (d2 : List Int) (x3 : Int) (w : World) (s0 : Rd w w.heap.size sSystem [v0_0, v0_1] d0) (s1 : Rd w w.heap.size sI [.slice a1 n1 c1] d1) (s2 : Rd w w.heap.size sI [.slice a2 n2 c2] d2) (b3 : (Lit.int .i64 x3).wf = true) :
  Calls Try.prog 7 #[.agg #[v0_0, v0_1], .slice a1 n1 c1, .slice a2 n2 c2, .int .i64 x3] w (Fine w) := by
 have bd3 : -9223372036854775808 ≤ x3 ∧ x3 ≤ 9223372036854775807 := by simpa [Lit.wf, IntKind.min, IntKind.max, IntKind.signed, IntKind.bits] using b3
 obtain ⟨bl3, bh3⟩ := bd3
 clear b3
 have Hl1 := hid s1.seg.1
 have cp1 := (by obtain ⟨A, c, ec, hc⟩ := s1.slice; injection ec with e1 e2 e3; subst e1 e2 e3; exact hc : Cap a1 n1 c1)
 have hN1 : n1 ≤ 9223372036854775807 := Nat.le_trans cp1.1 cp1.2.1
 clear cp1
 have Hl2 := hid s2.seg.1
 have cp2 := (by obtain ⟨A, c, ec, hc⟩ := s2.slice; injection ec with e1 e2 e3; subst e1 e2 e3; exact hc : Cap a2 n2 c2)
 have hN2 : n2 ≤ 9223372036854775807 := Nat.le_trans cp2.1 cp2.2.1
 clear cp2
 obtain ⟨W, hW⟩ : ∃ W, W = w.alloc (.cells #[v0_0, v0_1] 27) := ⟨_, rfl⟩
 have rA0 : Row W (w.heap.size) 27 #[v0_0, v0_1] := by rw [hW]; have := Row.new (w) 27 #[v0_0, v0_1]; simpa using this
 have bW : Below w.heap.size w W := by rw [hW]; exact (Below.refl w.heap.size w).alloc (by simp) (.cells #[v0_0, v0_1] 27)
 have zA0 := rA0.lt
 replace s0 := s0.next bW
 replace s1 := s1.next bW
 replace s2 := s2.next bW
 have HW := hid hW
 clear hW
 obtain ⟨t0, ht0⟩ : ∃ z, sz sSystem d0 = z := ⟨_, rfl⟩
 have HT0 := hid ht0
 clear ht0
 obtain ⟨v, hv⟩ : ∃ v, (joinO d0.1 d0.2 d1 d2 x3).isSome = v := ⟨_, rfl⟩
 have HV := hid hv
 clear hv
 have ev : (v != v) = false := by simp
 by_cases h1 : n1 ≤ 1048576
 case neg =>
  go_enter Try.func7, Try.ntmps7
  go_wp2_with fail
  rw [← HW.out]
  go_ret
  exact ⟨rfl, bW⟩
 have hi1 : Hid (sz sI d1 ≤ 1048576) := hid (by rw [sz_ints, Hl1.out]; exact h1)
 have hn1 := h1
 clear h1
 have h1 := hi1
 clear hi1
 by_cases h2 : n2 ≤ 1048576
 case neg =>
  go_enter Try.func7, Try.ntmps7
  go_wp2_with fail
  rw [← HW.out]
  go_ret
  exact ⟨rfl, bW⟩
 have hi2 : Hid (sz sI d2 ≤ 1048576) := hid (by rw [sz_ints, Hl2.out]; exact h2)
 have hn2 := h2
 clear h2
 have h2 := hi2
 clear hi2
 go_enter Try.func7, Try.ntmps7
 go_wp2_with fail
 rw [← HW.out]
 clear HW
 have bel := Below.refl W.heap.size W
 have cA0_0 : W.cell? ⟨w.heap.size, 0, none⟩ = some (v0_0) := (rA0.next bel).cell 0
 have cA0_1 : W.cell? ⟨w.heap.size, 1, none⟩ = some (v0_1) := (rA0.next bel).cell 1
 refine (szK_System _ _ d0 (1048576) _ (s0.next bel) (by omega) (by omega)).mono ?_
 rintro e w1 ⟨he, bb⟩
 rw [HT0.out] at he
 replace bel := next_trans bel bb
 have zw1 := bb.size
 clear bb
 by_cases q0 : t0 ≤ 1048576
 case neg =>
  rw [if_pos (by omega)] at he
  subst he
  have F := hid (bW.trans (bel.mono bW.size))
  clear bel bW cA0_0 cA0_1
  go_wp2
  go_ret
  exact ⟨rfl, F.out⟩
 rw [if_neg (by omega)] at he
 subst he
 have h0 : Hid (sz sSystem d0 ≤ 1048576) := hid (by rw [HT0.out]; omega)
 clear cA0_0 cA0_1
 have cA0_0 : w1.cell? ⟨w.heap.size, 0, none⟩ = some (v0_0) := (rA0.next bel).cell 0
 have cA0_1 : w1.cell? ⟨w.heap.size, 1, none⟩ = some (v0_1) := (rA0.next bel).cell 1
 have hlen : sz sWalk ((joinO d0.1 d0.2 d1 d2 x3).getD (([], []), ([], []))).1 ≤ 1048576 ∧ sz sWalk ((joinO d0.1 d0.2 d1 d2 x3).getD (([], []), ([], []))).2 ≤ 1048576 := join_sz
 obtain ⟨ys, hys⟩ : ∃ ys, (joinO d0.1 d0.2 d1 d2 x3).getD (([], []), ([], [])) = ys := ⟨_, rfl⟩
 rw [hys] at hlen
 have HY := hid hys
 clear hys
 replace hlen := hid hlen
 obtain ⟨cg1, hcg⟩ : ∃ z, cntv sWalk ys.1 = z := ⟨_, rfl⟩
 have hcG1 : cg1 ≤ 4 * 1048576 := by have j1 := cntv_le sWalk ys.1; have j2 := hlen.out.1; have j3 : wd sWalk = 4 := rfl; rw [hcg, j3] at j1; omega
 have HCG1 := hid hcg
 clear hcg
 obtain ⟨cg2, hcg⟩ : ∃ z, cntv sWalk ys.2 = z := ⟨_, rfl⟩
 have hcG2 : cg2 ≤ 4 * 1048576 := by have j1 := cntv_le sWalk ys.2; have j2 := hlen.out.2; have j3 : wd sWalk = 4 := rfl; rw [hcg, j3] at j1; omega
 have HCG2 := hid hcg
 clear hcg
 obtain ⟨k0, hk0⟩ : ∃ z, cntv sSystem d0 = z := ⟨_, rfl⟩
 have hK0 : k0 ≤ 3 * 1048576 := by have j1 := cntv_le sSystem d0; have j2 := h0.out; have j3 : wd sSystem = 3 := rfl; rw [hk0, j3] at j1; omega
 have HK0 := hid hk0
 clear hk0
 obtain ⟨k1, hk1⟩ : ∃ z, cntv sI d1 = z := ⟨_, rfl⟩
 have hK1 : k1 ≤ 1 * 1048576 := by have j1 := cntv_le sI d1; have j2 := h1.out; have j3 : wd sI = 1 := rfl; rw [hk1, j3] at j1; omega
 have HK1 := hid hk1
 clear hk1
 obtain ⟨k2, hk2⟩ : ∃ z, cntv sI d2 = z := ⟨_, rfl⟩
 have hK2 : k2 ≤ 1 * 1048576 := by have j1 := cntv_le sI d2; have j2 := h2.out; have j3 : wd sI = 1 := rfl; rw [hk2, j3] at j1; omega
 have HK2 := hid hk2
 clear hk2
 go_wp2_with fail
 refine (toK_System _ _ d0 _ (s0.next bel) h0.out).mono ?_
 rintro e w2 ⟨p0A0, p0n0, p0c0, p0A1, p0n1, p0c1, rfl, op0, bb⟩
 replace bel := next_trans bel bb
 have zw2 := bb.size
 clear bb
 clear cA0_0 cA0_1
 have cA0_0 : w2.cell? ⟨w.heap.size, 0, none⟩ = some (v0_0) := (rA0.next bel).cell 0
 have cA0_1 : w2.cell? ⟨w.heap.size, 1, none⟩ = some (v0_1) := (rA0.next bel).cell 1
 go_wp2_with fail
 refine (toK_ints _ d1 _ (s1.next bel) h1.out).mono ?_
 rintro e w3 ⟨p1A0, p1n0, p1c0, rfl, op1, bb⟩
 replace op0 := op0.next bb
 replace bel := next_trans bel bb
 have zw3 := bb.size
 clear bb
 clear cA0_0 cA0_1
 have cA0_0 : w3.cell? ⟨w.heap.size, 0, none⟩ = some (v0_0) := (rA0.next bel).cell 0
 have cA0_1 : w3.cell? ⟨w.heap.size, 1, none⟩ = some (v0_1) := (rA0.next bel).cell 1
 go_wp2_with fail
 refine (toK_ints _ d2 _ (s2.next bel) h2.out).mono ?_
 rintro e w4 ⟨p2A0, p2n0, p2c0, rfl, op2, bb⟩
 replace op0 := op0.next bb
 replace op1 := op1.next bb
 replace bel := next_trans bel bb
 have zw4 := bb.size
 clear bb
 clear cA0_0 cA0_1
 have cA0_0 : w4.cell? ⟨w.heap.size, 0, none⟩ = some (v0_0) := (rA0.next bel).cell 0
 have cA0_1 : w4.cell? ⟨w.heap.size, 1, none⟩ = some (v0_1) := (rA0.next bel).cell 1
 go_wp2_with fail
 refine (specJoin2 _ _ _ _ d0 d1 d2 x3 _ op0.rd op1.rd op2.rd h0.out h1.out h2.out bl3 bh3).mono ?_
 rintro e w5 ⟨wA0, wn0, wc0, wA1, wn1, wc1, wA2, wn2, wc2, wA3, wn3, wc3, he, o0, bb⟩
 rw [HV.out] at he
 rw [HY.out] at o0
 subst he
 replace op0 := op0.next bb
 replace op1 := op1.next bb
 replace op2 := op2.next bb
 replace bel := next_trans bel bb
 have zw5 := bb.size
 clear bb
 have sw := o0.rd
 clear o0
 clear op0 op1 op2
 clear cA0_0 cA0_1
 have cA0_0 : w5.cell? ⟨w.heap.size, 0, none⟩ = some (v0_0) := (rA0.next bel).cell 0
 have cA0_1 : w5.cell? ⟨w.heap.size, 1, none⟩ = some (v0_1) := (rA0.next bel).cell 1
 have dA0_0 : ((w5.alloc (.cells #[.slice wA0 wn0 wc0, .slice wA1 wn1 wc1] 50)).alloc (.cells #[.slice wA2 wn2 wc2, .slice wA3 wn3 wc3] 50)).cell? ⟨w.heap.size, 0, none⟩ = some (v0_0) := (((rA0.next bel).alloc _).alloc _).cell 0
 have dA0_1 : ((w5.alloc (.cells #[.slice wA0 wn0 wc0, .slice wA1 wn1 wc1] 50)).alloc (.cells #[.slice wA2 wn2 wc2, .slice wA3 wn3 wc3] 50)).cell? ⟨w.heap.size, 1, none⟩ = some (v0_1) := (((rA0.next bel).alloc _).alloc _).cell 1
 go_wp2_with fail
 obtain ⟨w6, hw, rwx, rwy, bb⟩ := box2 w5 50 50 #[.slice wA0 wn0 wc0, .slice wA1 wn1 wc1] #[.slice wA2 wn2 wc2, .slice wA3 wn3 wc3]
 rw [← hw]
 have yrw : w5.heap.size + 1 < w6.heap.size := rwy.lt
 clear hw
 replace sw := sw.next bb
 replace bel := next_trans bel bb
 have zw6 := bb.size
 clear bb
 clear dA0_0 dA0_1
 have belw := Below.refl w6.heap.size w6
 clear cA0_0 cA0_1
 have cA0_0 : w6.cell? ⟨w.heap.size, 0, none⟩ = some (v0_0) := (rA0.next bel).cell 0
 have cA0_1 : w6.cell? ⟨w.heap.size, 1, none⟩ = some (v0_1) := (rA0.next bel).cell 1
 have cwx_0 : w6.cell? ⟨w5.heap.size, 0, none⟩ = some (.slice wA0 wn0 wc0) := (rwx.next belw).cell 0
 have cwx_1 : w6.cell? ⟨w5.heap.size, 1, none⟩ = some (.slice wA1 wn1 wc1) := (rwx.next belw).cell 1
 have cwy_0 : w6.cell? ⟨w5.heap.size + 1, 0, none⟩ = some (.slice wA2 wn2 wc2) := (rwy.next belw).cell 0
 have cwy_1 : w6.cell? ⟨w5.heap.size + 1, 1, none⟩ = some (.slice wA3 wn3 wc3) := (rwy.next belw).cell 1
 refine (toK_System _ _ d0 _ (s0.next bel) h0.out).mono ?_
 rintro e w7 ⟨x0A0, x0n0, x0c0, x0A1, x0n1, x0c1, rfl, ox0, bb⟩
 replace bel := next_trans bel bb
 replace belw := next_trans belw bb
 have zw7 := bb.size
 clear bb
 clear cA0_0 cA0_1 cwx_0 cwx_1 cwy_0 cwy_1
 have cA0_0 : w7.cell? ⟨w.heap.size, 0, none⟩ = some (v0_0) := (rA0.next bel).cell 0
 have cA0_1 : w7.cell? ⟨w.heap.size, 1, none⟩ = some (v0_1) := (rA0.next bel).cell 1
 have cwx_0 : w7.cell? ⟨w5.heap.size, 0, none⟩ = some (.slice wA0 wn0 wc0) := (rwx.next belw).cell 0
 have cwx_1 : w7.cell? ⟨w5.heap.size, 1, none⟩ = some (.slice wA1 wn1 wc1) := (rwx.next belw).cell 1
 have cwy_0 : w7.cell? ⟨w5.heap.size + 1, 0, none⟩ = some (.slice wA2 wn2 wc2) := (rwy.next belw).cell 0
 have cwy_1 : w7.cell? ⟨w5.heap.size + 1, 1, none⟩ = some (.slice wA3 wn3 wc3) := (rwy.next belw).cell 1
 have dA0_0 : (w7.alloc (.cells #[.slice x0A0 x0n0 x0c0, .slice x0A1 x0n1 x0c1] 34)).cell? ⟨w.heap.size, 0, none⟩ = some (v0_0) := ((rA0.next bel).alloc _).cell 0
 have dA0_1 : (w7.alloc (.cells #[.slice x0A0 x0n0 x0c0, .slice x0A1 x0n1 x0c1] 34)).cell? ⟨w.heap.size, 1, none⟩ = some (v0_1) := ((rA0.next bel).alloc _).cell 1
 have dwx_0 : (w7.alloc (.cells #[.slice x0A0 x0n0 x0c0, .slice x0A1 x0n1 x0c1] 34)).cell? ⟨w5.heap.size, 0, none⟩ = some (.slice wA0 wn0 wc0) := ((rwx.next belw).alloc _).cell 0
 have dwx_1 : (w7.alloc (.cells #[.slice x0A0 x0n0 x0c0, .slice x0A1 x0n1 x0c1] 34)).cell? ⟨w5.heap.size, 1, none⟩ = some (.slice wA1 wn1 wc1) := ((rwx.next belw).alloc _).cell 1
 have dwy_0 : (w7.alloc (.cells #[.slice x0A0 x0n0 x0c0, .slice x0A1 x0n1 x0c1] 34)).cell? ⟨w5.heap.size + 1, 0, none⟩ = some (.slice wA2 wn2 wc2) := ((rwy.next belw).alloc _).cell 0
 have dwy_1 : (w7.alloc (.cells #[.slice x0A0 x0n0 x0c0, .slice x0A1 x0n1 x0c1] 34)).cell? ⟨w5.heap.size + 1, 1, none⟩ = some (.slice wA3 wn3 wc3) := ((rwy.next belw).alloc _).cell 1
 go_wp2_with fail
 obtain ⟨w8, hw⟩ : ∃ W, W = w7.alloc (.cells #[.slice x0A0 x0n0 x0c0, .slice x0A1 x0n1 x0c1] 34) := ⟨_, rfl⟩
 rw [← hw]
 have rx0 : Row w8 w7.heap.size 34 #[.slice x0A0 x0n0 x0c0, .slice x0A1 x0n1 x0c1] := by rw [hw]; exact Row.new _ _ _
 have bb : Below w7.heap.size w7 w8 := by rw [hw]; exact (Below.refl _ _).alloc (Nat.le_refl _) _
 have yrx0 : w7.heap.size < w8.heap.size := by rw [hw]; simp
 clear hw
 replace ox0 := ox0.next bb
 replace bel := next_trans bel bb
 replace belw := next_trans belw bb
 have zw8 := bb.size
 clear bb
 clear dA0_0 dA0_1 dwx_0 dwx_1 dwy_0 dwy_1
 clear cA0_0 cA0_1 cwx_0 cwx_1 cwy_0 cwy_1
 have cA0_0 : w8.cell? ⟨w.heap.size, 0, none⟩ = some (v0_0) := (rA0.next bel).cell 0
 have cA0_1 : w8.cell? ⟨w.heap.size, 1, none⟩ = some (v0_1) := (rA0.next bel).cell 1
 have cwx_0 : w8.cell? ⟨w5.heap.size, 0, none⟩ = some (.slice wA0 wn0 wc0) := (rwx.next belw).cell 0
 have cwx_1 : w8.cell? ⟨w5.heap.size, 1, none⟩ = some (.slice wA1 wn1 wc1) := (rwx.next belw).cell 1
 have cwy_0 : w8.cell? ⟨w5.heap.size + 1, 0, none⟩ = some (.slice wA2 wn2 wc2) := (rwy.next belw).cell 0
 have cwy_1 : w8.cell? ⟨w5.heap.size + 1, 1, none⟩ = some (.slice wA3 wn3 wc3) := (rwy.next belw).cell 1
 have cx0_0 : w8.cell? ⟨w7.heap.size, 0, none⟩ = some (.slice x0A0 x0n0 x0c0) := (rx0).cell 0
 have cx0_1 : w8.cell? ⟨w7.heap.size, 1, none⟩ = some (.slice x0A1 x0n1 x0c1) := (rx0).cell 1
 refine (toK_ints _ d1 _ (s1.next bel) h1.out).mono ?_
 rintro e w9 ⟨x1A0, x1n0, x1c0, rfl, ox1, bb⟩
 replace ox0 := ox0.next bb
 replace rx0 := rx0.next bb
 replace bel := next_trans bel bb
 replace belw := next_trans belw bb
 have zw9 := bb.size
 clear bb
 clear cA0_0 cA0_1 cwx_0 cwx_1 cwy_0 cwy_1 cx0_0 cx0_1
 have cA0_0 : w9.cell? ⟨w.heap.size, 0, none⟩ = some (v0_0) := (rA0.next bel).cell 0
 have cA0_1 : w9.cell? ⟨w.heap.size, 1, none⟩ = some (v0_1) := (rA0.next bel).cell 1
 have cwx_0 : w9.cell? ⟨w5.heap.size, 0, none⟩ = some (.slice wA0 wn0 wc0) := (rwx.next belw).cell 0
 have cwx_1 : w9.cell? ⟨w5.heap.size, 1, none⟩ = some (.slice wA1 wn1 wc1) := (rwx.next belw).cell 1
 have cwy_0 : w9.cell? ⟨w5.heap.size + 1, 0, none⟩ = some (.slice wA2 wn2 wc2) := (rwy.next belw).cell 0
 have cwy_1 : w9.cell? ⟨w5.heap.size + 1, 1, none⟩ = some (.slice wA3 wn3 wc3) := (rwy.next belw).cell 1
 have cx0_0 : w9.cell? ⟨w7.heap.size, 0, none⟩ = some (.slice x0A0 x0n0 x0c0) := (rx0).cell 0
 have cx0_1 : w9.cell? ⟨w7.heap.size, 1, none⟩ = some (.slice x0A1 x0n1 x0c1) := (rx0).cell 1
 go_wp2_with fail
 refine (toK_ints _ d2 _ (s2.next bel) h2.out).mono ?_
 rintro e w10 ⟨x2A0, x2n0, x2c0, rfl, ox2, bb⟩
 replace ox0 := ox0.next bb
 replace rx0 := rx0.next bb
 replace ox1 := ox1.next bb
 replace bel := next_trans bel bb
 replace belw := next_trans belw bb
 have zw10 := bb.size
 clear bb
 clear cA0_0 cA0_1 cwx_0 cwx_1 cwy_0 cwy_1 cx0_0 cx0_1
 have cA0_0 : w10.cell? ⟨w.heap.size, 0, none⟩ = some (v0_0) := (rA0.next bel).cell 0
 have cA0_1 : w10.cell? ⟨w.heap.size, 1, none⟩ = some (v0_1) := (rA0.next bel).cell 1
 have cwx_0 : w10.cell? ⟨w5.heap.size, 0, none⟩ = some (.slice wA0 wn0 wc0) := (rwx.next belw).cell 0
 have cwx_1 : w10.cell? ⟨w5.heap.size, 1, none⟩ = some (.slice wA1 wn1 wc1) := (rwx.next belw).cell 1
 have cwy_0 : w10.cell? ⟨w5.heap.size + 1, 0, none⟩ = some (.slice wA2 wn2 wc2) := (rwy.next belw).cell 0
 have cwy_1 : w10.cell? ⟨w5.heap.size + 1, 1, none⟩ = some (.slice wA3 wn3 wc3) := (rwy.next belw).cell 1
 have cx0_0 : w10.cell? ⟨w7.heap.size, 0, none⟩ = some (.slice x0A0 x0n0 x0c0) := (rx0).cell 0
 have cx0_1 : w10.cell? ⟨w7.heap.size, 1, none⟩ = some (.slice x0A1 x0n1 x0c1) := (rx0).cell 1
 go_wp2_with fail
 refine (implJoin2 _ _ _ _ d0 d1 d2 x3 _ ox0.rd ox1.rd ox2.rd h0.out h1.out h2.out bl3 bh3).mono ?_
 rintro e w11 ⟨gA0, gn0, gc0, gA1, gn1, gc1, gA2, gn2, gc2, gA3, gn3, gc3, he, o0, bb⟩
 rw [HV.out] at he
 rw [HY.out] at o0
 subst he
 replace ox0 := ox0.next bb
 replace rx0 := rx0.next bb
 replace ox1 := ox1.next bb
 replace ox2 := ox2.next bb
 replace bel := next_trans bel bb
 replace belw := next_trans belw bb
 have zw11 := bb.size
 clear bb
 have og := o0
 clear o0
 clear cA0_0 cA0_1 cwx_0 cwx_1 cwy_0 cwy_1 cx0_0 cx0_1
 have cA0_0 : w11.cell? ⟨w.heap.size, 0, none⟩ = some (v0_0) := (rA0.next bel).cell 0
 have cA0_1 : w11.cell? ⟨w.heap.size, 1, none⟩ = some (v0_1) := (rA0.next bel).cell 1
 have cwx_0 : w11.cell? ⟨w5.heap.size, 0, none⟩ = some (.slice wA0 wn0 wc0) := (rwx.next belw).cell 0
 have cwx_1 : w11.cell? ⟨w5.heap.size, 1, none⟩ = some (.slice wA1 wn1 wc1) := (rwx.next belw).cell 1
 have cwy_0 : w11.cell? ⟨w5.heap.size + 1, 0, none⟩ = some (.slice wA2 wn2 wc2) := (rwy.next belw).cell 0
 have cwy_1 : w11.cell? ⟨w5.heap.size + 1, 1, none⟩ = some (.slice wA3 wn3 wc3) := (rwy.next belw).cell 1
 have cx0_0 : w11.cell? ⟨w7.heap.size, 0, none⟩ = some (.slice x0A0 x0n0 x0c0) := (rx0).cell 0
 have cx0_1 : w11.cell? ⟨w7.heap.size, 1, none⟩ = some (.slice x0A1 x0n1 x0c1) := (rx0).cell 1
 have dA0_0 : ((w11.alloc (.cells #[.slice gA0 gn0 gc0, .slice gA1 gn1 gc1] 50)).alloc (.cells #[.slice gA2 gn2 gc2, .slice gA3 gn3 gc3] 50)).cell? ⟨w.heap.size, 0, none⟩ = some (v0_0) := (((rA0.next bel).alloc _).alloc _).cell 0
 have dA0_1 : ((w11.alloc (.cells #[.slice gA0 gn0 gc0, .slice gA1 gn1 gc1] 50)).alloc (.cells #[.slice gA2 gn2 gc2, .slice gA3 gn3 gc3] 50)).cell? ⟨w.heap.size, 1, none⟩ = some (v0_1) := (((rA0.next bel).alloc _).alloc _).cell 1
 have dwx_0 : ((w11.alloc (.cells #[.slice gA0 gn0 gc0, .slice gA1 gn1 gc1] 50)).alloc (.cells #[.slice gA2 gn2 gc2, .slice gA3 gn3 gc3] 50)).cell? ⟨w5.heap.size, 0, none⟩ = some (.slice wA0 wn0 wc0) := (((rwx.next belw).alloc _).alloc _).cell 0
 have dwx_1 : ((w11.alloc (.cells #[.slice gA0 gn0 gc0, .slice gA1 gn1 gc1] 50)).alloc (.cells #[.slice gA2 gn2 gc2, .slice gA3 gn3 gc3] 50)).cell? ⟨w5.heap.size, 1, none⟩ = some (.slice wA1 wn1 wc1) := (((rwx.next belw).alloc _).alloc _).cell 1
 have dwy_0 : ((w11.alloc (.cells #[.slice gA0 gn0 gc0, .slice gA1 gn1 gc1] 50)).alloc (.cells #[.slice gA2 gn2 gc2, .slice gA3 gn3 gc3] 50)).cell? ⟨w5.heap.size + 1, 0, none⟩ = some (.slice wA2 wn2 wc2) := (((rwy.next belw).alloc _).alloc _).cell 0
 have dwy_1 : ((w11.alloc (.cells #[.slice gA0 gn0 gc0, .slice gA1 gn1 gc1] 50)).alloc (.cells #[.slice gA2 gn2 gc2, .slice gA3 gn3 gc3] 50)).cell? ⟨w5.heap.size + 1, 1, none⟩ = some (.slice wA3 wn3 wc3) := (((rwy.next belw).alloc _).alloc _).cell 1
 have dx0_0 : ((w11.alloc (.cells #[.slice gA0 gn0 gc0, .slice gA1 gn1 gc1] 50)).alloc (.cells #[.slice gA2 gn2 gc2, .slice gA3 gn3 gc3] 50)).cell? ⟨w7.heap.size, 0, none⟩ = some (.slice x0A0 x0n0 x0c0) := (((rx0).alloc _).alloc _).cell 0
 have dx0_1 : ((w11.alloc (.cells #[.slice gA0 gn0 gc0, .slice gA1 gn1 gc1] 50)).alloc (.cells #[.slice gA2 gn2 gc2, .slice gA3 gn3 gc3] 50)).cell? ⟨w7.heap.size, 1, none⟩ = some (.slice x0A1 x0n1 x0c1) := (((rx0).alloc _).alloc _).cell 1
 go_wp2_with fail
 obtain ⟨w12, hw, rgx, rgy, bb⟩ := box2 w11 50 50 #[.slice gA0 gn0 gc0, .slice gA1 gn1 gc1] #[.slice gA2 gn2 gc2, .slice gA3 gn3 gc3]
 rw [← hw]
 have yrg : w11.heap.size + 1 < w12.heap.size := rgy.lt
 clear hw
 replace ox0 := ox0.next bb
 replace rx0 := rx0.next bb
 replace ox1 := ox1.next bb
 replace ox2 := ox2.next bb
 replace og := og.next bb
 replace bel := next_trans bel bb
 replace belw := next_trans belw bb
 have zw12 := bb.size
 clear bb
 clear dA0_0 dA0_1 dwx_0 dwx_1 dwy_0 dwy_1 dx0_0 dx0_1
 clear cA0_0 cA0_1 cwx_0 cwx_1 cwy_0 cwy_1 cx0_0 cx0_1
 have cA0_0 : w12.cell? ⟨w.heap.size, 0, none⟩ = some (v0_0) := (rA0.next bel).cell 0
 have cA0_1 : w12.cell? ⟨w.heap.size, 1, none⟩ = some (v0_1) := (rA0.next bel).cell 1
 have cwx_0 : w12.cell? ⟨w5.heap.size, 0, none⟩ = some (.slice wA0 wn0 wc0) := (rwx.next belw).cell 0
 have cwx_1 : w12.cell? ⟨w5.heap.size, 1, none⟩ = some (.slice wA1 wn1 wc1) := (rwx.next belw).cell 1
 have cwy_0 : w12.cell? ⟨w5.heap.size + 1, 0, none⟩ = some (.slice wA2 wn2 wc2) := (rwy.next belw).cell 0
 have cwy_1 : w12.cell? ⟨w5.heap.size + 1, 1, none⟩ = some (.slice wA3 wn3 wc3) := (rwy.next belw).cell 1
 have cx0_0 : w12.cell? ⟨w7.heap.size, 0, none⟩ = some (.slice x0A0 x0n0 x0c0) := (rx0).cell 0
 have cx0_1 : w12.cell? ⟨w7.heap.size, 1, none⟩ = some (.slice x0A1 x0n1 x0c1) := (rx0).cell 1
 have cgx_0 : w12.cell? ⟨w11.heap.size, 0, none⟩ = some (.slice gA0 gn0 gc0) := (rgx).cell 0
 have cgx_1 : w12.cell? ⟨w11.heap.size, 1, none⟩ = some (.slice gA1 gn1 gc1) := (rgx).cell 1
 have cgy_0 : w12.cell? ⟨w11.heap.size + 1, 0, none⟩ = some (.slice gA2 gn2 gc2) := (rgy).cell 0
 have cgy_1 : w12.cell? ⟨w11.heap.size + 1, 1, none⟩ = some (.slice gA3 gn3 gc3) := (rgy).cell 1
 refine (eqK_Walk _ _ _ _ ys.1 _ (parts2 og.rd).1 (parts2 (sw.next belw)).1 hlen.out.1).mono ?_
 rintro e w13 ⟨rfl, bb⟩
 replace ox0 := ox0.next bb
 replace rx0 := rx0.next bb
 replace ox1 := ox1.next bb
 replace ox2 := ox2.next bb
 replace og := og.next bb
 replace rgx := rgx.next bb
 replace rgy := rgy.next bb
 replace bel := next_trans bel bb
 replace belw := next_trans belw bb
 have zw13 := bb.size
 clear bb
 clear cA0_0 cA0_1 cwx_0 cwx_1 cwy_0 cwy_1 cx0_0 cx0_1 cgx_0 cgx_1 cgy_0 cgy_1
 have cA0_0 : w13.cell? ⟨w.heap.size, 0, none⟩ = some (v0_0) := (rA0.next bel).cell 0
 have cA0_1 : w13.cell? ⟨w.heap.size, 1, none⟩ = some (v0_1) := (rA0.next bel).cell 1
 have cwx_0 : w13.cell? ⟨w5.heap.size, 0, none⟩ = some (.slice wA0 wn0 wc0) := (rwx.next belw).cell 0
 have cwx_1 : w13.cell? ⟨w5.heap.size, 1, none⟩ = some (.slice wA1 wn1 wc1) := (rwx.next belw).cell 1
 have cwy_0 : w13.cell? ⟨w5.heap.size + 1, 0, none⟩ = some (.slice wA2 wn2 wc2) := (rwy.next belw).cell 0
 have cwy_1 : w13.cell? ⟨w5.heap.size + 1, 1, none⟩ = some (.slice wA3 wn3 wc3) := (rwy.next belw).cell 1
 have cx0_0 : w13.cell? ⟨w7.heap.size, 0, none⟩ = some (.slice x0A0 x0n0 x0c0) := (rx0).cell 0
 have cx0_1 : w13.cell? ⟨w7.heap.size, 1, none⟩ = some (.slice x0A1 x0n1 x0c1) := (rx0).cell 1
 have cgx_0 : w13.cell? ⟨w11.heap.size, 0, none⟩ = some (.slice gA0 gn0 gc0) := (rgx).cell 0
 have cgx_1 : w13.cell? ⟨w11.heap.size, 1, none⟩ = some (.slice gA1 gn1 gc1) := (rgx).cell 1
 have cgy_0 : w13.cell? ⟨w11.heap.size + 1, 0, none⟩ = some (.slice gA2 gn2 gc2) := (rgy).cell 0
 have cgy_1 : w13.cell? ⟨w11.heap.size + 1, 1, none⟩ = some (.slice gA3 gn3 gc3) := (rgy).cell 1
 go_wp2_with fail
 refine (eqK_Walk _ _ _ _ ys.2 _ (parts2 og.rd).2 (parts2 (sw.next belw)).2 hlen.out.2).mono ?_
 rintro e w14 ⟨rfl, bb⟩
 replace ox0 := ox0.next bb
 replace rx0 := rx0.next bb
 replace ox1 := ox1.next bb
 replace ox2 := ox2.next bb
 replace og := og.next bb
 replace rgx := rgx.next bb
 replace rgy := rgy.next bb
 replace bel := next_trans bel bb
 replace belw := next_trans belw bb
 have zw14 := bb.size
 clear bb
 clear cA0_0 cA0_1 cwx_0 cwx_1 cwy_0 cwy_1 cx0_0 cx0_1 cgx_0 cgx_1 cgy_0 cgy_1
 have cA0_0 : w14.cell? ⟨w.heap.size, 0, none⟩ = some (v0_0) := (rA0.next bel).cell 0
 have cA0_1 : w14.cell? ⟨w.heap.size, 1, none⟩ = some (v0_1) := (rA0.next bel).cell 1
 have cwx_0 : w14.cell? ⟨w5.heap.size, 0, none⟩ = some (.slice wA0 wn0 wc0) := (rwx.next belw).cell 0
 have cwx_1 : w14.cell? ⟨w5.heap.size, 1, none⟩ = some (.slice wA1 wn1 wc1) := (rwx.next belw).cell 1
 have cwy_0 : w14.cell? ⟨w5.heap.size + 1, 0, none⟩ = some (.slice wA2 wn2 wc2) := (rwy.next belw).cell 0
 have cwy_1 : w14.cell? ⟨w5.heap.size + 1, 1, none⟩ = some (.slice wA3 wn3 wc3) := (rwy.next belw).cell 1
 have cx0_0 : w14.cell? ⟨w7.heap.size, 0, none⟩ = some (.slice x0A0 x0n0 x0c0) := (rx0).cell 0
 have cx0_1 : w14.cell? ⟨w7.heap.size, 1, none⟩ = some (.slice x0A1 x0n1 x0c1) := (rx0).cell 1
 have cgx_0 : w14.cell? ⟨w11.heap.size, 0, none⟩ = some (.slice gA0 gn0 gc0) := (rgx).cell 0
 have cgx_1 : w14.cell? ⟨w11.heap.size, 1, none⟩ = some (.slice gA1 gn1 gc1) := (rgx).cell 1
 have cgy_0 : w14.cell? ⟨w11.heap.size + 1, 0, none⟩ = some (.slice gA2 gn2 gc2) := (rgy).cell 0
 have cgy_1 : w14.cell? ⟨w11.heap.size + 1, 1, none⟩ = some (.slice gA3 gn3 gc3) := (rgy).cell 1
 go_wp2_with fail
 replace ox0 := ox0.drew
 replace rx0 := rx0.drew
 replace ox1 := ox1.drew
 replace ox2 := ox2.drew
 replace og := og.drew
 replace rgx := rgx.drew
 replace rgy := rgy.drew
 replace bel := bel.drew
 replace belw := belw.drew
 have zdw14 := (drew_below w14).size
 go_region_held3 (fun w' => w'.cell? ⟨w7.heap.size, 0, none⟩ = some (.slice x0A0 x0n0 x0c0) ∧ w'.cell? ⟨w7.heap.size, 1, none⟩ = some (.slice x0A1 x0n1 x0c1) ∧ w'.cell? ⟨w.heap.size, 0, none⟩ = some (v0_0) ∧ w'.cell? ⟨w.heap.size, 1, none⟩ = some (v0_1))
  (go_keep)
  (first
   | (go_at_call 11; refine (toK_System _ _ d0 _ (s0.next bel) h0.out).mono ?_; rintro e w15 ⟨t0A0, t0n0, t0c0, t0A1, t0n1, t0c1, rfl, ot, bb⟩; replace ox0 := ox0.next bb; replace rx0 := rx0.next bb; replace ox1 := ox1.next bb; replace ox2 := ox2.next bb; replace og := og.next bb; replace rgx := rgx.next bb; replace rgy := rgy.next bb; replace bel := next_trans bel bb; replace belw := next_trans belw bb; have k0_0w15 : w15.cell? ⟨w.heap.size, 0, none⟩ = some (v0_0) := (rA0.next bel).cell 0; have k0_1w15 : w15.cell? ⟨w.heap.size, 1, none⟩ = some (v0_1) := (rA0.next bel).cell 1; have l0_0w15 : w15.cell? ⟨w7.heap.size, 0, none⟩ = some (.slice x0A0 x0n0 x0c0) := rx0.cell 0; have l0_1w15 : w15.cell? ⟨w7.heap.size, 1, none⟩ = some (.slice x0A1 x0n1 x0c1) := rx0.cell 1; have zqw15 := bb.size; clear bb)
   | (go_at_call 14; refine (eqK_System _ _ _ _ d0 _ ox0.rd ot.rd h0.out).mono ?_; rintro e w16 ⟨rfl, bb⟩; replace ox0 := ox0.next bb; replace rx0 := rx0.next bb; replace ox1 := ox1.next bb; replace ox2 := ox2.next bb; replace og := og.next bb; replace rgx := rgx.next bb; replace rgy := rgy.next bb; replace bel := next_trans bel bb; replace belw := next_trans belw bb; have k0_0w16 : w16.cell? ⟨w.heap.size, 0, none⟩ = some (v0_0) := (rA0.next bel).cell 0; have k0_1w16 : w16.cell? ⟨w.heap.size, 1, none⟩ = some (v0_1) := (rA0.next bel).cell 1; have l0_0w16 : w16.cell? ⟨w7.heap.size, 0, none⟩ = some (.slice x0A0 x0n0 x0c0) := rx0.cell 0; have l0_1w16 : w16.cell? ⟨w7.heap.size, 1, none⟩ = some (.slice x0A1 x0n1 x0c1) := rx0.cell 1; have zqw16 := bb.size; clear bb ot))
 clear k0_0w15 l0_0w15 k0_1w15 l0_1w15 k0_0w16 l0_0w16 k0_1w16 l0_1w16
 clear cA0_0 cA0_1 cwx_0 cwx_1 cwy_0 cwy_1 cx0_0 cx0_1 cgx_0 cgx_1 cgy_0 cgy_1
 have cA0_0 : w16.cell? ⟨w.heap.size, 0, none⟩ = some (v0_0) := (rA0.next bel).cell 0
 have cA0_1 : w16.cell? ⟨w.heap.size, 1, none⟩ = some (v0_1) := (rA0.next bel).cell 1
 have cwx_0 : w16.cell? ⟨w5.heap.size, 0, none⟩ = some (.slice wA0 wn0 wc0) := (rwx.next belw).cell 0
 have cwx_1 : w16.cell? ⟨w5.heap.size, 1, none⟩ = some (.slice wA1 wn1 wc1) := (rwx.next belw).cell 1
 have cwy_0 : w16.cell? ⟨w5.heap.size + 1, 0, none⟩ = some (.slice wA2 wn2 wc2) := (rwy.next belw).cell 0
 have cwy_1 : w16.cell? ⟨w5.heap.size + 1, 1, none⟩ = some (.slice wA3 wn3 wc3) := (rwy.next belw).cell 1
 have cx0_0 : w16.cell? ⟨w7.heap.size, 0, none⟩ = some (.slice x0A0 x0n0 x0c0) := (rx0).cell 0
 have cx0_1 : w16.cell? ⟨w7.heap.size, 1, none⟩ = some (.slice x0A1 x0n1 x0c1) := (rx0).cell 1
 have cgx_0 : w16.cell? ⟨w11.heap.size, 0, none⟩ = some (.slice gA0 gn0 gc0) := (rgx).cell 0
 have cgx_1 : w16.cell? ⟨w11.heap.size, 1, none⟩ = some (.slice gA1 gn1 gc1) := (rgx).cell 1
 have cgy_0 : w16.cell? ⟨w11.heap.size + 1, 0, none⟩ = some (.slice gA2 gn2 gc2) := (rgy).cell 0
 have cgy_1 : w16.cell? ⟨w11.heap.size + 1, 1, none⟩ = some (.slice gA3 gn3 gc3) := (rgy).cell 1
 go_wp2_with fail
 refine (toK_ints _ d1 _ (s1.next bel) h1.out).mono ?_
 rintro e w17 ⟨t1A0, t1n0, t1c0, rfl, ot1, bb⟩
 replace ox0 := ox0.next bb
 replace rx0 := rx0.next bb
 replace ox1 := ox1.next bb
 replace ox2 := ox2.next bb
 replace og := og.next bb
 replace rgx := rgx.next bb
 replace rgy := rgy.next bb
 replace bel := next_trans bel bb
 replace belw := next_trans belw bb
 have zw17 := bb.size
 clear bb
 clear cA0_0 cA0_1 cwx_0 cwx_1 cwy_0 cwy_1 cx0_0 cx0_1 cgx_0 cgx_1 cgy_0 cgy_1
 have cA0_0 : w17.cell? ⟨w.heap.size, 0, none⟩ = some (v0_0) := (rA0.next bel).cell 0
 have cA0_1 : w17.cell? ⟨w.heap.size, 1, none⟩ = some (v0_1) := (rA0.next bel).cell 1
 have cwx_0 : w17.cell? ⟨w5.heap.size, 0, none⟩ = some (.slice wA0 wn0 wc0) := (rwx.next belw).cell 0
 have cwx_1 : w17.cell? ⟨w5.heap.size, 1, none⟩ = some (.slice wA1 wn1 wc1) := (rwx.next belw).cell 1
 have cwy_0 : w17.cell? ⟨w5.heap.size + 1, 0, none⟩ = some (.slice wA2 wn2 wc2) := (rwy.next belw).cell 0
 have cwy_1 : w17.cell? ⟨w5.heap.size + 1, 1, none⟩ = some (.slice wA3 wn3 wc3) := (rwy.next belw).cell 1
 have cx0_0 : w17.cell? ⟨w7.heap.size, 0, none⟩ = some (.slice x0A0 x0n0 x0c0) := (rx0).cell 0
 have cx0_1 : w17.cell? ⟨w7.heap.size, 1, none⟩ = some (.slice x0A1 x0n1 x0c1) := (rx0).cell 1
 have cgx_0 : w17.cell? ⟨w11.heap.size, 0, none⟩ = some (.slice gA0 gn0 gc0) := (rgx).cell 0
 have cgx_1 : w17.cell? ⟨w11.heap.size, 1, none⟩ = some (.slice gA1 gn1 gc1) := (rgx).cell 1
 have cgy_0 : w17.cell? ⟨w11.heap.size + 1, 0, none⟩ = some (.slice gA2 gn2 gc2) := (rgy).cell 0
 have cgy_1 : w17.cell? ⟨w11.heap.size + 1, 1, none⟩ = some (.slice gA3 gn3 gc3) := (rgy).cell 1
 go_wp2_with fail
 refine (eqK_ints _ _ d1 _ ox1.rd ot1.rd h1.out).mono ?_
 rintro e w18 ⟨rfl, bb⟩
 replace ox0 := ox0.next bb
 replace rx0 := rx0.next bb
 replace ox1 := ox1.next bb
 replace ox2 := ox2.next bb
 replace og := og.next bb
 replace rgx := rgx.next bb
 replace rgy := rgy.next bb
 replace ot1 := ot1.next bb
 replace bel := next_trans bel bb
 replace belw := next_trans belw bb
 have zw18 := bb.size
 clear bb
 clear ot1
 clear cA0_0 cA0_1 cwx_0 cwx_1 cwy_0 cwy_1 cx0_0 cx0_1 cgx_0 cgx_1 cgy_0 cgy_1
 have cA0_0 : w18.cell? ⟨w.heap.size, 0, none⟩ = some (v0_0) := (rA0.next bel).cell 0
 have cA0_1 : w18.cell? ⟨w.heap.size, 1, none⟩ = some (v0_1) := (rA0.next bel).cell 1
 have cwx_0 : w18.cell? ⟨w5.heap.size, 0, none⟩ = some (.slice wA0 wn0 wc0) := (rwx.next belw).cell 0
 have cwx_1 : w18.cell? ⟨w5.heap.size, 1, none⟩ = some (.slice wA1 wn1 wc1) := (rwx.next belw).cell 1
 have cwy_0 : w18.cell? ⟨w5.heap.size + 1, 0, none⟩ = some (.slice wA2 wn2 wc2) := (rwy.next belw).cell 0
 have cwy_1 : w18.cell? ⟨w5.heap.size + 1, 1, none⟩ = some (.slice wA3 wn3 wc3) := (rwy.next belw).cell 1
 have cx0_0 : w18.cell? ⟨w7.heap.size, 0, none⟩ = some (.slice x0A0 x0n0 x0c0) := (rx0).cell 0
 have cx0_1 : w18.cell? ⟨w7.heap.size, 1, none⟩ = some (.slice x0A1 x0n1 x0c1) := (rx0).cell 1
 have cgx_0 : w18.cell? ⟨w11.heap.size, 0, none⟩ = some (.slice gA0 gn0 gc0) := (rgx).cell 0
 have cgx_1 : w18.cell? ⟨w11.heap.size, 1, none⟩ = some (.slice gA1 gn1 gc1) := (rgx).cell 1
 have cgy_0 : w18.cell? ⟨w11.heap.size + 1, 0, none⟩ = some (.slice gA2 gn2 gc2) := (rgy).cell 0
 have cgy_1 : w18.cell? ⟨w11.heap.size + 1, 1, none⟩ = some (.slice gA3 gn3 gc3) := (rgy).cell 1
 go_wp2_with fail
 refine (toK_ints _ d2 _ (s2.next bel) h2.out).mono ?_
 rintro e w19 ⟨t2A0, t2n0, t2c0, rfl, ot2, bb⟩
 replace ox0 := ox0.next bb
 replace rx0 := rx0.next bb
 replace ox1 := ox1.next bb
 replace ox2 := ox2.next bb
 replace og := og.next bb
 replace rgx := rgx.next bb
 replace rgy := rgy.next bb
 replace bel := next_trans bel bb
 replace belw := next_trans belw bb
 have zw19 := bb.size
 clear bb
 clear cA0_0 cA0_1 cwx_0 cwx_1 cwy_0 cwy_1 cx0_0 cx0_1 cgx_0 cgx_1 cgy_0 cgy_1
 have cA0_0 : w19.cell? ⟨w.heap.size, 0, none⟩ = some (v0_0) := (rA0.next bel).cell 0
 have cA0_1 : w19.cell? ⟨w.heap.size, 1, none⟩ = some (v0_1) := (rA0.next bel).cell 1
 have cwx_0 : w19.cell? ⟨w5.heap.size, 0, none⟩ = some (.slice wA0 wn0 wc0) := (rwx.next belw).cell 0
 have cwx_1 : w19.cell? ⟨w5.heap.size, 1, none⟩ = some (.slice wA1 wn1 wc1) := (rwx.next belw).cell 1
 have cwy_0 : w19.cell? ⟨w5.heap.size + 1, 0, none⟩ = some (.slice wA2 wn2 wc2) := (rwy.next belw).cell 0
 have cwy_1 : w19.cell? ⟨w5.heap.size + 1, 1, none⟩ = some (.slice wA3 wn3 wc3) := (rwy.next belw).cell 1
 have cx0_0 : w19.cell? ⟨w7.heap.size, 0, none⟩ = some (.slice x0A0 x0n0 x0c0) := (rx0).cell 0
 have cx0_1 : w19.cell? ⟨w7.heap.size, 1, none⟩ = some (.slice x0A1 x0n1 x0c1) := (rx0).cell 1
 have cgx_0 : w19.cell? ⟨w11.heap.size, 0, none⟩ = some (.slice gA0 gn0 gc0) := (rgx).cell 0
 have cgx_1 : w19.cell? ⟨w11.heap.size, 1, none⟩ = some (.slice gA1 gn1 gc1) := (rgx).cell 1
 have cgy_0 : w19.cell? ⟨w11.heap.size + 1, 0, none⟩ = some (.slice gA2 gn2 gc2) := (rgy).cell 0
 have cgy_1 : w19.cell? ⟨w11.heap.size + 1, 1, none⟩ = some (.slice gA3 gn3 gc3) := (rgy).cell 1
 go_wp2_with fail
 refine (eqK_ints _ _ d2 _ ox2.rd ot2.rd h2.out).mono ?_
 rintro e w20 ⟨rfl, bb⟩
 replace ox0 := ox0.next bb
 replace rx0 := rx0.next bb
 replace ox1 := ox1.next bb
 replace ox2 := ox2.next bb
 replace og := og.next bb
 replace rgx := rgx.next bb
 replace rgy := rgy.next bb
 replace ot2 := ot2.next bb
 replace bel := next_trans bel bb
 replace belw := next_trans belw bb
 have zw20 := bb.size
 clear bb
 clear ot2
 clear cA0_0 cA0_1 cwx_0 cwx_1 cwy_0 cwy_1 cx0_0 cx0_1 cgx_0 cgx_1 cgy_0 cgy_1
 have cA0_0 : w20.cell? ⟨w.heap.size, 0, none⟩ = some (v0_0) := (rA0.next bel).cell 0
 have cA0_1 : w20.cell? ⟨w.heap.size, 1, none⟩ = some (v0_1) := (rA0.next bel).cell 1
 have cwx_0 : w20.cell? ⟨w5.heap.size, 0, none⟩ = some (.slice wA0 wn0 wc0) := (rwx.next belw).cell 0
 have cwx_1 : w20.cell? ⟨w5.heap.size, 1, none⟩ = some (.slice wA1 wn1 wc1) := (rwx.next belw).cell 1
 have cwy_0 : w20.cell? ⟨w5.heap.size + 1, 0, none⟩ = some (.slice wA2 wn2 wc2) := (rwy.next belw).cell 0
 have cwy_1 : w20.cell? ⟨w5.heap.size + 1, 1, none⟩ = some (.slice wA3 wn3 wc3) := (rwy.next belw).cell 1
 have cx0_0 : w20.cell? ⟨w7.heap.size, 0, none⟩ = some (.slice x0A0 x0n0 x0c0) := (rx0).cell 0
 have cx0_1 : w20.cell? ⟨w7.heap.size, 1, none⟩ = some (.slice x0A1 x0n1 x0c1) := (rx0).cell 1
 have cgx_0 : w20.cell? ⟨w11.heap.size, 0, none⟩ = some (.slice gA0 gn0 gc0) := (rgx).cell 0
 have cgx_1 : w20.cell? ⟨w11.heap.size, 1, none⟩ = some (.slice gA1 gn1 gc1) := (rgx).cell 1
 have cgy_0 : w20.cell? ⟨w11.heap.size + 1, 0, none⟩ = some (.slice gA2 gn2 gc2) := (rgy).cell 0
 have cgy_1 : w20.cell? ⟨w11.heap.size + 1, 1, none⟩ = some (.slice gA3 gn3 gc3) := (rgy).cell 1
 obtain ⟨Fox0, fox0, nox0, box0⟩ := ox0
 go_wp2_with fail
 refine (markK_System _ _ d0 (1) Fox0 _ fox0 nox0 h0.out (by omega) (by rw [HK0.out]; omega)).mono ?_
 rintro e w21 ⟨he, omox0, onox0⟩
 rw [HK0.out] at he
 have bt := onox0.btw box0
 clear onox0
 clear omox0 fox0 nox0 box0
 subst he
 replace rx0 := Row.btw rx0 bt (by omega)
 replace ox1 := ox1.btw bt (by omega)
 replace ox2 := ox2.btw bt (by omega)
 replace og := og.btw bt (by omega)
 replace rgx := Row.btw rgx bt (by omega)
 replace rgy := Row.btw rgy bt (by omega)
 replace bel := Below.btw bel bt (by omega) bel.size
 replace belw := Below.btw belw bt (by omega) belw.size
 have zw21 := bt.size
 clear bt
 clear cA0_0 cA0_1 cwx_0 cwx_1 cwy_0 cwy_1 cx0_0 cx0_1 cgx_0 cgx_1 cgy_0 cgy_1
 have cA0_0 : w21.cell? ⟨w.heap.size, 0, none⟩ = some (v0_0) := (rA0.next bel).cell 0
 have cA0_1 : w21.cell? ⟨w.heap.size, 1, none⟩ = some (v0_1) := (rA0.next bel).cell 1
 have cwx_0 : w21.cell? ⟨w5.heap.size, 0, none⟩ = some (.slice wA0 wn0 wc0) := (rwx.next belw).cell 0
 have cwx_1 : w21.cell? ⟨w5.heap.size, 1, none⟩ = some (.slice wA1 wn1 wc1) := (rwx.next belw).cell 1
 have cwy_0 : w21.cell? ⟨w5.heap.size + 1, 0, none⟩ = some (.slice wA2 wn2 wc2) := (rwy.next belw).cell 0
 have cwy_1 : w21.cell? ⟨w5.heap.size + 1, 1, none⟩ = some (.slice wA3 wn3 wc3) := (rwy.next belw).cell 1
 have cx0_0 : w21.cell? ⟨w7.heap.size, 0, none⟩ = some (.slice x0A0 x0n0 x0c0) := (rx0).cell 0
 have cx0_1 : w21.cell? ⟨w7.heap.size, 1, none⟩ = some (.slice x0A1 x0n1 x0c1) := (rx0).cell 1
 have cgx_0 : w21.cell? ⟨w11.heap.size, 0, none⟩ = some (.slice gA0 gn0 gc0) := (rgx).cell 0
 have cgx_1 : w21.cell? ⟨w11.heap.size, 1, none⟩ = some (.slice gA1 gn1 gc1) := (rgx).cell 1
 have cgy_0 : w21.cell? ⟨w11.heap.size + 1, 0, none⟩ = some (.slice gA2 gn2 gc2) := (rgy).cell 0
 have cgy_1 : w21.cell? ⟨w11.heap.size + 1, 1, none⟩ = some (.slice gA3 gn3 gc3) := (rgy).cell 1
 obtain ⟨Fox1, fox1, nox1, box1⟩ := ox1
 go_wp2_with fail
 refine (markK_ints _ d1 (1 + (k0 : Int)) Fox1 _ fox1 h1.out (by omega) (by omega)).mono ?_
 rintro e w22 ⟨he, omox1, onox1⟩
 rw [HK1.out] at he
 have bt := onox1.btw box1
 clear onox1
 clear omox1 fox1 nox1 box1
 subst he
 replace rx0 := Row.btw rx0 bt (by omega)
 replace ox2 := ox2.btw bt (by omega)
 replace og := og.btw bt (by omega)
 replace rgx := Row.btw rgx bt (by omega)
 replace rgy := Row.btw rgy bt (by omega)
 replace bel := Below.btw bel bt (by omega) bel.size
 replace belw := Below.btw belw bt (by omega) belw.size
 have zw22 := bt.size
 clear bt
 clear cA0_0 cA0_1 cwx_0 cwx_1 cwy_0 cwy_1 cx0_0 cx0_1 cgx_0 cgx_1 cgy_0 cgy_1
 have cA0_0 : w22.cell? ⟨w.heap.size, 0, none⟩ = some (v0_0) := (rA0.next bel).cell 0
 have cA0_1 : w22.cell? ⟨w.heap.size, 1, none⟩ = some (v0_1) := (rA0.next bel).cell 1
 have cwx_0 : w22.cell? ⟨w5.heap.size, 0, none⟩ = some (.slice wA0 wn0 wc0) := (rwx.next belw).cell 0
 have cwx_1 : w22.cell? ⟨w5.heap.size, 1, none⟩ = some (.slice wA1 wn1 wc1) := (rwx.next belw).cell 1
 have cwy_0 : w22.cell? ⟨w5.heap.size + 1, 0, none⟩ = some (.slice wA2 wn2 wc2) := (rwy.next belw).cell 0
 have cwy_1 : w22.cell? ⟨w5.heap.size + 1, 1, none⟩ = some (.slice wA3 wn3 wc3) := (rwy.next belw).cell 1
 have cx0_0 : w22.cell? ⟨w7.heap.size, 0, none⟩ = some (.slice x0A0 x0n0 x0c0) := (rx0).cell 0
 have cx0_1 : w22.cell? ⟨w7.heap.size, 1, none⟩ = some (.slice x0A1 x0n1 x0c1) := (rx0).cell 1
 have cgx_0 : w22.cell? ⟨w11.heap.size, 0, none⟩ = some (.slice gA0 gn0 gc0) := (rgx).cell 0
 have cgx_1 : w22.cell? ⟨w11.heap.size, 1, none⟩ = some (.slice gA1 gn1 gc1) := (rgx).cell 1
 have cgy_0 : w22.cell? ⟨w11.heap.size + 1, 0, none⟩ = some (.slice gA2 gn2 gc2) := (rgy).cell 0
 have cgy_1 : w22.cell? ⟨w11.heap.size + 1, 1, none⟩ = some (.slice gA3 gn3 gc3) := (rgy).cell 1
 obtain ⟨Fox2, fox2, nox2, box2⟩ := ox2
 go_wp2_with fail
 refine (markK_ints _ d2 (1 + (k0 : Int) + (k1 : Int)) Fox2 _ fox2 h2.out (by omega) (by omega)).mono ?_
 rintro e w23 ⟨he, omox2, onox2⟩
 rw [HK2.out] at he
 have bt := onox2.btw box2
 clear onox2
 clear omox2 fox2 nox2 box2
 subst he
 replace rx0 := Row.btw rx0 bt (by omega)
 replace og := og.btw bt (by omega)
 replace rgx := Row.btw rgx bt (by omega)
 replace rgy := Row.btw rgy bt (by omega)
 replace bel := Below.btw bel bt (by omega) bel.size
 replace belw := Below.btw belw bt (by omega) belw.size
 have zw23 := bt.size
 clear bt
 clear cA0_0 cA0_1 cwx_0 cwx_1 cwy_0 cwy_1 cx0_0 cx0_1 cgx_0 cgx_1 cgy_0 cgy_1
 have cA0_0 : w23.cell? ⟨w.heap.size, 0, none⟩ = some (v0_0) := (rA0.next bel).cell 0
 have cA0_1 : w23.cell? ⟨w.heap.size, 1, none⟩ = some (v0_1) := (rA0.next bel).cell 1
 have cwx_0 : w23.cell? ⟨w5.heap.size, 0, none⟩ = some (.slice wA0 wn0 wc0) := (rwx.next belw).cell 0
 have cwx_1 : w23.cell? ⟨w5.heap.size, 1, none⟩ = some (.slice wA1 wn1 wc1) := (rwx.next belw).cell 1
 have cwy_0 : w23.cell? ⟨w5.heap.size + 1, 0, none⟩ = some (.slice wA2 wn2 wc2) := (rwy.next belw).cell 0
 have cwy_1 : w23.cell? ⟨w5.heap.size + 1, 1, none⟩ = some (.slice wA3 wn3 wc3) := (rwy.next belw).cell 1
 have cx0_0 : w23.cell? ⟨w7.heap.size, 0, none⟩ = some (.slice x0A0 x0n0 x0c0) := (rx0).cell 0
 have cx0_1 : w23.cell? ⟨w7.heap.size, 1, none⟩ = some (.slice x0A1 x0n1 x0c1) := (rx0).cell 1
 have cgx_0 : w23.cell? ⟨w11.heap.size, 0, none⟩ = some (.slice gA0 gn0 gc0) := (rgx).cell 0
 have cgx_1 : w23.cell? ⟨w11.heap.size, 1, none⟩ = some (.slice gA1 gn1 gc1) := (rgx).cell 1
 have cgy_0 : w23.cell? ⟨w11.heap.size + 1, 0, none⟩ = some (.slice gA2 gn2 gc2) := (rgy).cell 0
 have cgy_1 : w23.cell? ⟨w11.heap.size + 1, 1, none⟩ = some (.slice gA3 gn3 gc3) := (rgy).cell 1
 clear rx0
 clear cA0_0 cA0_1 cwx_0 cwx_1 cwy_0 cwy_1 cx0_0 cx0_1 cgx_0 cgx_1 cgy_0 cgy_1
 have cA0_0 : w23.cell? ⟨w.heap.size, 0, none⟩ = some (v0_0) := (rA0.next bel).cell 0
 have cA0_1 : w23.cell? ⟨w.heap.size, 1, none⟩ = some (v0_1) := (rA0.next bel).cell 1
 have cwx_0 : w23.cell? ⟨w5.heap.size, 0, none⟩ = some (.slice wA0 wn0 wc0) := (rwx.next belw).cell 0
 have cwx_1 : w23.cell? ⟨w5.heap.size, 1, none⟩ = some (.slice wA1 wn1 wc1) := (rwx.next belw).cell 1
 have cwy_0 : w23.cell? ⟨w5.heap.size + 1, 0, none⟩ = some (.slice wA2 wn2 wc2) := (rwy.next belw).cell 0
 have cwy_1 : w23.cell? ⟨w5.heap.size + 1, 1, none⟩ = some (.slice wA3 wn3 wc3) := (rwy.next belw).cell 1
 have cgx_0 : w23.cell? ⟨w11.heap.size, 0, none⟩ = some (.slice gA0 gn0 gc0) := (rgx).cell 0
 have cgx_1 : w23.cell? ⟨w11.heap.size, 1, none⟩ = some (.slice gA1 gn1 gc1) := (rgx).cell 1
 have cgy_0 : w23.cell? ⟨w11.heap.size + 1, 0, none⟩ = some (.slice gA2 gn2 gc2) := (rgy).cell 0
 have cgy_1 : w23.cell? ⟨w11.heap.size + 1, 1, none⟩ = some (.slice gA3 gn3 gc3) := (rgy).cell 1
 go_wp2_with fail
 refine (eqK_Walk _ _ _ _ ys.1 _ (parts2 og.rd).1 (parts2 (sw.next belw)).1 hlen.out.1).mono ?_
 rintro e w24 ⟨rfl, bb⟩
 replace og := og.next bb
 replace rgx := rgx.next bb
 replace rgy := rgy.next bb
 replace bel := next_trans bel bb
 replace belw := next_trans belw bb
 have zw24 := bb.size
 clear bb
 clear cA0_0 cA0_1 cwx_0 cwx_1 cwy_0 cwy_1 cgx_0 cgx_1 cgy_0 cgy_1
 have cA0_0 : w24.cell? ⟨w.heap.size, 0, none⟩ = some (v0_0) := (rA0.next bel).cell 0
 have cA0_1 : w24.cell? ⟨w.heap.size, 1, none⟩ = some (v0_1) := (rA0.next bel).cell 1
 have cwx_0 : w24.cell? ⟨w5.heap.size, 0, none⟩ = some (.slice wA0 wn0 wc0) := (rwx.next belw).cell 0
 have cwx_1 : w24.cell? ⟨w5.heap.size, 1, none⟩ = some (.slice wA1 wn1 wc1) := (rwx.next belw).cell 1
 have cwy_0 : w24.cell? ⟨w5.heap.size + 1, 0, none⟩ = some (.slice wA2 wn2 wc2) := (rwy.next belw).cell 0
 have cwy_1 : w24.cell? ⟨w5.heap.size + 1, 1, none⟩ = some (.slice wA3 wn3 wc3) := (rwy.next belw).cell 1
 have cgx_0 : w24.cell? ⟨w11.heap.size, 0, none⟩ = some (.slice gA0 gn0 gc0) := (rgx).cell 0
 have cgx_1 : w24.cell? ⟨w11.heap.size, 1, none⟩ = some (.slice gA1 gn1 gc1) := (rgx).cell 1
 have cgy_0 : w24.cell? ⟨w11.heap.size + 1, 0, none⟩ = some (.slice gA2 gn2 gc2) := (rgy).cell 0
 have cgy_1 : w24.cell? ⟨w11.heap.size + 1, 1, none⟩ = some (.slice gA3 gn3 gc3) := (rgy).cell 1
 go_wp2_with fail
 refine (eqK_Walk _ _ _ _ ys.2 _ (parts2 og.rd).2 (parts2 (sw.next belw)).2 hlen.out.2).mono ?_
 rintro e w25 ⟨rfl, bb⟩
 replace og := og.next bb
 replace rgx := rgx.next bb
 replace rgy := rgy.next bb
 replace bel := next_trans bel bb
 replace belw := next_trans belw bb
 have zw25 := bb.size
 clear bb
 clear cA0_0 cA0_1 cwx_0 cwx_1 cwy_0 cwy_1 cgx_0 cgx_1 cgy_0 cgy_1
 have cA0_0 : w25.cell? ⟨w.heap.size, 0, none⟩ = some (v0_0) := (rA0.next bel).cell 0
 have cA0_1 : w25.cell? ⟨w.heap.size, 1, none⟩ = some (v0_1) := (rA0.next bel).cell 1
 have cwx_0 : w25.cell? ⟨w5.heap.size, 0, none⟩ = some (.slice wA0 wn0 wc0) := (rwx.next belw).cell 0
 have cwx_1 : w25.cell? ⟨w5.heap.size, 1, none⟩ = some (.slice wA1 wn1 wc1) := (rwx.next belw).cell 1
 have cwy_0 : w25.cell? ⟨w5.heap.size + 1, 0, none⟩ = some (.slice wA2 wn2 wc2) := (rwy.next belw).cell 0
 have cwy_1 : w25.cell? ⟨w5.heap.size + 1, 1, none⟩ = some (.slice wA3 wn3 wc3) := (rwy.next belw).cell 1
 have cgx_0 : w25.cell? ⟨w11.heap.size, 0, none⟩ = some (.slice gA0 gn0 gc0) := (rgx).cell 0
 have cgx_1 : w25.cell? ⟨w11.heap.size, 1, none⟩ = some (.slice gA1 gn1 gc1) := (rgx).cell 1
 have cgy_0 : w25.cell? ⟨w11.heap.size + 1, 0, none⟩ = some (.slice gA2 gn2 gc2) := (rgy).cell 0
 have cgy_1 : w25.cell? ⟨w11.heap.size + 1, 1, none⟩ = some (.slice gA3 gn3 gc3) := (rgy).cell 1
 obtain ⟨Fog, fog, nog, bog⟩ := og
 obtain ⟨F1, F2, hFF, f1, f2⟩ := Ow.split (ca := [.slice gA0 gn0 gc0, .slice gA1 gn1 gc1]) (cb := [.slice gA2 gn2 gc2, .slice gA3 gn3 gc3]) fog rfl
 rw [hFF] at nog bog
 clear fog hFF
 obtain ⟨nd1, nd2, dj⟩ := List.nodup_append.1 nog
 have b1 : ∀ q ∈ F1, w10.heap.size ≤ q ∧ q < w11.heap.size := fun q hq => bog q (List.mem_append_left _ hq)
 have b2 : ∀ q ∈ F2, w10.heap.size ≤ q ∧ q < w11.heap.size := fun q hq => bog q (List.mem_append_right _ hq)
 go_wp2_with fail
 refine (markK_Walk _ _ ys.1 1 F1 _ f1 nd1 hlen.out.1 (by omega) (by rw [HCG1.out]; omega)).mono ?_
 rintro e w26 ⟨he, m1, on1⟩
 rw [HCG1.out] at he
 have f2 : Ow w26 sWalk [.slice gA2 gn2 gc2, .slice gA3 gn3 gc3] ys.2 F2 := Ow.only f2 on1 (fun q h2 h1 => dj q h1 q h2 rfl)
 have bt := on1.btw b1
 clear on1 f1
 subst he
 replace rgx := Row.btw rgx bt (by omega)
 replace rgy := Row.btw rgy bt (by omega)
 replace bel := Below.btw bel bt (by omega) bel.size
 replace belw := Below.btw belw bt (by omega) belw.size
 have zw26 := bt.size
 clear bt
 clear cA0_0 cA0_1 cwx_0 cwx_1 cwy_0 cwy_1 cgx_0 cgx_1 cgy_0 cgy_1
 have cA0_0 : w26.cell? ⟨w.heap.size, 0, none⟩ = some (v0_0) := (rA0.next bel).cell 0
 have cA0_1 : w26.cell? ⟨w.heap.size, 1, none⟩ = some (v0_1) := (rA0.next bel).cell 1
 have cwx_0 : w26.cell? ⟨w5.heap.size, 0, none⟩ = some (.slice wA0 wn0 wc0) := (rwx.next belw).cell 0
 have cwx_1 : w26.cell? ⟨w5.heap.size, 1, none⟩ = some (.slice wA1 wn1 wc1) := (rwx.next belw).cell 1
 have cwy_0 : w26.cell? ⟨w5.heap.size + 1, 0, none⟩ = some (.slice wA2 wn2 wc2) := (rwy.next belw).cell 0
 have cwy_1 : w26.cell? ⟨w5.heap.size + 1, 1, none⟩ = some (.slice wA3 wn3 wc3) := (rwy.next belw).cell 1
 have cgx_0 : w26.cell? ⟨w11.heap.size, 0, none⟩ = some (.slice gA0 gn0 gc0) := (rgx).cell 0
 have cgx_1 : w26.cell? ⟨w11.heap.size, 1, none⟩ = some (.slice gA1 gn1 gc1) := (rgx).cell 1
 have cgy_0 : w26.cell? ⟨w11.heap.size + 1, 0, none⟩ = some (.slice gA2 gn2 gc2) := (rgy).cell 0
 have cgy_1 : w26.cell? ⟨w11.heap.size + 1, 1, none⟩ = some (.slice gA3 gn3 gc3) := (rgy).cell 1
 go_wp2_with fail
 refine (markK_Walk _ _ ys.2 (1 + (cg1 : Int)) F2 _ f2 nd2 hlen.out.2 (by omega) (by rw [HCG2.out]; omega)).mono ?_
 rintro e w27 ⟨he, m2, on2⟩
 rw [HCG2.out] at he
 have m1 : Ow w27 sWalk [.slice gA0 gn0 gc0, .slice gA1 gn1 gc1] (mkv sWalk 1 ys.1) F1 := Ow.only m1 on2 (fun q h1 h2 => dj q h1 q h2 rfl)
 have bt := on2.btw b2
 clear on2 f2
 subst he
 have om : Owned w27 (w10.heap.size) (w11.heap.size) sJoin2 [.slice gA0 gn0 gc0, .slice gA1 gn1 gc1, .slice gA2 gn2 gc2, .slice gA3 gn3 gc3] (mkv sWalk 1 ys.1, mkv sWalk (1 + (cg1 : Int)) ys.2) := ⟨F1 ++ F2, Ow.join m1 m2, nog, bog⟩
 clear m1 m2 nog bog nd1 nd2 dj b1 b2
 replace rgx := Row.btw rgx bt (by omega)
 replace rgy := Row.btw rgy bt (by omega)
 replace bel := Below.btw bel bt (by omega) bel.size
 replace belw := Below.btw belw bt (by omega) belw.size
 have zw27 := bt.size
 clear bt
 clear cA0_0 cA0_1 cwx_0 cwx_1 cwy_0 cwy_1 cgx_0 cgx_1 cgy_0 cgy_1
 have cA0_0 : w27.cell? ⟨w.heap.size, 0, none⟩ = some (v0_0) := (rA0.next bel).cell 0
 have cA0_1 : w27.cell? ⟨w.heap.size, 1, none⟩ = some (v0_1) := (rA0.next bel).cell 1
 have cwx_0 : w27.cell? ⟨w5.heap.size, 0, none⟩ = some (.slice wA0 wn0 wc0) := (rwx.next belw).cell 0
 have cwx_1 : w27.cell? ⟨w5.heap.size, 1, none⟩ = some (.slice wA1 wn1 wc1) := (rwx.next belw).cell 1
 have cwy_0 : w27.cell? ⟨w5.heap.size + 1, 0, none⟩ = some (.slice wA2 wn2 wc2) := (rwy.next belw).cell 0
 have cwy_1 : w27.cell? ⟨w5.heap.size + 1, 1, none⟩ = some (.slice wA3 wn3 wc3) := (rwy.next belw).cell 1
 have cgx_0 : w27.cell? ⟨w11.heap.size, 0, none⟩ = some (.slice gA0 gn0 gc0) := (rgx).cell 0
 have cgx_1 : w27.cell? ⟨w11.heap.size, 1, none⟩ = some (.slice gA1 gn1 gc1) := (rgx).cell 1
 have cgy_0 : w27.cell? ⟨w11.heap.size + 1, 0, none⟩ = some (.slice gA2 gn2 gc2) := (rgy).cell 0
 have cgy_1 : w27.cell? ⟨w11.heap.size + 1, 1, none⟩ = some (.slice gA3 gn3 gc3) := (rgy).cell 1
 go_wp2_with fail
 refine (heldK_Walk _ _ ys.1 1 _ (parts2 om.rd).1 hlen.out.1 (by omega) (by rw [HCG1.out]; omega)).mono ?_
 rintro e w28 ⟨he, bb⟩
 rw [HCG1.out] at he
 subst he
 replace rgx := rgx.next bb
 replace rgy := rgy.next bb
 replace om := om.next bb
 replace bel := next_trans bel bb
 replace belw := next_trans belw bb
 have zw28 := bb.size
 clear bb
 clear cA0_0 cA0_1 cwx_0 cwx_1 cwy_0 cwy_1 cgx_0 cgx_1 cgy_0 cgy_1
 have cA0_0 : w28.cell? ⟨w.heap.size, 0, none⟩ = some (v0_0) := (rA0.next bel).cell 0
 have cA0_1 : w28.cell? ⟨w.heap.size, 1, none⟩ = some (v0_1) := (rA0.next bel).cell 1
 have cwx_0 : w28.cell? ⟨w5.heap.size, 0, none⟩ = some (.slice wA0 wn0 wc0) := (rwx.next belw).cell 0
 have cwx_1 : w28.cell? ⟨w5.heap.size, 1, none⟩ = some (.slice wA1 wn1 wc1) := (rwx.next belw).cell 1
 have cwy_0 : w28.cell? ⟨w5.heap.size + 1, 0, none⟩ = some (.slice wA2 wn2 wc2) := (rwy.next belw).cell 0
 have cwy_1 : w28.cell? ⟨w5.heap.size + 1, 1, none⟩ = some (.slice wA3 wn3 wc3) := (rwy.next belw).cell 1
 have cgx_0 : w28.cell? ⟨w11.heap.size, 0, none⟩ = some (.slice gA0 gn0 gc0) := (rgx).cell 0
 have cgx_1 : w28.cell? ⟨w11.heap.size, 1, none⟩ = some (.slice gA1 gn1 gc1) := (rgx).cell 1
 have cgy_0 : w28.cell? ⟨w11.heap.size + 1, 0, none⟩ = some (.slice gA2 gn2 gc2) := (rgy).cell 0
 have cgy_1 : w28.cell? ⟨w11.heap.size + 1, 1, none⟩ = some (.slice gA3 gn3 gc3) := (rgy).cell 1
 go_wp2_with fail
 refine (heldK_Walk _ _ ys.2 (1 + (cg1 : Int)) _ (parts2 om.rd).2 hlen.out.2 (by omega) (by rw [HCG2.out]; omega)).mono ?_
 rintro e w29 ⟨he, bb⟩
 rw [HCG2.out] at he
 subst he
 replace rgx := rgx.next bb
 replace rgy := rgy.next bb
 replace om := om.next bb
 replace bel := next_trans bel bb
 replace belw := next_trans belw bb
 have zw29 := bb.size
 clear bb
 clear cA0_0 cA0_1 cwx_0 cwx_1 cwy_0 cwy_1 cgx_0 cgx_1 cgy_0 cgy_1
 have cA0_0 : w29.cell? ⟨w.heap.size, 0, none⟩ = some (v0_0) := (rA0.next bel).cell 0
 have cA0_1 : w29.cell? ⟨w.heap.size, 1, none⟩ = some (v0_1) := (rA0.next bel).cell 1
 have cwx_0 : w29.cell? ⟨w5.heap.size, 0, none⟩ = some (.slice wA0 wn0 wc0) := (rwx.next belw).cell 0
 have cwx_1 : w29.cell? ⟨w5.heap.size, 1, none⟩ = some (.slice wA1 wn1 wc1) := (rwx.next belw).cell 1
 have cwy_0 : w29.cell? ⟨w5.heap.size + 1, 0, none⟩ = some (.slice wA2 wn2 wc2) := (rwy.next belw).cell 0
 have cwy_1 : w29.cell? ⟨w5.heap.size + 1, 1, none⟩ = some (.slice wA3 wn3 wc3) := (rwy.next belw).cell 1
 have cgx_0 : w29.cell? ⟨w11.heap.size, 0, none⟩ = some (.slice gA0 gn0 gc0) := (rgx).cell 0
 have cgx_1 : w29.cell? ⟨w11.heap.size, 1, none⟩ = some (.slice gA1 gn1 gc1) := (rgx).cell 1
 have cgy_0 : w29.cell? ⟨w11.heap.size + 1, 0, none⟩ = some (.slice gA2 gn2 gc2) := (rgy).cell 0
 have cgy_1 : w29.cell? ⟨w11.heap.size + 1, 1, none⟩ = some (.slice gA3 gn3 gc3) := (rgy).cell 1
 go_wp2_with fail
 refine (toK_System _ _ d0 _ (s0.next bel) h0.out).mono ?_
 rintro e w30 ⟨p0A0, p0n0, p0c0, p0A1, p0n1, p0c1, rfl, op0, bb⟩
 replace rgx := rgx.next bb
 replace rgy := rgy.next bb
 replace om := om.next bb
 replace bel := next_trans bel bb
 replace belw := next_trans belw bb
 have zw30 := bb.size
 clear bb
 clear cA0_0 cA0_1 cwx_0 cwx_1 cwy_0 cwy_1 cgx_0 cgx_1 cgy_0 cgy_1
 have cA0_0 : w30.cell? ⟨w.heap.size, 0, none⟩ = some (v0_0) := (rA0.next bel).cell 0
 have cA0_1 : w30.cell? ⟨w.heap.size, 1, none⟩ = some (v0_1) := (rA0.next bel).cell 1
 have cwx_0 : w30.cell? ⟨w5.heap.size, 0, none⟩ = some (.slice wA0 wn0 wc0) := (rwx.next belw).cell 0
 have cwx_1 : w30.cell? ⟨w5.heap.size, 1, none⟩ = some (.slice wA1 wn1 wc1) := (rwx.next belw).cell 1
 have cwy_0 : w30.cell? ⟨w5.heap.size + 1, 0, none⟩ = some (.slice wA2 wn2 wc2) := (rwy.next belw).cell 0
 have cwy_1 : w30.cell? ⟨w5.heap.size + 1, 1, none⟩ = some (.slice wA3 wn3 wc3) := (rwy.next belw).cell 1
 have cgx_0 : w30.cell? ⟨w11.heap.size, 0, none⟩ = some (.slice gA0 gn0 gc0) := (rgx).cell 0
 have cgx_1 : w30.cell? ⟨w11.heap.size, 1, none⟩ = some (.slice gA1 gn1 gc1) := (rgx).cell 1
 have cgy_0 : w30.cell? ⟨w11.heap.size + 1, 0, none⟩ = some (.slice gA2 gn2 gc2) := (rgy).cell 0
 have cgy_1 : w30.cell? ⟨w11.heap.size + 1, 1, none⟩ = some (.slice gA3 gn3 gc3) := (rgy).cell 1
 go_wp2_with fail
 refine (toK_ints _ d1 _ (s1.next bel) h1.out).mono ?_
 rintro e w31 ⟨p1A0, p1n0, p1c0, rfl, op1, bb⟩
 replace rgx := rgx.next bb
 replace rgy := rgy.next bb
 replace om := om.next bb
 replace op0 := op0.next bb
 replace bel := next_trans bel bb
 replace belw := next_trans belw bb
 have zw31 := bb.size
 clear bb
 clear cA0_0 cA0_1 cwx_0 cwx_1 cwy_0 cwy_1 cgx_0 cgx_1 cgy_0 cgy_1
 have cA0_0 : w31.cell? ⟨w.heap.size, 0, none⟩ = some (v0_0) := (rA0.next bel).cell 0
 have cA0_1 : w31.cell? ⟨w.heap.size, 1, none⟩ = some (v0_1) := (rA0.next bel).cell 1
 have cwx_0 : w31.cell? ⟨w5.heap.size, 0, none⟩ = some (.slice wA0 wn0 wc0) := (rwx.next belw).cell 0
 have cwx_1 : w31.cell? ⟨w5.heap.size, 1, none⟩ = some (.slice wA1 wn1 wc1) := (rwx.next belw).cell 1
 have cwy_0 : w31.cell? ⟨w5.heap.size + 1, 0, none⟩ = some (.slice wA2 wn2 wc2) := (rwy.next belw).cell 0
 have cwy_1 : w31.cell? ⟨w5.heap.size + 1, 1, none⟩ = some (.slice wA3 wn3 wc3) := (rwy.next belw).cell 1
 have cgx_0 : w31.cell? ⟨w11.heap.size, 0, none⟩ = some (.slice gA0 gn0 gc0) := (rgx).cell 0
 have cgx_1 : w31.cell? ⟨w11.heap.size, 1, none⟩ = some (.slice gA1 gn1 gc1) := (rgx).cell 1
 have cgy_0 : w31.cell? ⟨w11.heap.size + 1, 0, none⟩ = some (.slice gA2 gn2 gc2) := (rgy).cell 0
 have cgy_1 : w31.cell? ⟨w11.heap.size + 1, 1, none⟩ = some (.slice gA3 gn3 gc3) := (rgy).cell 1
 go_wp2_with fail
 refine (toK_ints _ d2 _ (s2.next bel) h2.out).mono ?_
 rintro e w32 ⟨p2A0, p2n0, p2c0, rfl, op2, bb⟩
 replace rgx := rgx.next bb
 replace rgy := rgy.next bb
 replace om := om.next bb
 replace op0 := op0.next bb
 replace op1 := op1.next bb
 replace bel := next_trans bel bb
 replace belw := next_trans belw bb
 have zw32 := bb.size
 clear bb
 clear cA0_0 cA0_1 cwx_0 cwx_1 cwy_0 cwy_1 cgx_0 cgx_1 cgy_0 cgy_1
 have cA0_0 : w32.cell? ⟨w.heap.size, 0, none⟩ = some (v0_0) := (rA0.next bel).cell 0
 have cA0_1 : w32.cell? ⟨w.heap.size, 1, none⟩ = some (v0_1) := (rA0.next bel).cell 1
 have cwx_0 : w32.cell? ⟨w5.heap.size, 0, none⟩ = some (.slice wA0 wn0 wc0) := (rwx.next belw).cell 0
 have cwx_1 : w32.cell? ⟨w5.heap.size, 1, none⟩ = some (.slice wA1 wn1 wc1) := (rwx.next belw).cell 1
 have cwy_0 : w32.cell? ⟨w5.heap.size + 1, 0, none⟩ = some (.slice wA2 wn2 wc2) := (rwy.next belw).cell 0
 have cwy_1 : w32.cell? ⟨w5.heap.size + 1, 1, none⟩ = some (.slice wA3 wn3 wc3) := (rwy.next belw).cell 1
 have cgx_0 : w32.cell? ⟨w11.heap.size, 0, none⟩ = some (.slice gA0 gn0 gc0) := (rgx).cell 0
 have cgx_1 : w32.cell? ⟨w11.heap.size, 1, none⟩ = some (.slice gA1 gn1 gc1) := (rgx).cell 1
 have cgy_0 : w32.cell? ⟨w11.heap.size + 1, 0, none⟩ = some (.slice gA2 gn2 gc2) := (rgy).cell 0
 have cgy_1 : w32.cell? ⟨w11.heap.size + 1, 1, none⟩ = some (.slice gA3 gn3 gc3) := (rgy).cell 1
 go_wp2_with fail
 refine (implJoin2 _ _ _ _ d0 d1 d2 x3 _ op0.rd op1.rd op2.rd h0.out h1.out h2.out bl3 bh3).mono ?_
 rintro e w33 ⟨hA0, hn0, hc0, hA1, hn1, hc1, hA2, hn2, hc2, hA3, hn3, hc3, he, o0, bb⟩
 rw [HV.out] at he
 rw [HY.out] at o0
 subst he
 replace rgx := rgx.next bb
 replace rgy := rgy.next bb
 replace om := om.next bb
 replace op0 := op0.next bb
 replace op1 := op1.next bb
 replace op2 := op2.next bb
 replace bel := next_trans bel bb
 replace belw := next_trans belw bb
 have zw33 := bb.size
 clear bb
 have sh := o0.rd
 clear o0
 clear op0 op1 op2
 clear cA0_0 cA0_1 cwx_0 cwx_1 cwy_0 cwy_1 cgx_0 cgx_1 cgy_0 cgy_1
 have cA0_0 : w33.cell? ⟨w.heap.size, 0, none⟩ = some (v0_0) := (rA0.next bel).cell 0
 have cA0_1 : w33.cell? ⟨w.heap.size, 1, none⟩ = some (v0_1) := (rA0.next bel).cell 1
 have cwx_0 : w33.cell? ⟨w5.heap.size, 0, none⟩ = some (.slice wA0 wn0 wc0) := (rwx.next belw).cell 0
 have cwx_1 : w33.cell? ⟨w5.heap.size, 1, none⟩ = some (.slice wA1 wn1 wc1) := (rwx.next belw).cell 1
 have cwy_0 : w33.cell? ⟨w5.heap.size + 1, 0, none⟩ = some (.slice wA2 wn2 wc2) := (rwy.next belw).cell 0
 have cwy_1 : w33.cell? ⟨w5.heap.size + 1, 1, none⟩ = some (.slice wA3 wn3 wc3) := (rwy.next belw).cell 1
 have cgx_0 : w33.cell? ⟨w11.heap.size, 0, none⟩ = some (.slice gA0 gn0 gc0) := (rgx).cell 0
 have cgx_1 : w33.cell? ⟨w11.heap.size, 1, none⟩ = some (.slice gA1 gn1 gc1) := (rgx).cell 1
 have cgy_0 : w33.cell? ⟨w11.heap.size + 1, 0, none⟩ = some (.slice gA2 gn2 gc2) := (rgy).cell 0
 have cgy_1 : w33.cell? ⟨w11.heap.size + 1, 1, none⟩ = some (.slice gA3 gn3 gc3) := (rgy).cell 1
 have dA0_0 : ((w33.alloc (.cells #[.slice hA0 hn0 hc0, .slice hA1 hn1 hc1] 50)).alloc (.cells #[.slice hA2 hn2 hc2, .slice hA3 hn3 hc3] 50)).cell? ⟨w.heap.size, 0, none⟩ = some (v0_0) := (((rA0.next bel).alloc _).alloc _).cell 0
 have dA0_1 : ((w33.alloc (.cells #[.slice hA0 hn0 hc0, .slice hA1 hn1 hc1] 50)).alloc (.cells #[.slice hA2 hn2 hc2, .slice hA3 hn3 hc3] 50)).cell? ⟨w.heap.size, 1, none⟩ = some (v0_1) := (((rA0.next bel).alloc _).alloc _).cell 1
 have dwx_0 : ((w33.alloc (.cells #[.slice hA0 hn0 hc0, .slice hA1 hn1 hc1] 50)).alloc (.cells #[.slice hA2 hn2 hc2, .slice hA3 hn3 hc3] 50)).cell? ⟨w5.heap.size, 0, none⟩ = some (.slice wA0 wn0 wc0) := (((rwx.next belw).alloc _).alloc _).cell 0
 have dwx_1 : ((w33.alloc (.cells #[.slice hA0 hn0 hc0, .slice hA1 hn1 hc1] 50)).alloc (.cells #[.slice hA2 hn2 hc2, .slice hA3 hn3 hc3] 50)).cell? ⟨w5.heap.size, 1, none⟩ = some (.slice wA1 wn1 wc1) := (((rwx.next belw).alloc _).alloc _).cell 1
 have dwy_0 : ((w33.alloc (.cells #[.slice hA0 hn0 hc0, .slice hA1 hn1 hc1] 50)).alloc (.cells #[.slice hA2 hn2 hc2, .slice hA3 hn3 hc3] 50)).cell? ⟨w5.heap.size + 1, 0, none⟩ = some (.slice wA2 wn2 wc2) := (((rwy.next belw).alloc _).alloc _).cell 0
 have dwy_1 : ((w33.alloc (.cells #[.slice hA0 hn0 hc0, .slice hA1 hn1 hc1] 50)).alloc (.cells #[.slice hA2 hn2 hc2, .slice hA3 hn3 hc3] 50)).cell? ⟨w5.heap.size + 1, 1, none⟩ = some (.slice wA3 wn3 wc3) := (((rwy.next belw).alloc _).alloc _).cell 1
 have dgx_0 : ((w33.alloc (.cells #[.slice hA0 hn0 hc0, .slice hA1 hn1 hc1] 50)).alloc (.cells #[.slice hA2 hn2 hc2, .slice hA3 hn3 hc3] 50)).cell? ⟨w11.heap.size, 0, none⟩ = some (.slice gA0 gn0 gc0) := (((rgx).alloc _).alloc _).cell 0
 have dgx_1 : ((w33.alloc (.cells #[.slice hA0 hn0 hc0, .slice hA1 hn1 hc1] 50)).alloc (.cells #[.slice hA2 hn2 hc2, .slice hA3 hn3 hc3] 50)).cell? ⟨w11.heap.size, 1, none⟩ = some (.slice gA1 gn1 gc1) := (((rgx).alloc _).alloc _).cell 1
 have dgy_0 : ((w33.alloc (.cells #[.slice hA0 hn0 hc0, .slice hA1 hn1 hc1] 50)).alloc (.cells #[.slice hA2 hn2 hc2, .slice hA3 hn3 hc3] 50)).cell? ⟨w11.heap.size + 1, 0, none⟩ = some (.slice gA2 gn2 gc2) := (((rgy).alloc _).alloc _).cell 0
 have dgy_1 : ((w33.alloc (.cells #[.slice hA0 hn0 hc0, .slice hA1 hn1 hc1] 50)).alloc (.cells #[.slice hA2 hn2 hc2, .slice hA3 hn3 hc3] 50)).cell? ⟨w11.heap.size + 1, 1, none⟩ = some (.slice gA3 gn3 gc3) := (((rgy).alloc _).alloc _).cell 1
 go_wp2_with fail
 obtain ⟨w34, hw, rhx, rhy, bb⟩ := box2 w33 50 50 #[.slice hA0 hn0 hc0, .slice hA1 hn1 hc1] #[.slice hA2 hn2 hc2, .slice hA3 hn3 hc3]
 rw [← hw]
 have yrh : w33.heap.size + 1 < w34.heap.size := rhy.lt
 clear hw
 replace rgx := rgx.next bb
 replace rgy := rgy.next bb
 replace om := om.next bb
 replace sh := sh.next bb
 replace bel := next_trans bel bb
 replace belw := next_trans belw bb
 have zw34 := bb.size
 clear bb
 clear dA0_0 dA0_1 dwx_0 dwx_1 dwy_0 dwy_1 dgx_0 dgx_1 dgy_0 dgy_1
 have belh := Below.refl w34.heap.size w34
 clear cA0_0 cA0_1 cwx_0 cwx_1 cwy_0 cwy_1 cgx_0 cgx_1 cgy_0 cgy_1
 have cA0_0 : w34.cell? ⟨w.heap.size, 0, none⟩ = some (v0_0) := (rA0.next bel).cell 0
 have cA0_1 : w34.cell? ⟨w.heap.size, 1, none⟩ = some (v0_1) := (rA0.next bel).cell 1
 have cwx_0 : w34.cell? ⟨w5.heap.size, 0, none⟩ = some (.slice wA0 wn0 wc0) := (rwx.next belw).cell 0
 have cwx_1 : w34.cell? ⟨w5.heap.size, 1, none⟩ = some (.slice wA1 wn1 wc1) := (rwx.next belw).cell 1
 have cwy_0 : w34.cell? ⟨w5.heap.size + 1, 0, none⟩ = some (.slice wA2 wn2 wc2) := (rwy.next belw).cell 0
 have cwy_1 : w34.cell? ⟨w5.heap.size + 1, 1, none⟩ = some (.slice wA3 wn3 wc3) := (rwy.next belw).cell 1
 have cgx_0 : w34.cell? ⟨w11.heap.size, 0, none⟩ = some (.slice gA0 gn0 gc0) := (rgx).cell 0
 have cgx_1 : w34.cell? ⟨w11.heap.size, 1, none⟩ = some (.slice gA1 gn1 gc1) := (rgx).cell 1
 have cgy_0 : w34.cell? ⟨w11.heap.size + 1, 0, none⟩ = some (.slice gA2 gn2 gc2) := (rgy).cell 0
 have cgy_1 : w34.cell? ⟨w11.heap.size + 1, 1, none⟩ = some (.slice gA3 gn3 gc3) := (rgy).cell 1
 have chx_0 : w34.cell? ⟨w33.heap.size, 0, none⟩ = some (.slice hA0 hn0 hc0) := (rhx.next belh).cell 0
 have chx_1 : w34.cell? ⟨w33.heap.size, 1, none⟩ = some (.slice hA1 hn1 hc1) := (rhx.next belh).cell 1
 have chy_0 : w34.cell? ⟨w33.heap.size + 1, 0, none⟩ = some (.slice hA2 hn2 hc2) := (rhy.next belh).cell 0
 have chy_1 : w34.cell? ⟨w33.heap.size + 1, 1, none⟩ = some (.slice hA3 hn3 hc3) := (rhy.next belh).cell 1
 refine (eqK_Walk _ _ _ _ ys.1 _ (parts2 (sh.next belh)).1 (parts2 (sw.next belw)).1 hlen.out.1).mono ?_
 rintro e w35 ⟨rfl, bb⟩
 replace rgx := rgx.next bb
 replace rgy := rgy.next bb
 replace om := om.next bb
 replace bel := next_trans bel bb
 replace belw := next_trans belw bb
 replace belh := next_trans belh bb
 have zw35 := bb.size
 clear bb
 clear cA0_0 cA0_1 cwx_0 cwx_1 cwy_0 cwy_1 cgx_0 cgx_1 cgy_0 cgy_1 chx_0 chx_1 chy_0 chy_1
 have cA0_0 : w35.cell? ⟨w.heap.size, 0, none⟩ = some (v0_0) := (rA0.next bel).cell 0
 have cA0_1 : w35.cell? ⟨w.heap.size, 1, none⟩ = some (v0_1) := (rA0.next bel).cell 1
 have cwx_0 : w35.cell? ⟨w5.heap.size, 0, none⟩ = some (.slice wA0 wn0 wc0) := (rwx.next belw).cell 0
 have cwx_1 : w35.cell? ⟨w5.heap.size, 1, none⟩ = some (.slice wA1 wn1 wc1) := (rwx.next belw).cell 1
 have cwy_0 : w35.cell? ⟨w5.heap.size + 1, 0, none⟩ = some (.slice wA2 wn2 wc2) := (rwy.next belw).cell 0
 have cwy_1 : w35.cell? ⟨w5.heap.size + 1, 1, none⟩ = some (.slice wA3 wn3 wc3) := (rwy.next belw).cell 1
 have cgx_0 : w35.cell? ⟨w11.heap.size, 0, none⟩ = some (.slice gA0 gn0 gc0) := (rgx).cell 0
 have cgx_1 : w35.cell? ⟨w11.heap.size, 1, none⟩ = some (.slice gA1 gn1 gc1) := (rgx).cell 1
 have cgy_0 : w35.cell? ⟨w11.heap.size + 1, 0, none⟩ = some (.slice gA2 gn2 gc2) := (rgy).cell 0
 have cgy_1 : w35.cell? ⟨w11.heap.size + 1, 1, none⟩ = some (.slice gA3 gn3 gc3) := (rgy).cell 1
 have chx_0 : w35.cell? ⟨w33.heap.size, 0, none⟩ = some (.slice hA0 hn0 hc0) := (rhx.next belh).cell 0
 have chx_1 : w35.cell? ⟨w33.heap.size, 1, none⟩ = some (.slice hA1 hn1 hc1) := (rhx.next belh).cell 1
 have chy_0 : w35.cell? ⟨w33.heap.size + 1, 0, none⟩ = some (.slice hA2 hn2 hc2) := (rhy.next belh).cell 0
 have chy_1 : w35.cell? ⟨w33.heap.size + 1, 1, none⟩ = some (.slice hA3 hn3 hc3) := (rhy.next belh).cell 1
 go_wp2_with fail
 refine (eqK_Walk _ _ _ _ ys.2 _ (parts2 (sh.next belh)).2 (parts2 (sw.next belw)).2 hlen.out.2).mono ?_
 rintro e w36 ⟨rfl, bb⟩
 replace rgx := rgx.next bb
 replace rgy := rgy.next bb
 replace om := om.next bb
 replace bel := next_trans bel bb
 replace belw := next_trans belw bb
 replace belh := next_trans belh bb
 have zw36 := bb.size
 clear bb
 clear cA0_0 cA0_1 cwx_0 cwx_1 cwy_0 cwy_1 cgx_0 cgx_1 cgy_0 cgy_1 chx_0 chx_1 chy_0 chy_1
 have cA0_0 : w36.cell? ⟨w.heap.size, 0, none⟩ = some (v0_0) := (rA0.next bel).cell 0
 have cA0_1 : w36.cell? ⟨w.heap.size, 1, none⟩ = some (v0_1) := (rA0.next bel).cell 1
 have cwx_0 : w36.cell? ⟨w5.heap.size, 0, none⟩ = some (.slice wA0 wn0 wc0) := (rwx.next belw).cell 0
 have cwx_1 : w36.cell? ⟨w5.heap.size, 1, none⟩ = some (.slice wA1 wn1 wc1) := (rwx.next belw).cell 1
 have cwy_0 : w36.cell? ⟨w5.heap.size + 1, 0, none⟩ = some (.slice wA2 wn2 wc2) := (rwy.next belw).cell 0
 have cwy_1 : w36.cell? ⟨w5.heap.size + 1, 1, none⟩ = some (.slice wA3 wn3 wc3) := (rwy.next belw).cell 1
 have cgx_0 : w36.cell? ⟨w11.heap.size, 0, none⟩ = some (.slice gA0 gn0 gc0) := (rgx).cell 0
 have cgx_1 : w36.cell? ⟨w11.heap.size, 1, none⟩ = some (.slice gA1 gn1 gc1) := (rgx).cell 1
 have cgy_0 : w36.cell? ⟨w11.heap.size + 1, 0, none⟩ = some (.slice gA2 gn2 gc2) := (rgy).cell 0
 have cgy_1 : w36.cell? ⟨w11.heap.size + 1, 1, none⟩ = some (.slice gA3 gn3 gc3) := (rgy).cell 1
 have chx_0 : w36.cell? ⟨w33.heap.size, 0, none⟩ = some (.slice hA0 hn0 hc0) := (rhx.next belh).cell 0
 have chx_1 : w36.cell? ⟨w33.heap.size, 1, none⟩ = some (.slice hA1 hn1 hc1) := (rhx.next belh).cell 1
 have chy_0 : w36.cell? ⟨w33.heap.size + 1, 0, none⟩ = some (.slice hA2 hn2 hc2) := (rhy.next belh).cell 0
 have chy_1 : w36.cell? ⟨w33.heap.size + 1, 1, none⟩ = some (.slice hA3 hn3 hc3) := (rhy.next belh).cell 1
 go_wp2_with fail
 refine (heldK_Walk _ _ ys.1 1 _ (parts2 om.rd).1 hlen.out.1 (by omega) (by rw [HCG1.out]; omega)).mono ?_
 rintro e w37 ⟨he, bb⟩
 rw [HCG1.out] at he
 subst he
 replace rgx := rgx.next bb
 replace rgy := rgy.next bb
 replace om := om.next bb
 replace bel := next_trans bel bb
 replace belw := next_trans belw bb
 replace belh := next_trans belh bb
 have zw37 := bb.size
 clear bb
 clear cA0_0 cA0_1 cwx_0 cwx_1 cwy_0 cwy_1 cgx_0 cgx_1 cgy_0 cgy_1 chx_0 chx_1 chy_0 chy_1
 have cA0_0 : w37.cell? ⟨w.heap.size, 0, none⟩ = some (v0_0) := (rA0.next bel).cell 0
 have cA0_1 : w37.cell? ⟨w.heap.size, 1, none⟩ = some (v0_1) := (rA0.next bel).cell 1
 have cwx_0 : w37.cell? ⟨w5.heap.size, 0, none⟩ = some (.slice wA0 wn0 wc0) := (rwx.next belw).cell 0
 have cwx_1 : w37.cell? ⟨w5.heap.size, 1, none⟩ = some (.slice wA1 wn1 wc1) := (rwx.next belw).cell 1
 have cwy_0 : w37.cell? ⟨w5.heap.size + 1, 0, none⟩ = some (.slice wA2 wn2 wc2) := (rwy.next belw).cell 0
 have cwy_1 : w37.cell? ⟨w5.heap.size + 1, 1, none⟩ = some (.slice wA3 wn3 wc3) := (rwy.next belw).cell 1
 have cgx_0 : w37.cell? ⟨w11.heap.size, 0, none⟩ = some (.slice gA0 gn0 gc0) := (rgx).cell 0
 have cgx_1 : w37.cell? ⟨w11.heap.size, 1, none⟩ = some (.slice gA1 gn1 gc1) := (rgx).cell 1
 have cgy_0 : w37.cell? ⟨w11.heap.size + 1, 0, none⟩ = some (.slice gA2 gn2 gc2) := (rgy).cell 0
 have cgy_1 : w37.cell? ⟨w11.heap.size + 1, 1, none⟩ = some (.slice gA3 gn3 gc3) := (rgy).cell 1
 have chx_0 : w37.cell? ⟨w33.heap.size, 0, none⟩ = some (.slice hA0 hn0 hc0) := (rhx.next belh).cell 0
 have chx_1 : w37.cell? ⟨w33.heap.size, 1, none⟩ = some (.slice hA1 hn1 hc1) := (rhx.next belh).cell 1
 have chy_0 : w37.cell? ⟨w33.heap.size + 1, 0, none⟩ = some (.slice hA2 hn2 hc2) := (rhy.next belh).cell 0
 have chy_1 : w37.cell? ⟨w33.heap.size + 1, 1, none⟩ = some (.slice hA3 hn3 hc3) := (rhy.next belh).cell 1
 go_wp2_with fail
 refine (heldK_Walk _ _ ys.2 (1 + (cg1 : Int)) _ (parts2 om.rd).2 hlen.out.2 (by omega) (by rw [HCG2.out]; omega)).mono ?_
 rintro e w38 ⟨he, bb⟩
 rw [HCG2.out] at he
 subst he
 replace rgx := rgx.next bb
 replace rgy := rgy.next bb
 replace om := om.next bb
 replace bel := next_trans bel bb
 replace belw := next_trans belw bb
 replace belh := next_trans belh bb
 have zw38 := bb.size
 clear bb
 clear cA0_0 cA0_1 cwx_0 cwx_1 cwy_0 cwy_1 cgx_0 cgx_1 cgy_0 cgy_1 chx_0 chx_1 chy_0 chy_1
 have cA0_0 : w38.cell? ⟨w.heap.size, 0, none⟩ = some (v0_0) := (rA0.next bel).cell 0
 have cA0_1 : w38.cell? ⟨w.heap.size, 1, none⟩ = some (v0_1) := (rA0.next bel).cell 1
 have cwx_0 : w38.cell? ⟨w5.heap.size, 0, none⟩ = some (.slice wA0 wn0 wc0) := (rwx.next belw).cell 0
 have cwx_1 : w38.cell? ⟨w5.heap.size, 1, none⟩ = some (.slice wA1 wn1 wc1) := (rwx.next belw).cell 1
 have cwy_0 : w38.cell? ⟨w5.heap.size + 1, 0, none⟩ = some (.slice wA2 wn2 wc2) := (rwy.next belw).cell 0
 have cwy_1 : w38.cell? ⟨w5.heap.size + 1, 1, none⟩ = some (.slice wA3 wn3 wc3) := (rwy.next belw).cell 1
 have cgx_0 : w38.cell? ⟨w11.heap.size, 0, none⟩ = some (.slice gA0 gn0 gc0) := (rgx).cell 0
 have cgx_1 : w38.cell? ⟨w11.heap.size, 1, none⟩ = some (.slice gA1 gn1 gc1) := (rgx).cell 1
 have cgy_0 : w38.cell? ⟨w11.heap.size + 1, 0, none⟩ = some (.slice gA2 gn2 gc2) := (rgy).cell 0
 have cgy_1 : w38.cell? ⟨w11.heap.size + 1, 1, none⟩ = some (.slice gA3 gn3 gc3) := (rgy).cell 1
 have chx_0 : w38.cell? ⟨w33.heap.size, 0, none⟩ = some (.slice hA0 hn0 hc0) := (rhx.next belh).cell 0
 have chx_1 : w38.cell? ⟨w33.heap.size, 1, none⟩ = some (.slice hA1 hn1 hc1) := (rhx.next belh).cell 1
 have chy_0 : w38.cell? ⟨w33.heap.size + 1, 0, none⟩ = some (.slice hA2 hn2 hc2) := (rhy.next belh).cell 0
 have chy_1 : w38.cell? ⟨w33.heap.size + 1, 1, none⟩ = some (.slice hA3 hn3 hc3) := (rhy.next belh).cell 1
 have F := hid (bW.trans (bel.mono bW.size))
 clear bel belw belh rgx rgy om bW cA0_0 cA0_1 cwx_0 cwx_1 cwy_0 cwy_1 cgx_0 cgx_1 cgy_0 cgy_1 chx_0 chx_1 chy_0 chy_1
 go_wp2
 go_ret
 exact ⟨rfl, F.out⟩
end wJoinOf
end
end Go.Proofs.Ytblhmplpcdcejaa
