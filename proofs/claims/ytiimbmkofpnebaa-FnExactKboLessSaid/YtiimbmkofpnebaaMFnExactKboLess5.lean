/-
  MERGED: my texts WKboLess, OpenX, one behind the other, as they are. By an AI agent.
-/
import Derived.Test.YtiimbmkofpnebaaMFnExactKboLess4
import Derived.Deep.RegionHeld3
import Derived.ProofKit
import Derived.OpenShut
import Derived.Lib.SmallJoins
import Derived.Deep.Slices
import Derived.Deep.Fields
namespace Go.Proofs.Ytiimbmkofpnebaa
section
open Go.Lib (hid)
namespace wKboLess
open Go.RowKit base ints sig cursor marks app sym appAt segs segsHelp segsMark kinds shape varsOf kindsR kindsK kboLink kboX kboAll
set_option maxRecDepth 100000
set_option maxHeartbeats 8000000 in
theorem law (v0_0 : Value) (d0 : Dat sSig) (v1_0 v1_1 : Value) (d1 : Dat sWeights) (a2 : Option Addr) (n2 c2 : Nat) (d2 : List Int) (a3 : Option Addr) (n3 c3 : Nat) (d3 : List Int) (w : World) (s0 : Rd w w.heap.size sSig [v0_0] d0) (s1 : Rd w w.heap.size sWeights [.int .i64 d1.1, v1_0, v1_1] d1) (s2 : Rd w w.heap.size sI [.slice a2 n2 c2] d2) (s3 : Rd w w.heap.size sI [.slice a3 n3 c3] d3) :
  Calls Try.prog 9 #[.agg #[v0_0], .agg #[.int .i64 d1.1, v1_0, v1_1], .slice a2 n2 c2, .slice a3 n3 c3] w (Fine w) := by
 have Hl2 := hid s2.seg.1
 have cp2 := (by obtain ⟨A, c, ec, hc⟩ := s2.slice; injection ec with e1 e2 e3; subst e1 e2 e3; exact hc : Cap a2 n2 c2)
 have hN2 : n2 ≤ 9223372036854775807 := Nat.le_trans cp2.1 cp2.2.1
 clear cp2
 have Hl3 := hid s3.seg.1
 have cp3 := (by obtain ⟨A, c, ec, hc⟩ := s3.slice; injection ec with e1 e2 e3; subst e1 e2 e3; exact hc : Cap a3 n3 c3)
 have hN3 : n3 ≤ 9223372036854775807 := Nat.le_trans cp3.1 cp3.2.1
 clear cp3
 obtain ⟨W, hW⟩ : ∃ W, W = (w.alloc (.cells #[v0_0] 58)).alloc (.cells #[.int .i64 d1.1, v1_0, v1_1] 59) := ⟨_, rfl⟩
 have rA0 : Row W (w.heap.size) 58 #[v0_0] := by rw [hW]; have := (Row.new (w) 58 #[v0_0]).alloc (.cells #[.int .i64 d1.1, v1_0, v1_1] 59); simpa using this
 have rA1 : Row W (w.heap.size + 1) 59 #[.int .i64 d1.1, v1_0, v1_1] := by rw [hW]; have := Row.new (w.alloc (.cells #[v0_0] 58)) 59 #[.int .i64 d1.1, v1_0, v1_1]; simpa using this
 have bW : Below w.heap.size w W := by rw [hW]; exact ((Below.refl w.heap.size w).alloc (by simp) (.cells #[v0_0] 58)).alloc (by simp) (.cells #[.int .i64 d1.1, v1_0, v1_1] 59)
 have zA0 := rA0.lt
 have zA1 := rA1.lt
 replace s0 := s0.next bW
 replace s1 := s1.next bW
 replace s2 := s2.next bW
 replace s3 := s3.next bW
 have HW := hid hW
 clear hW
 obtain ⟨t0, ht0⟩ : ∃ z, sz sSig d0 = z := ⟨_, rfl⟩
 have HT0 := hid ht0
 clear ht0
 obtain ⟨t1, ht1⟩ : ∃ z, sz sWeights d1 = z := ⟨_, rfl⟩
 have HT1 := hid ht1
 clear ht1
 obtain ⟨v, hv⟩ : ∃ v, decide (0 < kboW d0 d1.1 d1.2.1 d1.2.2 d2 d3) = v := ⟨_, rfl⟩
 have HV := hid hv
 clear hv
 have ev : (v != v) = false := by simp
 by_cases h2 : n2 ≤ 1048576
 case neg =>
  go_enter Try.func9, Try.ntmps9
  go_wp2_with fail
  rw [← HW.out]
  go_ret
  exact ⟨rfl, bW⟩
 have hi2 : Hid (sz sI d2 ≤ 1048576) := hid (by rw [sz_ints, Hl2.out]; exact h2)
 have hn2 := h2
 clear h2
 have h2 := hi2
 clear hi2
 by_cases h3 : n3 ≤ 1048576
 case neg =>
  go_enter Try.func9, Try.ntmps9
  go_wp2_with fail
  rw [← HW.out]
  go_ret
  exact ⟨rfl, bW⟩
 have hi3 : Hid (sz sI d3 ≤ 1048576) := hid (by rw [sz_ints, Hl3.out]; exact h3)
 have hn3 := h3
 clear h3
 have h3 := hi3
 clear hi3
 go_enter Try.func9, Try.ntmps9
 go_wp2_with fail
 rw [← HW.out]
 clear HW
 have bel := Below.refl W.heap.size W
 have cA0_0 : W.cell? ⟨w.heap.size, 0, none⟩ = some (v0_0) := (rA0.next bel).cell 0
 have cA1_0 : W.cell? ⟨w.heap.size + 1, 0, none⟩ = some (.int .i64 d1.1) := (rA1.next bel).cell 0
 have cA1_1 : W.cell? ⟨w.heap.size + 1, 1, none⟩ = some (v1_0) := (rA1.next bel).cell 1
 have cA1_2 : W.cell? ⟨w.heap.size + 1, 2, none⟩ = some (v1_1) := (rA1.next bel).cell 2
 refine (szK_Sig _ d0 (1048576) _ (s0.next bel) (by omega) (by omega)).mono ?_
 rintro e w1 ⟨he, bb⟩
 rw [HT0.out] at he
 replace bel := next_trans bel bb
 have zw1 := bb.size
 clear bb
 by_cases q0 : t0 ≤ 1048576
 case neg =>
  rw [if_pos (by omega)] at he
  subst he
  have F := hid (bW.trans (bel.mono bW.size))
  clear bel bW cA0_0 cA1_0 cA1_1 cA1_2
  go_wp2
  go_ret
  exact ⟨rfl, F.out⟩
 rw [if_neg (by omega)] at he
 subst he
 have h0 : Hid (sz sSig d0 ≤ 1048576) := hid (by rw [HT0.out]; omega)
 clear cA0_0 cA1_0 cA1_1 cA1_2
 have cA0_0 : w1.cell? ⟨w.heap.size, 0, none⟩ = some (v0_0) := (rA0.next bel).cell 0
 have cA1_0 : w1.cell? ⟨w.heap.size + 1, 0, none⟩ = some (.int .i64 d1.1) := (rA1.next bel).cell 0
 have cA1_1 : w1.cell? ⟨w.heap.size + 1, 1, none⟩ = some (v1_0) := (rA1.next bel).cell 1
 have cA1_2 : w1.cell? ⟨w.heap.size + 1, 2, none⟩ = some (v1_1) := (rA1.next bel).cell 2
 go_wp2_with fail
 refine (szK_Weights _ _ d1 (1048576 - (t0 : Int)) _ (s1.next bel) (by omega) (by omega)).mono ?_
 rintro e w2 ⟨he, bb⟩
 rw [HT1.out] at he
 replace bel := next_trans bel bb
 have zw2 := bb.size
 clear bb
 by_cases q1 : t0 + t1 ≤ 1048576
 case neg =>
  rw [if_pos (by omega)] at he
  subst he
  have F := hid (bW.trans (bel.mono bW.size))
  clear bel bW cA0_0 cA1_0 cA1_1 cA1_2
  go_wp2
  go_ret
  exact ⟨rfl, F.out⟩
 rw [if_neg (by omega)] at he
 subst he
 have h1 : Hid (sz sWeights d1 ≤ 1048576) := hid (by rw [HT1.out]; omega)
 clear cA0_0 cA1_0 cA1_1 cA1_2
 have cA0_0 : w2.cell? ⟨w.heap.size, 0, none⟩ = some (v0_0) := (rA0.next bel).cell 0
 have cA1_0 : w2.cell? ⟨w.heap.size + 1, 0, none⟩ = some (.int .i64 d1.1) := (rA1.next bel).cell 0
 have cA1_1 : w2.cell? ⟨w.heap.size + 1, 1, none⟩ = some (v1_0) := (rA1.next bel).cell 1
 have cA1_2 : w2.cell? ⟨w.heap.size + 1, 2, none⟩ = some (v1_1) := (rA1.next bel).cell 2
 go_wp2_with fail
 replace bel := bel.drew
 have zdw2 := (drew_below w2).size
 go_region_held3 (fun w' => w'.cell? ⟨w.heap.size, 0, none⟩ = some (v0_0) ∧ w'.cell? ⟨w.heap.size + 1, 0, none⟩ = some (.int .i64 d1.1) ∧ w'.cell? ⟨w.heap.size + 1, 1, none⟩ = some (v1_0) ∧ w'.cell? ⟨w.heap.size + 1, 2, none⟩ = some (v1_1))
  (go_keep)
  (first
   | (go_at_call_of 38 (Value.agg #[v0_0]); refine (toK_Sig _ d0 _ (s0.next bel) h0.out).mono ?_; rintro e w3 ⟨p0A0, p0n0, p0c0, rfl, op0, bb⟩; replace bel := next_trans bel bb; have cA0_0w3 : w3.cell? ⟨w.heap.size, 0, none⟩ = some (v0_0) := (rA0.next bel).cell 0; have cA1_0w3 : w3.cell? ⟨w.heap.size + 1, 0, none⟩ = some (.int .i64 d1.1) := (rA1.next bel).cell 0; have cA1_1w3 : w3.cell? ⟨w.heap.size + 1, 1, none⟩ = some (v1_0) := (rA1.next bel).cell 1; have cA1_2w3 : w3.cell? ⟨w.heap.size + 1, 2, none⟩ = some (v1_1) := (rA1.next bel).cell 2; have zqw3 := bb.size; clear bb)
   | (go_at_call_of 39 (Value.agg #[.int .i64 d1.1, v1_0, v1_1]); refine (toK_Weights _ _ d1 _ (s1.next bel) h1.out).mono ?_; rintro e w4 ⟨p1A0, p1n0, p1c0, p1A1, p1n1, p1c1, rfl, op1, bb⟩; replace op0 := op0.next bb; replace bel := next_trans bel bb; have cA0_0w4 : w4.cell? ⟨w.heap.size, 0, none⟩ = some (v0_0) := (rA0.next bel).cell 0; have cA1_0w4 : w4.cell? ⟨w.heap.size + 1, 0, none⟩ = some (.int .i64 d1.1) := (rA1.next bel).cell 0; have cA1_1w4 : w4.cell? ⟨w.heap.size + 1, 1, none⟩ = some (v1_0) := (rA1.next bel).cell 1; have cA1_2w4 : w4.cell? ⟨w.heap.size + 1, 2, none⟩ = some (v1_1) := (rA1.next bel).cell 2; have zqw4 := bb.size; clear bb)
   | (go_at_call_of 43 (Value.slice a2 n2 c2); refine (toK_ints _ d2 _ (s2.next bel) h2.out).mono ?_; rintro e w5 ⟨p2A0, p2n0, p2c0, rfl, op2, bb⟩; replace op0 := op0.next bb; replace op1 := op1.next bb; replace bel := next_trans bel bb; have cA0_0w5 : w5.cell? ⟨w.heap.size, 0, none⟩ = some (v0_0) := (rA0.next bel).cell 0; have cA1_0w5 : w5.cell? ⟨w.heap.size + 1, 0, none⟩ = some (.int .i64 d1.1) := (rA1.next bel).cell 0; have cA1_1w5 : w5.cell? ⟨w.heap.size + 1, 1, none⟩ = some (v1_0) := (rA1.next bel).cell 1; have cA1_2w5 : w5.cell? ⟨w.heap.size + 1, 2, none⟩ = some (v1_1) := (rA1.next bel).cell 2; have zqw5 := bb.size; clear bb)
   | (go_at_call_of 43 (Value.slice a3 n3 c3); refine (toK_ints _ d3 _ (s3.next bel) h3.out).mono ?_; rintro e w6 ⟨p3A0, p3n0, p3c0, rfl, op3, bb⟩; replace op0 := op0.next bb; replace op1 := op1.next bb; replace op2 := op2.next bb; replace bel := next_trans bel bb; have cA0_0w6 : w6.cell? ⟨w.heap.size, 0, none⟩ = some (v0_0) := (rA0.next bel).cell 0; have cA1_0w6 : w6.cell? ⟨w.heap.size + 1, 0, none⟩ = some (.int .i64 d1.1) := (rA1.next bel).cell 0; have cA1_1w6 : w6.cell? ⟨w.heap.size + 1, 1, none⟩ = some (v1_0) := (rA1.next bel).cell 1; have cA1_2w6 : w6.cell? ⟨w.heap.size + 1, 2, none⟩ = some (v1_1) := (rA1.next bel).cell 2; have zqw6 := bb.size; clear bb)
   | (go_at_call 46; refine (specKboLessX _ _ _ _ _ d0 d1 d2 d3 _ op0.rd op1.rd op2.rd op3.rd h0.out h1.out h2.out h3.out).mono ?_; rintro e w7 ⟨he, bb⟩; rw [HV.out] at he; subst he; replace bel := next_trans bel bb; have cA0_0w7 : w7.cell? ⟨w.heap.size, 0, none⟩ = some (v0_0) := (rA0.next bel).cell 0; have cA1_0w7 : w7.cell? ⟨w.heap.size + 1, 0, none⟩ = some (.int .i64 d1.1) := (rA1.next bel).cell 0; have cA1_1w7 : w7.cell? ⟨w.heap.size + 1, 1, none⟩ = some (v1_0) := (rA1.next bel).cell 1; have cA1_2w7 : w7.cell? ⟨w.heap.size + 1, 2, none⟩ = some (v1_1) := (rA1.next bel).cell 2; have zqw7 := bb.size; clear bb op0 op1 op2 op3))
 clear cA0_0 cA1_0 cA1_1 cA1_2 cA0_0w7 cA1_0w7 cA1_1w7 cA1_2w7
 have cA0_0 : w7.cell? ⟨w.heap.size, 0, none⟩ = some (v0_0) := (rA0.next bel).cell 0
 have cA1_0 : w7.cell? ⟨w.heap.size + 1, 0, none⟩ = some (.int .i64 d1.1) := (rA1.next bel).cell 0
 have cA1_1 : w7.cell? ⟨w.heap.size + 1, 1, none⟩ = some (v1_0) := (rA1.next bel).cell 1
 have cA1_2 : w7.cell? ⟨w.heap.size + 1, 2, none⟩ = some (v1_1) := (rA1.next bel).cell 2
 go_wp2_with fail
 refine (toK_Sig _ d0 _ (s0.next bel) h0.out).mono ?_
 rintro e w8 ⟨x0A0, x0n0, x0c0, rfl, ox0, bb⟩
 replace bel := next_trans bel bb
 have zw8 := bb.size
 clear bb
 clear cA0_0 cA1_0 cA1_1 cA1_2
 have cA0_0 : w8.cell? ⟨w.heap.size, 0, none⟩ = some (v0_0) := (rA0.next bel).cell 0
 have cA1_0 : w8.cell? ⟨w.heap.size + 1, 0, none⟩ = some (.int .i64 d1.1) := (rA1.next bel).cell 0
 have cA1_1 : w8.cell? ⟨w.heap.size + 1, 1, none⟩ = some (v1_0) := (rA1.next bel).cell 1
 have cA1_2 : w8.cell? ⟨w.heap.size + 1, 2, none⟩ = some (v1_1) := (rA1.next bel).cell 2
 have dA0_0 : (w8.alloc (.cells #[.slice x0A0 x0n0 x0c0] 29)).cell? ⟨w.heap.size, 0, none⟩ = some (v0_0) := ((rA0.next bel).alloc _).cell 0
 have dA1_0 : (w8.alloc (.cells #[.slice x0A0 x0n0 x0c0] 29)).cell? ⟨w.heap.size + 1, 0, none⟩ = some (.int .i64 d1.1) := ((rA1.next bel).alloc _).cell 0
 have dA1_1 : (w8.alloc (.cells #[.slice x0A0 x0n0 x0c0] 29)).cell? ⟨w.heap.size + 1, 1, none⟩ = some (v1_0) := ((rA1.next bel).alloc _).cell 1
 have dA1_2 : (w8.alloc (.cells #[.slice x0A0 x0n0 x0c0] 29)).cell? ⟨w.heap.size + 1, 2, none⟩ = some (v1_1) := ((rA1.next bel).alloc _).cell 2
 go_wp2_with fail
 obtain ⟨w9, hw⟩ : ∃ W, W = w8.alloc (.cells #[.slice x0A0 x0n0 x0c0] 29) := ⟨_, rfl⟩
 rw [← hw]
 have rx0 : Row w9 w8.heap.size 29 #[.slice x0A0 x0n0 x0c0] := by rw [hw]; exact Row.new _ _ _
 have bb : Below w8.heap.size w8 w9 := by rw [hw]; exact (Below.refl _ _).alloc (Nat.le_refl _) _
 have yrx0 : w8.heap.size < w9.heap.size := by rw [hw]; simp
 clear hw
 replace ox0 := ox0.next bb
 replace bel := next_trans bel bb
 have zw9 := bb.size
 clear bb
 clear dA0_0 dA1_0 dA1_1 dA1_2
 clear cA0_0 cA1_0 cA1_1 cA1_2
 have cA0_0 : w9.cell? ⟨w.heap.size, 0, none⟩ = some (v0_0) := (rA0.next bel).cell 0
 have cA1_0 : w9.cell? ⟨w.heap.size + 1, 0, none⟩ = some (.int .i64 d1.1) := (rA1.next bel).cell 0
 have cA1_1 : w9.cell? ⟨w.heap.size + 1, 1, none⟩ = some (v1_0) := (rA1.next bel).cell 1
 have cA1_2 : w9.cell? ⟨w.heap.size + 1, 2, none⟩ = some (v1_1) := (rA1.next bel).cell 2
 have cx0_0 : w9.cell? ⟨w8.heap.size, 0, none⟩ = some (.slice x0A0 x0n0 x0c0) := (rx0).cell 0
 refine (toK_Weights _ _ d1 _ (s1.next bel) h1.out).mono ?_
 rintro e w10 ⟨x1A0, x1n0, x1c0, x1A1, x1n1, x1c1, rfl, ox1, bb⟩
 replace ox0 := ox0.next bb
 replace rx0 := rx0.next bb
 replace bel := next_trans bel bb
 have zw10 := bb.size
 clear bb
 clear cA0_0 cA1_0 cA1_1 cA1_2 cx0_0
 have cA0_0 : w10.cell? ⟨w.heap.size, 0, none⟩ = some (v0_0) := (rA0.next bel).cell 0
 have cA1_0 : w10.cell? ⟨w.heap.size + 1, 0, none⟩ = some (.int .i64 d1.1) := (rA1.next bel).cell 0
 have cA1_1 : w10.cell? ⟨w.heap.size + 1, 1, none⟩ = some (v1_0) := (rA1.next bel).cell 1
 have cA1_2 : w10.cell? ⟨w.heap.size + 1, 2, none⟩ = some (v1_1) := (rA1.next bel).cell 2
 have cx0_0 : w10.cell? ⟨w8.heap.size, 0, none⟩ = some (.slice x0A0 x0n0 x0c0) := (rx0).cell 0
 have dA0_0 : (w10.alloc (.cells #[.int .i64 d1.1, .slice x1A0 x1n0 x1c0, .slice x1A1 x1n1 x1c1] 32)).cell? ⟨w.heap.size, 0, none⟩ = some (v0_0) := ((rA0.next bel).alloc _).cell 0
 have dA1_0 : (w10.alloc (.cells #[.int .i64 d1.1, .slice x1A0 x1n0 x1c0, .slice x1A1 x1n1 x1c1] 32)).cell? ⟨w.heap.size + 1, 0, none⟩ = some (.int .i64 d1.1) := ((rA1.next bel).alloc _).cell 0
 have dA1_1 : (w10.alloc (.cells #[.int .i64 d1.1, .slice x1A0 x1n0 x1c0, .slice x1A1 x1n1 x1c1] 32)).cell? ⟨w.heap.size + 1, 1, none⟩ = some (v1_0) := ((rA1.next bel).alloc _).cell 1
 have dA1_2 : (w10.alloc (.cells #[.int .i64 d1.1, .slice x1A0 x1n0 x1c0, .slice x1A1 x1n1 x1c1] 32)).cell? ⟨w.heap.size + 1, 2, none⟩ = some (v1_1) := ((rA1.next bel).alloc _).cell 2
 have dx0_0 : (w10.alloc (.cells #[.int .i64 d1.1, .slice x1A0 x1n0 x1c0, .slice x1A1 x1n1 x1c1] 32)).cell? ⟨w8.heap.size, 0, none⟩ = some (.slice x0A0 x0n0 x0c0) := ((rx0).alloc _).cell 0
 go_wp2_with fail
 obtain ⟨w11, hw⟩ : ∃ W, W = w10.alloc (.cells #[.int .i64 d1.1, .slice x1A0 x1n0 x1c0, .slice x1A1 x1n1 x1c1] 32) := ⟨_, rfl⟩
 rw [← hw]
 have rx1 : Row w11 w10.heap.size 32 #[.int .i64 d1.1, .slice x1A0 x1n0 x1c0, .slice x1A1 x1n1 x1c1] := by rw [hw]; exact Row.new _ _ _
 have bb : Below w10.heap.size w10 w11 := by rw [hw]; exact (Below.refl _ _).alloc (Nat.le_refl _) _
 have yrx1 : w10.heap.size < w11.heap.size := by rw [hw]; simp
 clear hw
 replace ox0 := ox0.next bb
 replace rx0 := rx0.next bb
 replace ox1 := ox1.next bb
 replace bel := next_trans bel bb
 have zw11 := bb.size
 clear bb
 clear dA0_0 dA1_0 dA1_1 dA1_2 dx0_0
 clear cA0_0 cA1_0 cA1_1 cA1_2 cx0_0
 have cA0_0 : w11.cell? ⟨w.heap.size, 0, none⟩ = some (v0_0) := (rA0.next bel).cell 0
 have cA1_0 : w11.cell? ⟨w.heap.size + 1, 0, none⟩ = some (.int .i64 d1.1) := (rA1.next bel).cell 0
 have cA1_1 : w11.cell? ⟨w.heap.size + 1, 1, none⟩ = some (v1_0) := (rA1.next bel).cell 1
 have cA1_2 : w11.cell? ⟨w.heap.size + 1, 2, none⟩ = some (v1_1) := (rA1.next bel).cell 2
 have cx0_0 : w11.cell? ⟨w8.heap.size, 0, none⟩ = some (.slice x0A0 x0n0 x0c0) := (rx0).cell 0
 have cx1_0 : w11.cell? ⟨w10.heap.size, 0, none⟩ = some (.int .i64 d1.1) := (rx1).cell 0
 have cx1_1 : w11.cell? ⟨w10.heap.size, 1, none⟩ = some (.slice x1A0 x1n0 x1c0) := (rx1).cell 1
 have cx1_2 : w11.cell? ⟨w10.heap.size, 2, none⟩ = some (.slice x1A1 x1n1 x1c1) := (rx1).cell 2
 refine (toK_ints _ d2 _ (s2.next bel) h2.out).mono ?_
 rintro e w12 ⟨x2A0, x2n0, x2c0, rfl, ox2, bb⟩
 replace ox0 := ox0.next bb
 replace rx0 := rx0.next bb
 replace ox1 := ox1.next bb
 replace rx1 := rx1.next bb
 replace bel := next_trans bel bb
 have zw12 := bb.size
 clear bb
 clear cA0_0 cA1_0 cA1_1 cA1_2 cx0_0 cx1_0 cx1_1 cx1_2
 have cA0_0 : w12.cell? ⟨w.heap.size, 0, none⟩ = some (v0_0) := (rA0.next bel).cell 0
 have cA1_0 : w12.cell? ⟨w.heap.size + 1, 0, none⟩ = some (.int .i64 d1.1) := (rA1.next bel).cell 0
 have cA1_1 : w12.cell? ⟨w.heap.size + 1, 1, none⟩ = some (v1_0) := (rA1.next bel).cell 1
 have cA1_2 : w12.cell? ⟨w.heap.size + 1, 2, none⟩ = some (v1_1) := (rA1.next bel).cell 2
 have cx0_0 : w12.cell? ⟨w8.heap.size, 0, none⟩ = some (.slice x0A0 x0n0 x0c0) := (rx0).cell 0
 have cx1_0 : w12.cell? ⟨w10.heap.size, 0, none⟩ = some (.int .i64 d1.1) := (rx1).cell 0
 have cx1_1 : w12.cell? ⟨w10.heap.size, 1, none⟩ = some (.slice x1A0 x1n0 x1c0) := (rx1).cell 1
 have cx1_2 : w12.cell? ⟨w10.heap.size, 2, none⟩ = some (.slice x1A1 x1n1 x1c1) := (rx1).cell 2
 go_wp2_with fail
 refine (toK_ints _ d3 _ (s3.next bel) h3.out).mono ?_
 rintro e w13 ⟨x3A0, x3n0, x3c0, rfl, ox3, bb⟩
 replace ox0 := ox0.next bb
 replace rx0 := rx0.next bb
 replace ox1 := ox1.next bb
 replace rx1 := rx1.next bb
 replace ox2 := ox2.next bb
 replace bel := next_trans bel bb
 have zw13 := bb.size
 clear bb
 clear cA0_0 cA1_0 cA1_1 cA1_2 cx0_0 cx1_0 cx1_1 cx1_2
 have cA0_0 : w13.cell? ⟨w.heap.size, 0, none⟩ = some (v0_0) := (rA0.next bel).cell 0
 have cA1_0 : w13.cell? ⟨w.heap.size + 1, 0, none⟩ = some (.int .i64 d1.1) := (rA1.next bel).cell 0
 have cA1_1 : w13.cell? ⟨w.heap.size + 1, 1, none⟩ = some (v1_0) := (rA1.next bel).cell 1
 have cA1_2 : w13.cell? ⟨w.heap.size + 1, 2, none⟩ = some (v1_1) := (rA1.next bel).cell 2
 have cx0_0 : w13.cell? ⟨w8.heap.size, 0, none⟩ = some (.slice x0A0 x0n0 x0c0) := (rx0).cell 0
 have cx1_0 : w13.cell? ⟨w10.heap.size, 0, none⟩ = some (.int .i64 d1.1) := (rx1).cell 0
 have cx1_1 : w13.cell? ⟨w10.heap.size, 1, none⟩ = some (.slice x1A0 x1n0 x1c0) := (rx1).cell 1
 have cx1_2 : w13.cell? ⟨w10.heap.size, 2, none⟩ = some (.slice x1A1 x1n1 x1c1) := (rx1).cell 2
 go_wp2_with fail
 refine (implKboLessX _ _ _ _ _ d0 d1 d2 d3 _ ox0.rd ox1.rd ox2.rd ox3.rd h0.out h1.out h2.out h3.out).mono ?_
 rintro e w14 ⟨he, bb⟩
 rw [HV.out] at he
 subst he
 replace ox0 := ox0.next bb
 replace rx0 := rx0.next bb
 replace ox1 := ox1.next bb
 replace rx1 := rx1.next bb
 replace ox2 := ox2.next bb
 replace ox3 := ox3.next bb
 replace bel := next_trans bel bb
 have zw14 := bb.size
 clear bb
 clear cA0_0 cA1_0 cA1_1 cA1_2 cx0_0 cx1_0 cx1_1 cx1_2
 have cA0_0 : w14.cell? ⟨w.heap.size, 0, none⟩ = some (v0_0) := (rA0.next bel).cell 0
 have cA1_0 : w14.cell? ⟨w.heap.size + 1, 0, none⟩ = some (.int .i64 d1.1) := (rA1.next bel).cell 0
 have cA1_1 : w14.cell? ⟨w.heap.size + 1, 1, none⟩ = some (v1_0) := (rA1.next bel).cell 1
 have cA1_2 : w14.cell? ⟨w.heap.size + 1, 2, none⟩ = some (v1_1) := (rA1.next bel).cell 2
 have cx0_0 : w14.cell? ⟨w8.heap.size, 0, none⟩ = some (.slice x0A0 x0n0 x0c0) := (rx0).cell 0
 have cx1_0 : w14.cell? ⟨w10.heap.size, 0, none⟩ = some (.int .i64 d1.1) := (rx1).cell 0
 have cx1_1 : w14.cell? ⟨w10.heap.size, 1, none⟩ = some (.slice x1A0 x1n0 x1c0) := (rx1).cell 1
 have cx1_2 : w14.cell? ⟨w10.heap.size, 2, none⟩ = some (.slice x1A1 x1n1 x1c1) := (rx1).cell 2
 go_wp2_with fail
 replace ox0 := ox0.drew
 replace rx0 := rx0.drew
 replace ox1 := ox1.drew
 replace rx1 := rx1.drew
 replace ox2 := ox2.drew
 replace ox3 := ox3.drew
 replace bel := bel.drew
 have zdw14 := (drew_below w14).size
 go_region_held3 (fun w' => w'.cell? ⟨w8.heap.size, 0, none⟩ = some (.slice x0A0 x0n0 x0c0) ∧ w'.cell? ⟨w.heap.size, 0, none⟩ = some (v0_0))
  (go_keep)
  (first
   | (go_at_call 38; refine (toK_Sig _ d0 _ (s0.next bel) h0.out).mono ?_; rintro e w15 ⟨t0A0, t0n0, t0c0, rfl, ot, bb⟩; replace ox0 := ox0.next bb; replace rx0 := rx0.next bb; replace ox1 := ox1.next bb; replace rx1 := rx1.next bb; replace ox2 := ox2.next bb; replace ox3 := ox3.next bb; replace bel := next_trans bel bb; have k0_0w15 : w15.cell? ⟨w.heap.size, 0, none⟩ = some (v0_0) := (rA0.next bel).cell 0; have l0_0w15 : w15.cell? ⟨w8.heap.size, 0, none⟩ = some (.slice x0A0 x0n0 x0c0) := rx0.cell 0; have zqw15 := bb.size; clear bb)
   | (go_at_call 40; refine (eqK_Sig _ _ d0 _ ox0.rd ot.rd h0.out).mono ?_; rintro e w16 ⟨rfl, bb⟩; replace ox0 := ox0.next bb; replace rx0 := rx0.next bb; replace ox1 := ox1.next bb; replace rx1 := rx1.next bb; replace ox2 := ox2.next bb; replace ox3 := ox3.next bb; replace bel := next_trans bel bb; have k0_0w16 : w16.cell? ⟨w.heap.size, 0, none⟩ = some (v0_0) := (rA0.next bel).cell 0; have l0_0w16 : w16.cell? ⟨w8.heap.size, 0, none⟩ = some (.slice x0A0 x0n0 x0c0) := rx0.cell 0; have zqw16 := bb.size; clear bb ot))
 clear k0_0w15 l0_0w15 k0_0w16 l0_0w16
 clear ox0 rx0
 clear cA0_0 cA1_0 cA1_1 cA1_2 cx0_0 cx1_0 cx1_1 cx1_2
 have cA0_0 : w16.cell? ⟨w.heap.size, 0, none⟩ = some (v0_0) := (rA0.next bel).cell 0
 have cA1_0 : w16.cell? ⟨w.heap.size + 1, 0, none⟩ = some (.int .i64 d1.1) := (rA1.next bel).cell 0
 have cA1_1 : w16.cell? ⟨w.heap.size + 1, 1, none⟩ = some (v1_0) := (rA1.next bel).cell 1
 have cA1_2 : w16.cell? ⟨w.heap.size + 1, 2, none⟩ = some (v1_1) := (rA1.next bel).cell 2
 have cx1_0 : w16.cell? ⟨w10.heap.size, 0, none⟩ = some (.int .i64 d1.1) := (rx1).cell 0
 have cx1_1 : w16.cell? ⟨w10.heap.size, 1, none⟩ = some (.slice x1A0 x1n0 x1c0) := (rx1).cell 1
 have cx1_2 : w16.cell? ⟨w10.heap.size, 2, none⟩ = some (.slice x1A1 x1n1 x1c1) := (rx1).cell 2
 go_wp2_with fail
 replace ox1 := ox1.drew
 replace rx1 := rx1.drew
 replace ox2 := ox2.drew
 replace ox3 := ox3.drew
 replace bel := bel.drew
 have zdw16 := (drew_below w16).size
 go_region_held3 (fun w' => w'.cell? ⟨w10.heap.size, 0, none⟩ = some (.int .i64 d1.1) ∧ w'.cell? ⟨w10.heap.size, 1, none⟩ = some (.slice x1A0 x1n0 x1c0) ∧ w'.cell? ⟨w10.heap.size, 2, none⟩ = some (.slice x1A1 x1n1 x1c1) ∧ w'.cell? ⟨w.heap.size + 1, 0, none⟩ = some (.int .i64 d1.1) ∧ w'.cell? ⟨w.heap.size + 1, 1, none⟩ = some (v1_0) ∧ w'.cell? ⟨w.heap.size + 1, 2, none⟩ = some (v1_1))
  (go_keep)
  (first
   | (go_at_call 39; refine (toK_Weights _ _ d1 _ (s1.next bel) h1.out).mono ?_; rintro e w17 ⟨t1A0, t1n0, t1c0, t1A1, t1n1, t1c1, rfl, ot, bb⟩; replace ox1 := ox1.next bb; replace rx1 := rx1.next bb; replace ox2 := ox2.next bb; replace ox3 := ox3.next bb; replace bel := next_trans bel bb; have k1_0w17 : w17.cell? ⟨w.heap.size + 1, 0, none⟩ = some (.int .i64 d1.1) := (rA1.next bel).cell 0; have k1_1w17 : w17.cell? ⟨w.heap.size + 1, 1, none⟩ = some (v1_0) := (rA1.next bel).cell 1; have k1_2w17 : w17.cell? ⟨w.heap.size + 1, 2, none⟩ = some (v1_1) := (rA1.next bel).cell 2; have l1_0w17 : w17.cell? ⟨w10.heap.size, 0, none⟩ = some (.int .i64 d1.1) := rx1.cell 0; have l1_1w17 : w17.cell? ⟨w10.heap.size, 1, none⟩ = some (.slice x1A0 x1n0 x1c0) := rx1.cell 1; have l1_2w17 : w17.cell? ⟨w10.heap.size, 2, none⟩ = some (.slice x1A1 x1n1 x1c1) := rx1.cell 2; have zqw17 := bb.size; clear bb)
   | (go_at_call 41; refine (eqK_Weights _ _ _ _ d1 _ ox1.rd ot.rd h1.out).mono ?_; rintro e w18 ⟨rfl, bb⟩; replace ox1 := ox1.next bb; replace rx1 := rx1.next bb; replace ox2 := ox2.next bb; replace ox3 := ox3.next bb; replace bel := next_trans bel bb; have k1_0w18 : w18.cell? ⟨w.heap.size + 1, 0, none⟩ = some (.int .i64 d1.1) := (rA1.next bel).cell 0; have k1_1w18 : w18.cell? ⟨w.heap.size + 1, 1, none⟩ = some (v1_0) := (rA1.next bel).cell 1; have k1_2w18 : w18.cell? ⟨w.heap.size + 1, 2, none⟩ = some (v1_1) := (rA1.next bel).cell 2; have l1_0w18 : w18.cell? ⟨w10.heap.size, 0, none⟩ = some (.int .i64 d1.1) := rx1.cell 0; have l1_1w18 : w18.cell? ⟨w10.heap.size, 1, none⟩ = some (.slice x1A0 x1n0 x1c0) := rx1.cell 1; have l1_2w18 : w18.cell? ⟨w10.heap.size, 2, none⟩ = some (.slice x1A1 x1n1 x1c1) := rx1.cell 2; have zqw18 := bb.size; clear bb ot))
 clear k1_0w17 l1_0w17 k1_1w17 l1_1w17 k1_2w17 l1_2w17 k1_0w18 l1_0w18 k1_1w18 l1_1w18 k1_2w18 l1_2w18
 clear ox1 rx1
 clear cA0_0 cA1_0 cA1_1 cA1_2 cx1_0 cx1_1 cx1_2
 have cA0_0 : w18.cell? ⟨w.heap.size, 0, none⟩ = some (v0_0) := (rA0.next bel).cell 0
 have cA1_0 : w18.cell? ⟨w.heap.size + 1, 0, none⟩ = some (.int .i64 d1.1) := (rA1.next bel).cell 0
 have cA1_1 : w18.cell? ⟨w.heap.size + 1, 1, none⟩ = some (v1_0) := (rA1.next bel).cell 1
 have cA1_2 : w18.cell? ⟨w.heap.size + 1, 2, none⟩ = some (v1_1) := (rA1.next bel).cell 2
 go_wp2_with fail
 refine (toK_ints _ d2 _ (s2.next bel) h2.out).mono ?_
 rintro e w19 ⟨t2A0, t2n0, t2c0, rfl, ot2, bb⟩
 replace ox2 := ox2.next bb
 replace ox3 := ox3.next bb
 replace bel := next_trans bel bb
 have zw19 := bb.size
 clear bb
 clear cA0_0 cA1_0 cA1_1 cA1_2
 have cA0_0 : w19.cell? ⟨w.heap.size, 0, none⟩ = some (v0_0) := (rA0.next bel).cell 0
 have cA1_0 : w19.cell? ⟨w.heap.size + 1, 0, none⟩ = some (.int .i64 d1.1) := (rA1.next bel).cell 0
 have cA1_1 : w19.cell? ⟨w.heap.size + 1, 1, none⟩ = some (v1_0) := (rA1.next bel).cell 1
 have cA1_2 : w19.cell? ⟨w.heap.size + 1, 2, none⟩ = some (v1_1) := (rA1.next bel).cell 2
 go_wp2_with fail
 refine (eqK_ints _ _ d2 _ ox2.rd ot2.rd h2.out).mono ?_
 rintro e w20 ⟨rfl, bb⟩
 replace ox2 := ox2.next bb
 replace ox3 := ox3.next bb
 replace ot2 := ot2.next bb
 replace bel := next_trans bel bb
 have zw20 := bb.size
 clear bb
 clear ot2 ox2
 clear cA0_0 cA1_0 cA1_1 cA1_2
 have cA0_0 : w20.cell? ⟨w.heap.size, 0, none⟩ = some (v0_0) := (rA0.next bel).cell 0
 have cA1_0 : w20.cell? ⟨w.heap.size + 1, 0, none⟩ = some (.int .i64 d1.1) := (rA1.next bel).cell 0
 have cA1_1 : w20.cell? ⟨w.heap.size + 1, 1, none⟩ = some (v1_0) := (rA1.next bel).cell 1
 have cA1_2 : w20.cell? ⟨w.heap.size + 1, 2, none⟩ = some (v1_1) := (rA1.next bel).cell 2
 go_wp2_with fail
 refine (toK_ints _ d3 _ (s3.next bel) h3.out).mono ?_
 rintro e w21 ⟨t3A0, t3n0, t3c0, rfl, ot3, bb⟩
 replace ox3 := ox3.next bb
 replace bel := next_trans bel bb
 have zw21 := bb.size
 clear bb
 clear cA0_0 cA1_0 cA1_1 cA1_2
 have cA0_0 : w21.cell? ⟨w.heap.size, 0, none⟩ = some (v0_0) := (rA0.next bel).cell 0
 have cA1_0 : w21.cell? ⟨w.heap.size + 1, 0, none⟩ = some (.int .i64 d1.1) := (rA1.next bel).cell 0
 have cA1_1 : w21.cell? ⟨w.heap.size + 1, 1, none⟩ = some (v1_0) := (rA1.next bel).cell 1
 have cA1_2 : w21.cell? ⟨w.heap.size + 1, 2, none⟩ = some (v1_1) := (rA1.next bel).cell 2
 go_wp2_with fail
 refine (eqK_ints _ _ d3 _ ox3.rd ot3.rd h3.out).mono ?_
 rintro e w22 ⟨rfl, bb⟩
 replace ox3 := ox3.next bb
 replace ot3 := ot3.next bb
 replace bel := next_trans bel bb
 have zw22 := bb.size
 clear bb
 clear ot3 ox3
 clear cA0_0 cA1_0 cA1_1 cA1_2
 have cA0_0 : w22.cell? ⟨w.heap.size, 0, none⟩ = some (v0_0) := (rA0.next bel).cell 0
 have cA1_0 : w22.cell? ⟨w.heap.size + 1, 0, none⟩ = some (.int .i64 d1.1) := (rA1.next bel).cell 0
 have cA1_1 : w22.cell? ⟨w.heap.size + 1, 1, none⟩ = some (v1_0) := (rA1.next bel).cell 1
 have cA1_2 : w22.cell? ⟨w.heap.size + 1, 2, none⟩ = some (v1_1) := (rA1.next bel).cell 2
 have F := hid (bW.trans (bel.mono bW.size))
 clear bel bW cA0_0 cA1_0 cA1_1 cA1_2
 go_wp2
 go_ret
 exact ⟨rfl, F.out⟩
end wKboLess
end
section
namespace openX
open Go.ChangeShapes Go.WideShapes Go.ChangeAt Go.RowKit base segs shape
def Wf : (s : Sh) → Dat s → Prop
 | .num, (x : Int) => -9223372036854775808 ≤ x ∧ x ≤ 9223372036854775807
 | .bit, _ => True
 | .row _ s, (d : List (Dat s)) => ∀ j, j < d.length → Wf s (d.getD j (dft s))
 | .cat a b, d => Wf a d.1 ∧ Wf b d.2
mutual
def fitsB (P : Program) : Nat → Sh → TypeId → Bool
 | 0, _, _ => false
 | n + 1, s, t => match P.underlying t with
  | some (.struct fs) => P.cellsOf t == nc s && fitsL P n fs.toList 0 s
  | some (.int .i64) => match s with | .num => true | _ => false
  | some .bool => match s with | .bit => true | _ => false
  | some (.slice e) => match s with | .row _ s' => P.cellsOf e == nc s' && fitsB P n s' e | _ => false
  | _ => false
def fitsL (P : Program) : Nat → List Field → Nat → Sh → Bool
 | 0, _, _, _ => false
 | _ + 1, [], _, _ => false
 | n + 1, [f], k, s => f.offset == k && (P.cellsOf f.type == nc s && fitsB P n s f.type)
 | n + 1, f :: g :: fs, k, s => match s with | .cat a b => f.offset == k && (P.cellsOf f.type == nc a && (fitsB P n a f.type && fitsL P n (g :: fs) (k + nc a) b)) | _ => false
end
section
variable {H : Type} {enc : TypeId × Value → H} {P : Program} {w : World} {held : Bool}
theorem addr_add {b off i : Nat} : (⟨b, off, none⟩ : Addr).add i = ⟨b, off + i, none⟩ := by unfold Addr.add; split <;> simp_all
theorem rd_trod : ∀ n : Nat, (∀ (s : Sh) (t : TypeId) (fuel : Nat) (cs : List Value) (x : DataW H × List MemPlace), fitsB P n s t = true → DataW.trod enc P w 0 (fun _ => true) held fuel t cs = some x → ∃ d, Rd w w.heap.size s cs d ∧ Wf s d) ∧
  (∀ (fs : List Field) (k : Nat) (s : Sh) (cs : List Value) (m : Nat), fitsL P n fs k s = true → (∀ (i : Nat) (f : Field), fs[i]? = some f → ∃ x, DataW.trod enc P w 0 (fun _ => true) held m f.type ((cs.drop f.offset).take (P.cellsOf f.type)) = some x) →
   ∃ d, Rd w w.heap.size s ((cs.drop k).take (nc s)) d ∧ Wf s d) := by
 intro n
 induction n with
 | zero => exact ⟨fun _ _ _ _ _ h => by simp [fitsB] at h, fun _ _ _ _ _ h => by simp [fitsL] at h⟩
 | succ n ih =>
  refine ⟨fun s t fuel cs x hf h => ?_, fun fs k s cs m hf h => ?_⟩
  ·unfold fitsB at hf
   split at hf
   ·rename_i fs hu
    simp only [Bool.and_eq_true, beq_iff_eq] at hf
    obtain ⟨xs, n', hfu, hx, hlen, hxl, hg⟩ := DataW.trod_struct hu h
    obtain ⟨d, hr, hw⟩ := ih.2 fs.toList 0 s cs n' hf.2 (fun i f hi => by
     have hi' : fs[i]? = some f := by simpa using hi
     have h1 := hg i f hi'
     have hlt : i < fs.size := (Array.getElem?_eq_some_iff.1 hi').1
     exact ⟨xs[i]'(by omega), by rw [h1]; exact List.getElem?_eq_getElem (by omega)⟩)
    rw [List.drop_zero, List.take_of_length_le (by omega)] at hr
    exact ⟨d, hr, hw⟩
   ·rename_i hu
    split at hf
    ·obtain ⟨z, e1, _, hw⟩ := DataW.trod_int hu h
     refine ⟨z, e1, ?_⟩
     show -9223372036854775808 ≤ z ∧ z ≤ 9223372036854775807
     simpa [Lit.wf, IntKind.min, IntKind.max, IntKind.signed, IntKind.bits] using hw
    ·cases hf
   ·rename_i hu
    split at hf
    ·obtain ⟨z, e1, _⟩ := DataW.trod_bool hu h
     exact ⟨z, e1, trivial⟩
    ·cases hf
   ·rename_i e hu
    split at hf
    ·rename_i e0 s'
     simp only [Bool.and_eq_true, beq_iff_eq] at hf
     rcases Go.Deep.open_slice hu h with ⟨hcs, _⟩ | ⟨a, len, cap, m, n', D, Pl, hcs, _, hl, hm, hmm, _, hi⟩
     ·exact ⟨[], ⟨none, 0, 0, hcs, ⟨by omega, by omega, fun _ => rfl⟩, rfl, fun h => absurd h (by omega)⟩, fun j hj => absurd hj (Nat.not_lt_zero _)⟩
     ·have hmc : m = cap := by simpa using hmm
      subst hmc
      have hd : ∀ j, j < len → ∃ (es : List Value) (dj : Dat s'), es.length = nc s' ∧ (∀ i, i < nc s' → w.cell? ((a.add (j * nc s')).add i) = es[i]?) ∧ Rd w w.heap.size s' es dj ∧ Wf s' dj := fun j hj => by
       obtain ⟨cs', hc, ht⟩ := hi j (by omega)
       obtain ⟨dj, hr, hw⟩ := ih.1 s' e n' cs' _ hf.2 ht
       rw [hf.1] at hc
       obtain ⟨_, hcl, hat⟩ := World.cells?_some hc
       exact ⟨cs', dj, hcl, hat, hr, hw⟩
      have hspot : 0 < len → a.spot = none := fun h0 => by
       obtain ⟨es, dj, h1, h2, _⟩ := hd 0 h0
       have hp := nc_pos s'
       have h3 := h2 0 (by omega)
       rw [List.getElem?_eq_getElem (by omega)] at h3
       have := World.cell?_spot h3
       simpa [Addr.add] using this
      obtain ⟨ds, hdl, hds⟩ : ∃ ds : List (Dat s'), ds.length = len ∧ ∀ j, j < len → ∃ es : List Value, es.length = nc s' ∧ (∀ i, i < nc s' → w.cell? ((a.add (j * nc s')).add i) = es[i]?) ∧ Rd w w.heap.size s' es (ds.getD j (dft s')) ∧ Wf s' (ds.getD j (dft s')) := by
       refine ⟨(List.range len).map fun j => if hj : j < len then Classical.choose (Classical.choose_spec (hd j hj)) else dft s', by simp, fun j hj => ?_⟩
       refine ⟨Classical.choose (hd j hj), ?_⟩
       have h1 := Classical.choose_spec (Classical.choose_spec (hd j hj))
       have e1 : ((List.range len).map fun j => if hj : j < len then Classical.choose (Classical.choose_spec (hd j hj)) else dft s').getD j (dft s') = Classical.choose (Classical.choose_spec (hd j hj)) := by simp [List.getD, hj]
       rw [e1]
       exact h1
      refine ⟨ds, ⟨some a, len, m, hcs, ⟨hl, by unfold maxLen at hm; omega, fun e => by cases e⟩, hdl, fun h0 => ?_⟩, fun j hj => by
       obtain ⟨es, _, _, _, hw⟩ := hds j (by rw [← hdl]; exact hj)
       exact hw⟩
      obtain ⟨b, off, spot⟩ := a
      have hs := hspot h0
      simp only at hs
      subst hs
      refine ⟨b, off, rfl, ?_, fun j hj => ?_⟩
      ·obtain ⟨es, h1, h2, _⟩ := hds 0 h0
       have hp := nc_pos s'
       have h3 := h2 0 (by omega)
       rw [List.getElem?_eq_getElem (by omega)] at h3
       have h4 := World.block_lt_of_cell? _ _ h3
       simpa [addr_add] using h4
      ·obtain ⟨es, h1, h2, h3, _⟩ := hds j hj
       refine ⟨es, h1, fun i hi2 => ?_, h3⟩
       have := h2 i (by omega)
       rw [addr_add, addr_add] at this
       exact this
    ·cases hf
   ·cases hf
  ·match fs, hf, h with
   | [], hf, _ => simp [fitsL] at hf
   | [f], hf, h =>
    unfold fitsL at hf
    simp only [Bool.and_eq_true, beq_iff_eq] at hf
    obtain ⟨h1, h2, h3⟩ := hf
    obtain ⟨x, hx⟩ := h 0 f rfl
    rw [h1, h2] at hx
    exact ih.1 s f.type m _ x h3 hx
   | f :: g :: fs, hf, h =>
    cases s with
    | cat a b =>
     unfold fitsL at hf
     simp only [Bool.and_eq_true, beq_iff_eq] at hf
     obtain ⟨h1, h2, h3, h4⟩ := hf
     obtain ⟨x, hx⟩ := h 0 f rfl
     rw [h1, h2] at hx
     obtain ⟨d1, r1, w1⟩ := ih.1 a f.type m _ x h3 hx
     obtain ⟨d2, r2, w2⟩ := ih.2 (g :: fs) (k + nc a) b cs m h4 (fun i f' hi => h (i + 1) f' hi)
     refine ⟨(d1, d2), ⟨_, _, ?_, r1, r2⟩, w1, w2⟩
     show List.take (nc a + nc b) (List.drop k cs) = _
     rw [List.take_add, List.drop_drop]
    | num => simp [fitsL] at hf
    | bit => simp [fitsL] at hf
    | row e s' => simp [fitsL] at hf
theorem open_val {s : Sh} {t : TypeId} {v : Value} {d : DataW H} {p : List MemPlace} {n : Nat} (hf : fitsB P n s t = true) (h : DataW.Trod enc P w 0 (fun _ => true) held t v d p) : ∃ x, Rd w w.heap.size s v.cells.toList x ∧ Wf s x := by
 obtain ⟨fuel, hfu⟩ := h
 exact (rd_trod n).1 s t fuel _ _ hf hfu
end
end openX
end
end Go.Proofs.Ytiimbmkofpnebaa
