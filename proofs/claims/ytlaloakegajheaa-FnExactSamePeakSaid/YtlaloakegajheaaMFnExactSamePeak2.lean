/-
  MERGED: my texts WSamePeak, OpenX, one behind the other, as they are. By an AI agent.
-/
import Derived.Test.YtlaloakegajheaaMFnExactSamePeak1
import Derived.Deep.RegionHeld3
import Derived.ProofKit
import Derived.OpenShut
import Derived.Lib.SmallJoins
import Derived.Deep.Slices
import Derived.Deep.Fields
namespace Go.Proofs.Ytlaloakegajheaa
section
namespace wSamePeak
open Go.RowKit base ints sig cursor marks app sym appAt segs segsHelp segsMark kinds shape varsOf kindsR kindsP ruleMath ruleSpec peakSame
set_option maxRecDepth 100000
set_option maxHeartbeats 8000000 in
theorem law (v0_0 v0_1 v0_2 : Value) (d0 : Dat sPeak) (v1_0 v1_1 v1_2 : Value) (d1 : Dat sPeak) (w : World) (s0 : Rd w w.heap.size sPeak [v0_0, v0_1, v0_2, .int .i64 d0.2.2.2.1, .int .i64 d0.2.2.2.2.1, .int .i64 d0.2.2.2.2.2] d0) (s1 : Rd w w.heap.size sPeak [v1_0, v1_1, v1_2, .int .i64 d1.2.2.2.1, .int .i64 d1.2.2.2.2.1, .int .i64 d1.2.2.2.2.2] d1) :
  Calls Try.prog 6 #[.agg #[v0_0, v0_1, v0_2, .int .i64 d0.2.2.2.1, .int .i64 d0.2.2.2.2.1, .int .i64 d0.2.2.2.2.2], .agg #[v1_0, v1_1, v1_2, .int .i64 d1.2.2.2.1, .int .i64 d1.2.2.2.2.1, .int .i64 d1.2.2.2.2.2]] w (Fine w) := by
 obtain ⟨W, hW⟩ : ∃ W, W = (w.alloc (.cells #[v0_0, v0_1, v0_2, .int .i64 d0.2.2.2.1, .int .i64 d0.2.2.2.2.1, .int .i64 d0.2.2.2.2.2] 53)).alloc (.cells #[v1_0, v1_1, v1_2, .int .i64 d1.2.2.2.1, .int .i64 d1.2.2.2.2.1, .int .i64 d1.2.2.2.2.2] 53) := ⟨_, rfl⟩
 have rA0 : Row W (w.heap.size) 53 #[v0_0, v0_1, v0_2, .int .i64 d0.2.2.2.1, .int .i64 d0.2.2.2.2.1, .int .i64 d0.2.2.2.2.2] := by rw [hW]; have := (Row.new (w) 53 #[v0_0, v0_1, v0_2, .int .i64 d0.2.2.2.1, .int .i64 d0.2.2.2.2.1, .int .i64 d0.2.2.2.2.2]).alloc (.cells #[v1_0, v1_1, v1_2, .int .i64 d1.2.2.2.1, .int .i64 d1.2.2.2.2.1, .int .i64 d1.2.2.2.2.2] 53); simpa using this
 have rA1 : Row W (w.heap.size + 1) 53 #[v1_0, v1_1, v1_2, .int .i64 d1.2.2.2.1, .int .i64 d1.2.2.2.2.1, .int .i64 d1.2.2.2.2.2] := by rw [hW]; have := Row.new (w.alloc (.cells #[v0_0, v0_1, v0_2, .int .i64 d0.2.2.2.1, .int .i64 d0.2.2.2.2.1, .int .i64 d0.2.2.2.2.2] 53)) 53 #[v1_0, v1_1, v1_2, .int .i64 d1.2.2.2.1, .int .i64 d1.2.2.2.2.1, .int .i64 d1.2.2.2.2.2]; simpa using this
 have bW : Below w.heap.size w W := by rw [hW]; exact ((Below.refl w.heap.size w).alloc (by simp) (.cells #[v0_0, v0_1, v0_2, .int .i64 d0.2.2.2.1, .int .i64 d0.2.2.2.2.1, .int .i64 d0.2.2.2.2.2] 53)).alloc (by simp) (.cells #[v1_0, v1_1, v1_2, .int .i64 d1.2.2.2.1, .int .i64 d1.2.2.2.2.1, .int .i64 d1.2.2.2.2.2] 53)
 have zA0 := rA0.lt
 have zA1 := rA1.lt
 replace s0 := s0.next bW
 replace s1 := s1.next bW
 have HW := Lib.hid hW
 clear hW
 obtain ⟨t0, ht0⟩ : ∃ z, sz sPeak d0 = z := ⟨_, rfl⟩
 have HT0 := Lib.hid ht0
 clear ht0
 obtain ⟨t1, ht1⟩ : ∃ z, sz sPeak d1 = z := ⟨_, rfl⟩
 have HT1 := Lib.hid ht1
 clear ht1
 obtain ⟨v, hv⟩ : ∃ v, decide (d0.1 = d1.1 ∧ d0.2.1 = d1.2.1 ∧ d0.2.2.1 = d1.2.2.1 ∧ d0.2.2.2.1 = d1.2.2.2.1 ∧ d0.2.2.2.2.1 = d1.2.2.2.2.1 ∧ d0.2.2.2.2.2 = d1.2.2.2.2.2) = v := ⟨_, rfl⟩
 have HV := Lib.hid hv
 clear hv
 have ev : (v != v) = false := by simp
 go_enter Try.func6, Try.ntmps6
 go_wp2_with fail
 rw [← HW.out]
 clear HW
 have bel := Below.refl W.heap.size W
 have cA0_0 : W.cell? ⟨w.heap.size, 0, none⟩ = some (v0_0) := (rA0.next bel).cell 0
 have cA0_1 : W.cell? ⟨w.heap.size, 1, none⟩ = some (v0_1) := (rA0.next bel).cell 1
 have cA0_2 : W.cell? ⟨w.heap.size, 2, none⟩ = some (v0_2) := (rA0.next bel).cell 2
 have cA0_3 : W.cell? ⟨w.heap.size, 3, none⟩ = some (.int .i64 d0.2.2.2.1) := (rA0.next bel).cell 3
 have cA0_4 : W.cell? ⟨w.heap.size, 4, none⟩ = some (.int .i64 d0.2.2.2.2.1) := (rA0.next bel).cell 4
 have cA0_5 : W.cell? ⟨w.heap.size, 5, none⟩ = some (.int .i64 d0.2.2.2.2.2) := (rA0.next bel).cell 5
 have cA1_0 : W.cell? ⟨w.heap.size + 1, 0, none⟩ = some (v1_0) := (rA1.next bel).cell 0
 have cA1_1 : W.cell? ⟨w.heap.size + 1, 1, none⟩ = some (v1_1) := (rA1.next bel).cell 1
 have cA1_2 : W.cell? ⟨w.heap.size + 1, 2, none⟩ = some (v1_2) := (rA1.next bel).cell 2
 have cA1_3 : W.cell? ⟨w.heap.size + 1, 3, none⟩ = some (.int .i64 d1.2.2.2.1) := (rA1.next bel).cell 3
 have cA1_4 : W.cell? ⟨w.heap.size + 1, 4, none⟩ = some (.int .i64 d1.2.2.2.2.1) := (rA1.next bel).cell 4
 have cA1_5 : W.cell? ⟨w.heap.size + 1, 5, none⟩ = some (.int .i64 d1.2.2.2.2.2) := (rA1.next bel).cell 5
 refine (szK_Peak _ _ _ d0 (1048576) _ (s0.next bel) (by omega) (by omega)).mono ?_
 rintro e w1 ⟨he, bb⟩
 rw [HT0.out] at he
 replace bel := next_trans bel bb
 have zw1 := bb.size
 clear bb
 by_cases q0 : t0 ≤ 1048576
 case neg =>
  rw [if_pos (by omega)] at he
  subst he
  have F := Lib.hid (bW.trans (bel.mono bW.size))
  clear bel bW cA0_0 cA0_1 cA0_2 cA0_3 cA0_4 cA0_5 cA1_0 cA1_1 cA1_2 cA1_3 cA1_4 cA1_5
  go_wp2
  go_ret
  exact ⟨rfl, F.out⟩
 rw [if_neg (by omega)] at he
 subst he
 have h0 : Hid (sz sPeak d0 ≤ 1048576) := Lib.hid (by rw [HT0.out]; omega)
 clear cA0_0 cA0_1 cA0_2 cA0_3 cA0_4 cA0_5 cA1_0 cA1_1 cA1_2 cA1_3 cA1_4 cA1_5
 have cA0_0 : w1.cell? ⟨w.heap.size, 0, none⟩ = some (v0_0) := (rA0.next bel).cell 0
 have cA0_1 : w1.cell? ⟨w.heap.size, 1, none⟩ = some (v0_1) := (rA0.next bel).cell 1
 have cA0_2 : w1.cell? ⟨w.heap.size, 2, none⟩ = some (v0_2) := (rA0.next bel).cell 2
 have cA0_3 : w1.cell? ⟨w.heap.size, 3, none⟩ = some (.int .i64 d0.2.2.2.1) := (rA0.next bel).cell 3
 have cA0_4 : w1.cell? ⟨w.heap.size, 4, none⟩ = some (.int .i64 d0.2.2.2.2.1) := (rA0.next bel).cell 4
 have cA0_5 : w1.cell? ⟨w.heap.size, 5, none⟩ = some (.int .i64 d0.2.2.2.2.2) := (rA0.next bel).cell 5
 have cA1_0 : w1.cell? ⟨w.heap.size + 1, 0, none⟩ = some (v1_0) := (rA1.next bel).cell 0
 have cA1_1 : w1.cell? ⟨w.heap.size + 1, 1, none⟩ = some (v1_1) := (rA1.next bel).cell 1
 have cA1_2 : w1.cell? ⟨w.heap.size + 1, 2, none⟩ = some (v1_2) := (rA1.next bel).cell 2
 have cA1_3 : w1.cell? ⟨w.heap.size + 1, 3, none⟩ = some (.int .i64 d1.2.2.2.1) := (rA1.next bel).cell 3
 have cA1_4 : w1.cell? ⟨w.heap.size + 1, 4, none⟩ = some (.int .i64 d1.2.2.2.2.1) := (rA1.next bel).cell 4
 have cA1_5 : w1.cell? ⟨w.heap.size + 1, 5, none⟩ = some (.int .i64 d1.2.2.2.2.2) := (rA1.next bel).cell 5
 go_wp2_with fail
 refine (szK_Peak _ _ _ d1 (1048576 - (t0 : Int)) _ (s1.next bel) (by omega) (by omega)).mono ?_
 rintro e w2 ⟨he, bb⟩
 rw [HT1.out] at he
 replace bel := next_trans bel bb
 have zw2 := bb.size
 clear bb
 by_cases q1 : t0 + t1 ≤ 1048576
 case neg =>
  rw [if_pos (by omega)] at he
  subst he
  have F := Lib.hid (bW.trans (bel.mono bW.size))
  clear bel bW cA0_0 cA0_1 cA0_2 cA0_3 cA0_4 cA0_5 cA1_0 cA1_1 cA1_2 cA1_3 cA1_4 cA1_5
  go_wp2
  go_ret
  exact ⟨rfl, F.out⟩
 rw [if_neg (by omega)] at he
 subst he
 have h1 : Hid (sz sPeak d1 ≤ 1048576) := Lib.hid (by rw [HT1.out]; omega)
 clear cA0_0 cA0_1 cA0_2 cA0_3 cA0_4 cA0_5 cA1_0 cA1_1 cA1_2 cA1_3 cA1_4 cA1_5
 have cA0_0 : w2.cell? ⟨w.heap.size, 0, none⟩ = some (v0_0) := (rA0.next bel).cell 0
 have cA0_1 : w2.cell? ⟨w.heap.size, 1, none⟩ = some (v0_1) := (rA0.next bel).cell 1
 have cA0_2 : w2.cell? ⟨w.heap.size, 2, none⟩ = some (v0_2) := (rA0.next bel).cell 2
 have cA0_3 : w2.cell? ⟨w.heap.size, 3, none⟩ = some (.int .i64 d0.2.2.2.1) := (rA0.next bel).cell 3
 have cA0_4 : w2.cell? ⟨w.heap.size, 4, none⟩ = some (.int .i64 d0.2.2.2.2.1) := (rA0.next bel).cell 4
 have cA0_5 : w2.cell? ⟨w.heap.size, 5, none⟩ = some (.int .i64 d0.2.2.2.2.2) := (rA0.next bel).cell 5
 have cA1_0 : w2.cell? ⟨w.heap.size + 1, 0, none⟩ = some (v1_0) := (rA1.next bel).cell 0
 have cA1_1 : w2.cell? ⟨w.heap.size + 1, 1, none⟩ = some (v1_1) := (rA1.next bel).cell 1
 have cA1_2 : w2.cell? ⟨w.heap.size + 1, 2, none⟩ = some (v1_2) := (rA1.next bel).cell 2
 have cA1_3 : w2.cell? ⟨w.heap.size + 1, 3, none⟩ = some (.int .i64 d1.2.2.2.1) := (rA1.next bel).cell 3
 have cA1_4 : w2.cell? ⟨w.heap.size + 1, 4, none⟩ = some (.int .i64 d1.2.2.2.2.1) := (rA1.next bel).cell 4
 have cA1_5 : w2.cell? ⟨w.heap.size + 1, 5, none⟩ = some (.int .i64 d1.2.2.2.2.2) := (rA1.next bel).cell 5
 go_wp2_with fail
 replace bel := bel.drew
 have zdw2 := (drew_below w2).size
 go_region_held3 (fun w' => w'.cell? ⟨w.heap.size, 0, none⟩ = some (v0_0) ∧ w'.cell? ⟨w.heap.size, 1, none⟩ = some (v0_1) ∧ w'.cell? ⟨w.heap.size, 2, none⟩ = some (v0_2) ∧ w'.cell? ⟨w.heap.size, 3, none⟩ = some (.int .i64 d0.2.2.2.1) ∧ w'.cell? ⟨w.heap.size, 4, none⟩ = some (.int .i64 d0.2.2.2.2.1) ∧ w'.cell? ⟨w.heap.size, 5, none⟩ = some (.int .i64 d0.2.2.2.2.2) ∧ w'.cell? ⟨w.heap.size + 1, 0, none⟩ = some (v1_0) ∧ w'.cell? ⟨w.heap.size + 1, 1, none⟩ = some (v1_1) ∧ w'.cell? ⟨w.heap.size + 1, 2, none⟩ = some (v1_2) ∧ w'.cell? ⟨w.heap.size + 1, 3, none⟩ = some (.int .i64 d1.2.2.2.1) ∧ w'.cell? ⟨w.heap.size + 1, 4, none⟩ = some (.int .i64 d1.2.2.2.2.1) ∧ w'.cell? ⟨w.heap.size + 1, 5, none⟩ = some (.int .i64 d1.2.2.2.2.2))
  (go_keep)
  (first
   | (go_at_call_of 31 (Value.agg #[v0_0, v0_1, v0_2, .int .i64 d0.2.2.2.1, .int .i64 d0.2.2.2.2.1, .int .i64 d0.2.2.2.2.2]); refine (toK_Peak _ _ _ d0 _ (s0.next bel) h0.out).mono ?_; rintro e w3 ⟨p0A0, p0n0, p0c0, p0A1, p0n1, p0c1, p0A2, p0n2, p0c2, rfl, op0, bb⟩; replace bel := next_trans bel bb; have cA0_0w3 : w3.cell? ⟨w.heap.size, 0, none⟩ = some (v0_0) := (rA0.next bel).cell 0; have cA0_1w3 : w3.cell? ⟨w.heap.size, 1, none⟩ = some (v0_1) := (rA0.next bel).cell 1; have cA0_2w3 : w3.cell? ⟨w.heap.size, 2, none⟩ = some (v0_2) := (rA0.next bel).cell 2; have cA0_3w3 : w3.cell? ⟨w.heap.size, 3, none⟩ = some (.int .i64 d0.2.2.2.1) := (rA0.next bel).cell 3; have cA0_4w3 : w3.cell? ⟨w.heap.size, 4, none⟩ = some (.int .i64 d0.2.2.2.2.1) := (rA0.next bel).cell 4; have cA0_5w3 : w3.cell? ⟨w.heap.size, 5, none⟩ = some (.int .i64 d0.2.2.2.2.2) := (rA0.next bel).cell 5; have cA1_0w3 : w3.cell? ⟨w.heap.size + 1, 0, none⟩ = some (v1_0) := (rA1.next bel).cell 0; have cA1_1w3 : w3.cell? ⟨w.heap.size + 1, 1, none⟩ = some (v1_1) := (rA1.next bel).cell 1; have cA1_2w3 : w3.cell? ⟨w.heap.size + 1, 2, none⟩ = some (v1_2) := (rA1.next bel).cell 2; have cA1_3w3 : w3.cell? ⟨w.heap.size + 1, 3, none⟩ = some (.int .i64 d1.2.2.2.1) := (rA1.next bel).cell 3; have cA1_4w3 : w3.cell? ⟨w.heap.size + 1, 4, none⟩ = some (.int .i64 d1.2.2.2.2.1) := (rA1.next bel).cell 4; have cA1_5w3 : w3.cell? ⟨w.heap.size + 1, 5, none⟩ = some (.int .i64 d1.2.2.2.2.2) := (rA1.next bel).cell 5; have zqw3 := bb.size; clear bb)
   | (go_at_call_of 31 (Value.agg #[v1_0, v1_1, v1_2, .int .i64 d1.2.2.2.1, .int .i64 d1.2.2.2.2.1, .int .i64 d1.2.2.2.2.2]); refine (toK_Peak _ _ _ d1 _ (s1.next bel) h1.out).mono ?_; rintro e w4 ⟨p1A0, p1n0, p1c0, p1A1, p1n1, p1c1, p1A2, p1n2, p1c2, rfl, op1, bb⟩; replace op0 := op0.next bb; replace bel := next_trans bel bb; have cA0_0w4 : w4.cell? ⟨w.heap.size, 0, none⟩ = some (v0_0) := (rA0.next bel).cell 0; have cA0_1w4 : w4.cell? ⟨w.heap.size, 1, none⟩ = some (v0_1) := (rA0.next bel).cell 1; have cA0_2w4 : w4.cell? ⟨w.heap.size, 2, none⟩ = some (v0_2) := (rA0.next bel).cell 2; have cA0_3w4 : w4.cell? ⟨w.heap.size, 3, none⟩ = some (.int .i64 d0.2.2.2.1) := (rA0.next bel).cell 3; have cA0_4w4 : w4.cell? ⟨w.heap.size, 4, none⟩ = some (.int .i64 d0.2.2.2.2.1) := (rA0.next bel).cell 4; have cA0_5w4 : w4.cell? ⟨w.heap.size, 5, none⟩ = some (.int .i64 d0.2.2.2.2.2) := (rA0.next bel).cell 5; have cA1_0w4 : w4.cell? ⟨w.heap.size + 1, 0, none⟩ = some (v1_0) := (rA1.next bel).cell 0; have cA1_1w4 : w4.cell? ⟨w.heap.size + 1, 1, none⟩ = some (v1_1) := (rA1.next bel).cell 1; have cA1_2w4 : w4.cell? ⟨w.heap.size + 1, 2, none⟩ = some (v1_2) := (rA1.next bel).cell 2; have cA1_3w4 : w4.cell? ⟨w.heap.size + 1, 3, none⟩ = some (.int .i64 d1.2.2.2.1) := (rA1.next bel).cell 3; have cA1_4w4 : w4.cell? ⟨w.heap.size + 1, 4, none⟩ = some (.int .i64 d1.2.2.2.2.1) := (rA1.next bel).cell 4; have cA1_5w4 : w4.cell? ⟨w.heap.size + 1, 5, none⟩ = some (.int .i64 d1.2.2.2.2.2) := (rA1.next bel).cell 5; have zqw4 := bb.size; clear bb)
   | (go_at_call 30; refine (specSamePeak _ _ _ _ _ _ d0 d1 _ op0.rd op1.rd h0.out h1.out).mono ?_; rintro e w5 ⟨he, bb⟩; rw [HV.out] at he; subst he; replace bel := next_trans bel bb; have cA0_0w5 : w5.cell? ⟨w.heap.size, 0, none⟩ = some (v0_0) := (rA0.next bel).cell 0; have cA0_1w5 : w5.cell? ⟨w.heap.size, 1, none⟩ = some (v0_1) := (rA0.next bel).cell 1; have cA0_2w5 : w5.cell? ⟨w.heap.size, 2, none⟩ = some (v0_2) := (rA0.next bel).cell 2; have cA0_3w5 : w5.cell? ⟨w.heap.size, 3, none⟩ = some (.int .i64 d0.2.2.2.1) := (rA0.next bel).cell 3; have cA0_4w5 : w5.cell? ⟨w.heap.size, 4, none⟩ = some (.int .i64 d0.2.2.2.2.1) := (rA0.next bel).cell 4; have cA0_5w5 : w5.cell? ⟨w.heap.size, 5, none⟩ = some (.int .i64 d0.2.2.2.2.2) := (rA0.next bel).cell 5; have cA1_0w5 : w5.cell? ⟨w.heap.size + 1, 0, none⟩ = some (v1_0) := (rA1.next bel).cell 0; have cA1_1w5 : w5.cell? ⟨w.heap.size + 1, 1, none⟩ = some (v1_1) := (rA1.next bel).cell 1; have cA1_2w5 : w5.cell? ⟨w.heap.size + 1, 2, none⟩ = some (v1_2) := (rA1.next bel).cell 2; have cA1_3w5 : w5.cell? ⟨w.heap.size + 1, 3, none⟩ = some (.int .i64 d1.2.2.2.1) := (rA1.next bel).cell 3; have cA1_4w5 : w5.cell? ⟨w.heap.size + 1, 4, none⟩ = some (.int .i64 d1.2.2.2.2.1) := (rA1.next bel).cell 4; have cA1_5w5 : w5.cell? ⟨w.heap.size + 1, 5, none⟩ = some (.int .i64 d1.2.2.2.2.2) := (rA1.next bel).cell 5; have zqw5 := bb.size; clear bb op0 op1))
 clear cA0_0 cA0_1 cA0_2 cA0_3 cA0_4 cA0_5 cA1_0 cA1_1 cA1_2 cA1_3 cA1_4 cA1_5 cA0_0w5 cA0_1w5 cA0_2w5 cA0_3w5 cA0_4w5 cA0_5w5 cA1_0w5 cA1_1w5 cA1_2w5 cA1_3w5 cA1_4w5 cA1_5w5
 have cA0_0 : w5.cell? ⟨w.heap.size, 0, none⟩ = some (v0_0) := (rA0.next bel).cell 0
 have cA0_1 : w5.cell? ⟨w.heap.size, 1, none⟩ = some (v0_1) := (rA0.next bel).cell 1
 have cA0_2 : w5.cell? ⟨w.heap.size, 2, none⟩ = some (v0_2) := (rA0.next bel).cell 2
 have cA0_3 : w5.cell? ⟨w.heap.size, 3, none⟩ = some (.int .i64 d0.2.2.2.1) := (rA0.next bel).cell 3
 have cA0_4 : w5.cell? ⟨w.heap.size, 4, none⟩ = some (.int .i64 d0.2.2.2.2.1) := (rA0.next bel).cell 4
 have cA0_5 : w5.cell? ⟨w.heap.size, 5, none⟩ = some (.int .i64 d0.2.2.2.2.2) := (rA0.next bel).cell 5
 have cA1_0 : w5.cell? ⟨w.heap.size + 1, 0, none⟩ = some (v1_0) := (rA1.next bel).cell 0
 have cA1_1 : w5.cell? ⟨w.heap.size + 1, 1, none⟩ = some (v1_1) := (rA1.next bel).cell 1
 have cA1_2 : w5.cell? ⟨w.heap.size + 1, 2, none⟩ = some (v1_2) := (rA1.next bel).cell 2
 have cA1_3 : w5.cell? ⟨w.heap.size + 1, 3, none⟩ = some (.int .i64 d1.2.2.2.1) := (rA1.next bel).cell 3
 have cA1_4 : w5.cell? ⟨w.heap.size + 1, 4, none⟩ = some (.int .i64 d1.2.2.2.2.1) := (rA1.next bel).cell 4
 have cA1_5 : w5.cell? ⟨w.heap.size + 1, 5, none⟩ = some (.int .i64 d1.2.2.2.2.2) := (rA1.next bel).cell 5
 go_wp2_with fail
 refine (toK_Peak _ _ _ d0 _ (s0.next bel) h0.out).mono ?_
 rintro e w6 ⟨x0A0, x0n0, x0c0, x0A1, x0n1, x0c1, x0A2, x0n2, x0c2, rfl, ox0, bb⟩
 replace bel := next_trans bel bb
 have zw6 := bb.size
 clear bb
 clear cA0_0 cA0_1 cA0_2 cA0_3 cA0_4 cA0_5 cA1_0 cA1_1 cA1_2 cA1_3 cA1_4 cA1_5
 have cA0_0 : w6.cell? ⟨w.heap.size, 0, none⟩ = some (v0_0) := (rA0.next bel).cell 0
 have cA0_1 : w6.cell? ⟨w.heap.size, 1, none⟩ = some (v0_1) := (rA0.next bel).cell 1
 have cA0_2 : w6.cell? ⟨w.heap.size, 2, none⟩ = some (v0_2) := (rA0.next bel).cell 2
 have cA0_3 : w6.cell? ⟨w.heap.size, 3, none⟩ = some (.int .i64 d0.2.2.2.1) := (rA0.next bel).cell 3
 have cA0_4 : w6.cell? ⟨w.heap.size, 4, none⟩ = some (.int .i64 d0.2.2.2.2.1) := (rA0.next bel).cell 4
 have cA0_5 : w6.cell? ⟨w.heap.size, 5, none⟩ = some (.int .i64 d0.2.2.2.2.2) := (rA0.next bel).cell 5
 have cA1_0 : w6.cell? ⟨w.heap.size + 1, 0, none⟩ = some (v1_0) := (rA1.next bel).cell 0
 have cA1_1 : w6.cell? ⟨w.heap.size + 1, 1, none⟩ = some (v1_1) := (rA1.next bel).cell 1
 have cA1_2 : w6.cell? ⟨w.heap.size + 1, 2, none⟩ = some (v1_2) := (rA1.next bel).cell 2
 have cA1_3 : w6.cell? ⟨w.heap.size + 1, 3, none⟩ = some (.int .i64 d1.2.2.2.1) := (rA1.next bel).cell 3
 have cA1_4 : w6.cell? ⟨w.heap.size + 1, 4, none⟩ = some (.int .i64 d1.2.2.2.2.1) := (rA1.next bel).cell 4
 have cA1_5 : w6.cell? ⟨w.heap.size + 1, 5, none⟩ = some (.int .i64 d1.2.2.2.2.2) := (rA1.next bel).cell 5
 have dA0_0 : (w6.alloc (.cells #[.slice x0A0 x0n0 x0c0, .slice x0A1 x0n1 x0c1, .slice x0A2 x0n2 x0c2, .int .i64 d0.2.2.2.1, .int .i64 d0.2.2.2.2.1, .int .i64 d0.2.2.2.2.2] 41)).cell? ⟨w.heap.size, 0, none⟩ = some (v0_0) := ((rA0.next bel).alloc _).cell 0
 have dA0_1 : (w6.alloc (.cells #[.slice x0A0 x0n0 x0c0, .slice x0A1 x0n1 x0c1, .slice x0A2 x0n2 x0c2, .int .i64 d0.2.2.2.1, .int .i64 d0.2.2.2.2.1, .int .i64 d0.2.2.2.2.2] 41)).cell? ⟨w.heap.size, 1, none⟩ = some (v0_1) := ((rA0.next bel).alloc _).cell 1
 have dA0_2 : (w6.alloc (.cells #[.slice x0A0 x0n0 x0c0, .slice x0A1 x0n1 x0c1, .slice x0A2 x0n2 x0c2, .int .i64 d0.2.2.2.1, .int .i64 d0.2.2.2.2.1, .int .i64 d0.2.2.2.2.2] 41)).cell? ⟨w.heap.size, 2, none⟩ = some (v0_2) := ((rA0.next bel).alloc _).cell 2
 have dA0_3 : (w6.alloc (.cells #[.slice x0A0 x0n0 x0c0, .slice x0A1 x0n1 x0c1, .slice x0A2 x0n2 x0c2, .int .i64 d0.2.2.2.1, .int .i64 d0.2.2.2.2.1, .int .i64 d0.2.2.2.2.2] 41)).cell? ⟨w.heap.size, 3, none⟩ = some (.int .i64 d0.2.2.2.1) := ((rA0.next bel).alloc _).cell 3
 have dA0_4 : (w6.alloc (.cells #[.slice x0A0 x0n0 x0c0, .slice x0A1 x0n1 x0c1, .slice x0A2 x0n2 x0c2, .int .i64 d0.2.2.2.1, .int .i64 d0.2.2.2.2.1, .int .i64 d0.2.2.2.2.2] 41)).cell? ⟨w.heap.size, 4, none⟩ = some (.int .i64 d0.2.2.2.2.1) := ((rA0.next bel).alloc _).cell 4
 have dA0_5 : (w6.alloc (.cells #[.slice x0A0 x0n0 x0c0, .slice x0A1 x0n1 x0c1, .slice x0A2 x0n2 x0c2, .int .i64 d0.2.2.2.1, .int .i64 d0.2.2.2.2.1, .int .i64 d0.2.2.2.2.2] 41)).cell? ⟨w.heap.size, 5, none⟩ = some (.int .i64 d0.2.2.2.2.2) := ((rA0.next bel).alloc _).cell 5
 have dA1_0 : (w6.alloc (.cells #[.slice x0A0 x0n0 x0c0, .slice x0A1 x0n1 x0c1, .slice x0A2 x0n2 x0c2, .int .i64 d0.2.2.2.1, .int .i64 d0.2.2.2.2.1, .int .i64 d0.2.2.2.2.2] 41)).cell? ⟨w.heap.size + 1, 0, none⟩ = some (v1_0) := ((rA1.next bel).alloc _).cell 0
 have dA1_1 : (w6.alloc (.cells #[.slice x0A0 x0n0 x0c0, .slice x0A1 x0n1 x0c1, .slice x0A2 x0n2 x0c2, .int .i64 d0.2.2.2.1, .int .i64 d0.2.2.2.2.1, .int .i64 d0.2.2.2.2.2] 41)).cell? ⟨w.heap.size + 1, 1, none⟩ = some (v1_1) := ((rA1.next bel).alloc _).cell 1
 have dA1_2 : (w6.alloc (.cells #[.slice x0A0 x0n0 x0c0, .slice x0A1 x0n1 x0c1, .slice x0A2 x0n2 x0c2, .int .i64 d0.2.2.2.1, .int .i64 d0.2.2.2.2.1, .int .i64 d0.2.2.2.2.2] 41)).cell? ⟨w.heap.size + 1, 2, none⟩ = some (v1_2) := ((rA1.next bel).alloc _).cell 2
 have dA1_3 : (w6.alloc (.cells #[.slice x0A0 x0n0 x0c0, .slice x0A1 x0n1 x0c1, .slice x0A2 x0n2 x0c2, .int .i64 d0.2.2.2.1, .int .i64 d0.2.2.2.2.1, .int .i64 d0.2.2.2.2.2] 41)).cell? ⟨w.heap.size + 1, 3, none⟩ = some (.int .i64 d1.2.2.2.1) := ((rA1.next bel).alloc _).cell 3
 have dA1_4 : (w6.alloc (.cells #[.slice x0A0 x0n0 x0c0, .slice x0A1 x0n1 x0c1, .slice x0A2 x0n2 x0c2, .int .i64 d0.2.2.2.1, .int .i64 d0.2.2.2.2.1, .int .i64 d0.2.2.2.2.2] 41)).cell? ⟨w.heap.size + 1, 4, none⟩ = some (.int .i64 d1.2.2.2.2.1) := ((rA1.next bel).alloc _).cell 4
 have dA1_5 : (w6.alloc (.cells #[.slice x0A0 x0n0 x0c0, .slice x0A1 x0n1 x0c1, .slice x0A2 x0n2 x0c2, .int .i64 d0.2.2.2.1, .int .i64 d0.2.2.2.2.1, .int .i64 d0.2.2.2.2.2] 41)).cell? ⟨w.heap.size + 1, 5, none⟩ = some (.int .i64 d1.2.2.2.2.2) := ((rA1.next bel).alloc _).cell 5
 go_wp2_with fail
 obtain ⟨w7, hw⟩ : ∃ W, W = w6.alloc (.cells #[.slice x0A0 x0n0 x0c0, .slice x0A1 x0n1 x0c1, .slice x0A2 x0n2 x0c2, .int .i64 d0.2.2.2.1, .int .i64 d0.2.2.2.2.1, .int .i64 d0.2.2.2.2.2] 41) := ⟨_, rfl⟩
 rw [← hw]
 have rx0 : Row w7 w6.heap.size 41 #[.slice x0A0 x0n0 x0c0, .slice x0A1 x0n1 x0c1, .slice x0A2 x0n2 x0c2, .int .i64 d0.2.2.2.1, .int .i64 d0.2.2.2.2.1, .int .i64 d0.2.2.2.2.2] := by rw [hw]; exact Row.new _ _ _
 have bb : Below w6.heap.size w6 w7 := by rw [hw]; exact (Below.refl _ _).alloc (Nat.le_refl _) _
 have yrx0 : w6.heap.size < w7.heap.size := by rw [hw]; simp
 clear hw
 replace ox0 := ox0.next bb
 replace bel := next_trans bel bb
 have zw7 := bb.size
 clear bb
 clear dA0_0 dA0_1 dA0_2 dA0_3 dA0_4 dA0_5 dA1_0 dA1_1 dA1_2 dA1_3 dA1_4 dA1_5
 clear cA0_0 cA0_1 cA0_2 cA0_3 cA0_4 cA0_5 cA1_0 cA1_1 cA1_2 cA1_3 cA1_4 cA1_5
 have cA0_0 : w7.cell? ⟨w.heap.size, 0, none⟩ = some (v0_0) := (rA0.next bel).cell 0
 have cA0_1 : w7.cell? ⟨w.heap.size, 1, none⟩ = some (v0_1) := (rA0.next bel).cell 1
 have cA0_2 : w7.cell? ⟨w.heap.size, 2, none⟩ = some (v0_2) := (rA0.next bel).cell 2
 have cA0_3 : w7.cell? ⟨w.heap.size, 3, none⟩ = some (.int .i64 d0.2.2.2.1) := (rA0.next bel).cell 3
 have cA0_4 : w7.cell? ⟨w.heap.size, 4, none⟩ = some (.int .i64 d0.2.2.2.2.1) := (rA0.next bel).cell 4
 have cA0_5 : w7.cell? ⟨w.heap.size, 5, none⟩ = some (.int .i64 d0.2.2.2.2.2) := (rA0.next bel).cell 5
 have cA1_0 : w7.cell? ⟨w.heap.size + 1, 0, none⟩ = some (v1_0) := (rA1.next bel).cell 0
 have cA1_1 : w7.cell? ⟨w.heap.size + 1, 1, none⟩ = some (v1_1) := (rA1.next bel).cell 1
 have cA1_2 : w7.cell? ⟨w.heap.size + 1, 2, none⟩ = some (v1_2) := (rA1.next bel).cell 2
 have cA1_3 : w7.cell? ⟨w.heap.size + 1, 3, none⟩ = some (.int .i64 d1.2.2.2.1) := (rA1.next bel).cell 3
 have cA1_4 : w7.cell? ⟨w.heap.size + 1, 4, none⟩ = some (.int .i64 d1.2.2.2.2.1) := (rA1.next bel).cell 4
 have cA1_5 : w7.cell? ⟨w.heap.size + 1, 5, none⟩ = some (.int .i64 d1.2.2.2.2.2) := (rA1.next bel).cell 5
 have cx0_0 : w7.cell? ⟨w6.heap.size, 0, none⟩ = some (.slice x0A0 x0n0 x0c0) := (rx0).cell 0
 have cx0_1 : w7.cell? ⟨w6.heap.size, 1, none⟩ = some (.slice x0A1 x0n1 x0c1) := (rx0).cell 1
 have cx0_2 : w7.cell? ⟨w6.heap.size, 2, none⟩ = some (.slice x0A2 x0n2 x0c2) := (rx0).cell 2
 have cx0_3 : w7.cell? ⟨w6.heap.size, 3, none⟩ = some (.int .i64 d0.2.2.2.1) := (rx0).cell 3
 have cx0_4 : w7.cell? ⟨w6.heap.size, 4, none⟩ = some (.int .i64 d0.2.2.2.2.1) := (rx0).cell 4
 have cx0_5 : w7.cell? ⟨w6.heap.size, 5, none⟩ = some (.int .i64 d0.2.2.2.2.2) := (rx0).cell 5
 refine (toK_Peak _ _ _ d1 _ (s1.next bel) h1.out).mono ?_
 rintro e w8 ⟨x1A0, x1n0, x1c0, x1A1, x1n1, x1c1, x1A2, x1n2, x1c2, rfl, ox1, bb⟩
 replace ox0 := ox0.next bb
 replace rx0 := rx0.next bb
 replace bel := next_trans bel bb
 have zw8 := bb.size
 clear bb
 clear cA0_0 cA0_1 cA0_2 cA0_3 cA0_4 cA0_5 cA1_0 cA1_1 cA1_2 cA1_3 cA1_4 cA1_5 cx0_0 cx0_1 cx0_2 cx0_3 cx0_4 cx0_5
 have cA0_0 : w8.cell? ⟨w.heap.size, 0, none⟩ = some (v0_0) := (rA0.next bel).cell 0
 have cA0_1 : w8.cell? ⟨w.heap.size, 1, none⟩ = some (v0_1) := (rA0.next bel).cell 1
 have cA0_2 : w8.cell? ⟨w.heap.size, 2, none⟩ = some (v0_2) := (rA0.next bel).cell 2
 have cA0_3 : w8.cell? ⟨w.heap.size, 3, none⟩ = some (.int .i64 d0.2.2.2.1) := (rA0.next bel).cell 3
 have cA0_4 : w8.cell? ⟨w.heap.size, 4, none⟩ = some (.int .i64 d0.2.2.2.2.1) := (rA0.next bel).cell 4
 have cA0_5 : w8.cell? ⟨w.heap.size, 5, none⟩ = some (.int .i64 d0.2.2.2.2.2) := (rA0.next bel).cell 5
 have cA1_0 : w8.cell? ⟨w.heap.size + 1, 0, none⟩ = some (v1_0) := (rA1.next bel).cell 0
 have cA1_1 : w8.cell? ⟨w.heap.size + 1, 1, none⟩ = some (v1_1) := (rA1.next bel).cell 1
 have cA1_2 : w8.cell? ⟨w.heap.size + 1, 2, none⟩ = some (v1_2) := (rA1.next bel).cell 2
 have cA1_3 : w8.cell? ⟨w.heap.size + 1, 3, none⟩ = some (.int .i64 d1.2.2.2.1) := (rA1.next bel).cell 3
 have cA1_4 : w8.cell? ⟨w.heap.size + 1, 4, none⟩ = some (.int .i64 d1.2.2.2.2.1) := (rA1.next bel).cell 4
 have cA1_5 : w8.cell? ⟨w.heap.size + 1, 5, none⟩ = some (.int .i64 d1.2.2.2.2.2) := (rA1.next bel).cell 5
 have cx0_0 : w8.cell? ⟨w6.heap.size, 0, none⟩ = some (.slice x0A0 x0n0 x0c0) := (rx0).cell 0
 have cx0_1 : w8.cell? ⟨w6.heap.size, 1, none⟩ = some (.slice x0A1 x0n1 x0c1) := (rx0).cell 1
 have cx0_2 : w8.cell? ⟨w6.heap.size, 2, none⟩ = some (.slice x0A2 x0n2 x0c2) := (rx0).cell 2
 have cx0_3 : w8.cell? ⟨w6.heap.size, 3, none⟩ = some (.int .i64 d0.2.2.2.1) := (rx0).cell 3
 have cx0_4 : w8.cell? ⟨w6.heap.size, 4, none⟩ = some (.int .i64 d0.2.2.2.2.1) := (rx0).cell 4
 have cx0_5 : w8.cell? ⟨w6.heap.size, 5, none⟩ = some (.int .i64 d0.2.2.2.2.2) := (rx0).cell 5
 have dA0_0 : (w8.alloc (.cells #[.slice x1A0 x1n0 x1c0, .slice x1A1 x1n1 x1c1, .slice x1A2 x1n2 x1c2, .int .i64 d1.2.2.2.1, .int .i64 d1.2.2.2.2.1, .int .i64 d1.2.2.2.2.2] 41)).cell? ⟨w.heap.size, 0, none⟩ = some (v0_0) := ((rA0.next bel).alloc _).cell 0
 have dA0_1 : (w8.alloc (.cells #[.slice x1A0 x1n0 x1c0, .slice x1A1 x1n1 x1c1, .slice x1A2 x1n2 x1c2, .int .i64 d1.2.2.2.1, .int .i64 d1.2.2.2.2.1, .int .i64 d1.2.2.2.2.2] 41)).cell? ⟨w.heap.size, 1, none⟩ = some (v0_1) := ((rA0.next bel).alloc _).cell 1
 have dA0_2 : (w8.alloc (.cells #[.slice x1A0 x1n0 x1c0, .slice x1A1 x1n1 x1c1, .slice x1A2 x1n2 x1c2, .int .i64 d1.2.2.2.1, .int .i64 d1.2.2.2.2.1, .int .i64 d1.2.2.2.2.2] 41)).cell? ⟨w.heap.size, 2, none⟩ = some (v0_2) := ((rA0.next bel).alloc _).cell 2
 have dA0_3 : (w8.alloc (.cells #[.slice x1A0 x1n0 x1c0, .slice x1A1 x1n1 x1c1, .slice x1A2 x1n2 x1c2, .int .i64 d1.2.2.2.1, .int .i64 d1.2.2.2.2.1, .int .i64 d1.2.2.2.2.2] 41)).cell? ⟨w.heap.size, 3, none⟩ = some (.int .i64 d0.2.2.2.1) := ((rA0.next bel).alloc _).cell 3
 have dA0_4 : (w8.alloc (.cells #[.slice x1A0 x1n0 x1c0, .slice x1A1 x1n1 x1c1, .slice x1A2 x1n2 x1c2, .int .i64 d1.2.2.2.1, .int .i64 d1.2.2.2.2.1, .int .i64 d1.2.2.2.2.2] 41)).cell? ⟨w.heap.size, 4, none⟩ = some (.int .i64 d0.2.2.2.2.1) := ((rA0.next bel).alloc _).cell 4
 have dA0_5 : (w8.alloc (.cells #[.slice x1A0 x1n0 x1c0, .slice x1A1 x1n1 x1c1, .slice x1A2 x1n2 x1c2, .int .i64 d1.2.2.2.1, .int .i64 d1.2.2.2.2.1, .int .i64 d1.2.2.2.2.2] 41)).cell? ⟨w.heap.size, 5, none⟩ = some (.int .i64 d0.2.2.2.2.2) := ((rA0.next bel).alloc _).cell 5
 have dA1_0 : (w8.alloc (.cells #[.slice x1A0 x1n0 x1c0, .slice x1A1 x1n1 x1c1, .slice x1A2 x1n2 x1c2, .int .i64 d1.2.2.2.1, .int .i64 d1.2.2.2.2.1, .int .i64 d1.2.2.2.2.2] 41)).cell? ⟨w.heap.size + 1, 0, none⟩ = some (v1_0) := ((rA1.next bel).alloc _).cell 0
 have dA1_1 : (w8.alloc (.cells #[.slice x1A0 x1n0 x1c0, .slice x1A1 x1n1 x1c1, .slice x1A2 x1n2 x1c2, .int .i64 d1.2.2.2.1, .int .i64 d1.2.2.2.2.1, .int .i64 d1.2.2.2.2.2] 41)).cell? ⟨w.heap.size + 1, 1, none⟩ = some (v1_1) := ((rA1.next bel).alloc _).cell 1
 have dA1_2 : (w8.alloc (.cells #[.slice x1A0 x1n0 x1c0, .slice x1A1 x1n1 x1c1, .slice x1A2 x1n2 x1c2, .int .i64 d1.2.2.2.1, .int .i64 d1.2.2.2.2.1, .int .i64 d1.2.2.2.2.2] 41)).cell? ⟨w.heap.size + 1, 2, none⟩ = some (v1_2) := ((rA1.next bel).alloc _).cell 2
 have dA1_3 : (w8.alloc (.cells #[.slice x1A0 x1n0 x1c0, .slice x1A1 x1n1 x1c1, .slice x1A2 x1n2 x1c2, .int .i64 d1.2.2.2.1, .int .i64 d1.2.2.2.2.1, .int .i64 d1.2.2.2.2.2] 41)).cell? ⟨w.heap.size + 1, 3, none⟩ = some (.int .i64 d1.2.2.2.1) := ((rA1.next bel).alloc _).cell 3
 have dA1_4 : (w8.alloc (.cells #[.slice x1A0 x1n0 x1c0, .slice x1A1 x1n1 x1c1, .slice x1A2 x1n2 x1c2, .int .i64 d1.2.2.2.1, .int .i64 d1.2.2.2.2.1, .int .i64 d1.2.2.2.2.2] 41)).cell? ⟨w.heap.size + 1, 4, none⟩ = some (.int .i64 d1.2.2.2.2.1) := ((rA1.next bel).alloc _).cell 4
 have dA1_5 : (w8.alloc (.cells #[.slice x1A0 x1n0 x1c0, .slice x1A1 x1n1 x1c1, .slice x1A2 x1n2 x1c2, .int .i64 d1.2.2.2.1, .int .i64 d1.2.2.2.2.1, .int .i64 d1.2.2.2.2.2] 41)).cell? ⟨w.heap.size + 1, 5, none⟩ = some (.int .i64 d1.2.2.2.2.2) := ((rA1.next bel).alloc _).cell 5
 have dx0_0 : (w8.alloc (.cells #[.slice x1A0 x1n0 x1c0, .slice x1A1 x1n1 x1c1, .slice x1A2 x1n2 x1c2, .int .i64 d1.2.2.2.1, .int .i64 d1.2.2.2.2.1, .int .i64 d1.2.2.2.2.2] 41)).cell? ⟨w6.heap.size, 0, none⟩ = some (.slice x0A0 x0n0 x0c0) := ((rx0).alloc _).cell 0
 have dx0_1 : (w8.alloc (.cells #[.slice x1A0 x1n0 x1c0, .slice x1A1 x1n1 x1c1, .slice x1A2 x1n2 x1c2, .int .i64 d1.2.2.2.1, .int .i64 d1.2.2.2.2.1, .int .i64 d1.2.2.2.2.2] 41)).cell? ⟨w6.heap.size, 1, none⟩ = some (.slice x0A1 x0n1 x0c1) := ((rx0).alloc _).cell 1
 have dx0_2 : (w8.alloc (.cells #[.slice x1A0 x1n0 x1c0, .slice x1A1 x1n1 x1c1, .slice x1A2 x1n2 x1c2, .int .i64 d1.2.2.2.1, .int .i64 d1.2.2.2.2.1, .int .i64 d1.2.2.2.2.2] 41)).cell? ⟨w6.heap.size, 2, none⟩ = some (.slice x0A2 x0n2 x0c2) := ((rx0).alloc _).cell 2
 have dx0_3 : (w8.alloc (.cells #[.slice x1A0 x1n0 x1c0, .slice x1A1 x1n1 x1c1, .slice x1A2 x1n2 x1c2, .int .i64 d1.2.2.2.1, .int .i64 d1.2.2.2.2.1, .int .i64 d1.2.2.2.2.2] 41)).cell? ⟨w6.heap.size, 3, none⟩ = some (.int .i64 d0.2.2.2.1) := ((rx0).alloc _).cell 3
 have dx0_4 : (w8.alloc (.cells #[.slice x1A0 x1n0 x1c0, .slice x1A1 x1n1 x1c1, .slice x1A2 x1n2 x1c2, .int .i64 d1.2.2.2.1, .int .i64 d1.2.2.2.2.1, .int .i64 d1.2.2.2.2.2] 41)).cell? ⟨w6.heap.size, 4, none⟩ = some (.int .i64 d0.2.2.2.2.1) := ((rx0).alloc _).cell 4
 have dx0_5 : (w8.alloc (.cells #[.slice x1A0 x1n0 x1c0, .slice x1A1 x1n1 x1c1, .slice x1A2 x1n2 x1c2, .int .i64 d1.2.2.2.1, .int .i64 d1.2.2.2.2.1, .int .i64 d1.2.2.2.2.2] 41)).cell? ⟨w6.heap.size, 5, none⟩ = some (.int .i64 d0.2.2.2.2.2) := ((rx0).alloc _).cell 5
 go_wp2_with fail
 obtain ⟨w9, hw⟩ : ∃ W, W = w8.alloc (.cells #[.slice x1A0 x1n0 x1c0, .slice x1A1 x1n1 x1c1, .slice x1A2 x1n2 x1c2, .int .i64 d1.2.2.2.1, .int .i64 d1.2.2.2.2.1, .int .i64 d1.2.2.2.2.2] 41) := ⟨_, rfl⟩
 rw [← hw]
 have rx1 : Row w9 w8.heap.size 41 #[.slice x1A0 x1n0 x1c0, .slice x1A1 x1n1 x1c1, .slice x1A2 x1n2 x1c2, .int .i64 d1.2.2.2.1, .int .i64 d1.2.2.2.2.1, .int .i64 d1.2.2.2.2.2] := by rw [hw]; exact Row.new _ _ _
 have bb : Below w8.heap.size w8 w9 := by rw [hw]; exact (Below.refl _ _).alloc (Nat.le_refl _) _
 have yrx1 : w8.heap.size < w9.heap.size := by rw [hw]; simp
 clear hw
 replace ox0 := ox0.next bb
 replace rx0 := rx0.next bb
 replace ox1 := ox1.next bb
 replace bel := next_trans bel bb
 have zw9 := bb.size
 clear bb
 clear dA0_0 dA0_1 dA0_2 dA0_3 dA0_4 dA0_5 dA1_0 dA1_1 dA1_2 dA1_3 dA1_4 dA1_5 dx0_0 dx0_1 dx0_2 dx0_3 dx0_4 dx0_5
 clear cA0_0 cA0_1 cA0_2 cA0_3 cA0_4 cA0_5 cA1_0 cA1_1 cA1_2 cA1_3 cA1_4 cA1_5 cx0_0 cx0_1 cx0_2 cx0_3 cx0_4 cx0_5
 have cA0_0 : w9.cell? ⟨w.heap.size, 0, none⟩ = some (v0_0) := (rA0.next bel).cell 0
 have cA0_1 : w9.cell? ⟨w.heap.size, 1, none⟩ = some (v0_1) := (rA0.next bel).cell 1
 have cA0_2 : w9.cell? ⟨w.heap.size, 2, none⟩ = some (v0_2) := (rA0.next bel).cell 2
 have cA0_3 : w9.cell? ⟨w.heap.size, 3, none⟩ = some (.int .i64 d0.2.2.2.1) := (rA0.next bel).cell 3
 have cA0_4 : w9.cell? ⟨w.heap.size, 4, none⟩ = some (.int .i64 d0.2.2.2.2.1) := (rA0.next bel).cell 4
 have cA0_5 : w9.cell? ⟨w.heap.size, 5, none⟩ = some (.int .i64 d0.2.2.2.2.2) := (rA0.next bel).cell 5
 have cA1_0 : w9.cell? ⟨w.heap.size + 1, 0, none⟩ = some (v1_0) := (rA1.next bel).cell 0
 have cA1_1 : w9.cell? ⟨w.heap.size + 1, 1, none⟩ = some (v1_1) := (rA1.next bel).cell 1
 have cA1_2 : w9.cell? ⟨w.heap.size + 1, 2, none⟩ = some (v1_2) := (rA1.next bel).cell 2
 have cA1_3 : w9.cell? ⟨w.heap.size + 1, 3, none⟩ = some (.int .i64 d1.2.2.2.1) := (rA1.next bel).cell 3
 have cA1_4 : w9.cell? ⟨w.heap.size + 1, 4, none⟩ = some (.int .i64 d1.2.2.2.2.1) := (rA1.next bel).cell 4
 have cA1_5 : w9.cell? ⟨w.heap.size + 1, 5, none⟩ = some (.int .i64 d1.2.2.2.2.2) := (rA1.next bel).cell 5
 have cx0_0 : w9.cell? ⟨w6.heap.size, 0, none⟩ = some (.slice x0A0 x0n0 x0c0) := (rx0).cell 0
 have cx0_1 : w9.cell? ⟨w6.heap.size, 1, none⟩ = some (.slice x0A1 x0n1 x0c1) := (rx0).cell 1
 have cx0_2 : w9.cell? ⟨w6.heap.size, 2, none⟩ = some (.slice x0A2 x0n2 x0c2) := (rx0).cell 2
 have cx0_3 : w9.cell? ⟨w6.heap.size, 3, none⟩ = some (.int .i64 d0.2.2.2.1) := (rx0).cell 3
 have cx0_4 : w9.cell? ⟨w6.heap.size, 4, none⟩ = some (.int .i64 d0.2.2.2.2.1) := (rx0).cell 4
 have cx0_5 : w9.cell? ⟨w6.heap.size, 5, none⟩ = some (.int .i64 d0.2.2.2.2.2) := (rx0).cell 5
 have cx1_0 : w9.cell? ⟨w8.heap.size, 0, none⟩ = some (.slice x1A0 x1n0 x1c0) := (rx1).cell 0
 have cx1_1 : w9.cell? ⟨w8.heap.size, 1, none⟩ = some (.slice x1A1 x1n1 x1c1) := (rx1).cell 1
 have cx1_2 : w9.cell? ⟨w8.heap.size, 2, none⟩ = some (.slice x1A2 x1n2 x1c2) := (rx1).cell 2
 have cx1_3 : w9.cell? ⟨w8.heap.size, 3, none⟩ = some (.int .i64 d1.2.2.2.1) := (rx1).cell 3
 have cx1_4 : w9.cell? ⟨w8.heap.size, 4, none⟩ = some (.int .i64 d1.2.2.2.2.1) := (rx1).cell 4
 have cx1_5 : w9.cell? ⟨w8.heap.size, 5, none⟩ = some (.int .i64 d1.2.2.2.2.2) := (rx1).cell 5
 refine (implSamePeak _ _ _ _ _ _ d0 d1 _ ox0.rd ox1.rd h0.out h1.out).mono ?_
 rintro e w10 ⟨he, bb⟩
 rw [HV.out] at he
 subst he
 replace ox0 := ox0.next bb
 replace rx0 := rx0.next bb
 replace ox1 := ox1.next bb
 replace rx1 := rx1.next bb
 replace bel := next_trans bel bb
 have zw10 := bb.size
 clear bb
 clear cA0_0 cA0_1 cA0_2 cA0_3 cA0_4 cA0_5 cA1_0 cA1_1 cA1_2 cA1_3 cA1_4 cA1_5 cx0_0 cx0_1 cx0_2 cx0_3 cx0_4 cx0_5 cx1_0 cx1_1 cx1_2 cx1_3 cx1_4 cx1_5
 have cA0_0 : w10.cell? ⟨w.heap.size, 0, none⟩ = some (v0_0) := (rA0.next bel).cell 0
 have cA0_1 : w10.cell? ⟨w.heap.size, 1, none⟩ = some (v0_1) := (rA0.next bel).cell 1
 have cA0_2 : w10.cell? ⟨w.heap.size, 2, none⟩ = some (v0_2) := (rA0.next bel).cell 2
 have cA0_3 : w10.cell? ⟨w.heap.size, 3, none⟩ = some (.int .i64 d0.2.2.2.1) := (rA0.next bel).cell 3
 have cA0_4 : w10.cell? ⟨w.heap.size, 4, none⟩ = some (.int .i64 d0.2.2.2.2.1) := (rA0.next bel).cell 4
 have cA0_5 : w10.cell? ⟨w.heap.size, 5, none⟩ = some (.int .i64 d0.2.2.2.2.2) := (rA0.next bel).cell 5
 have cA1_0 : w10.cell? ⟨w.heap.size + 1, 0, none⟩ = some (v1_0) := (rA1.next bel).cell 0
 have cA1_1 : w10.cell? ⟨w.heap.size + 1, 1, none⟩ = some (v1_1) := (rA1.next bel).cell 1
 have cA1_2 : w10.cell? ⟨w.heap.size + 1, 2, none⟩ = some (v1_2) := (rA1.next bel).cell 2
 have cA1_3 : w10.cell? ⟨w.heap.size + 1, 3, none⟩ = some (.int .i64 d1.2.2.2.1) := (rA1.next bel).cell 3
 have cA1_4 : w10.cell? ⟨w.heap.size + 1, 4, none⟩ = some (.int .i64 d1.2.2.2.2.1) := (rA1.next bel).cell 4
 have cA1_5 : w10.cell? ⟨w.heap.size + 1, 5, none⟩ = some (.int .i64 d1.2.2.2.2.2) := (rA1.next bel).cell 5
 have cx0_0 : w10.cell? ⟨w6.heap.size, 0, none⟩ = some (.slice x0A0 x0n0 x0c0) := (rx0).cell 0
 have cx0_1 : w10.cell? ⟨w6.heap.size, 1, none⟩ = some (.slice x0A1 x0n1 x0c1) := (rx0).cell 1
 have cx0_2 : w10.cell? ⟨w6.heap.size, 2, none⟩ = some (.slice x0A2 x0n2 x0c2) := (rx0).cell 2
 have cx0_3 : w10.cell? ⟨w6.heap.size, 3, none⟩ = some (.int .i64 d0.2.2.2.1) := (rx0).cell 3
 have cx0_4 : w10.cell? ⟨w6.heap.size, 4, none⟩ = some (.int .i64 d0.2.2.2.2.1) := (rx0).cell 4
 have cx0_5 : w10.cell? ⟨w6.heap.size, 5, none⟩ = some (.int .i64 d0.2.2.2.2.2) := (rx0).cell 5
 have cx1_0 : w10.cell? ⟨w8.heap.size, 0, none⟩ = some (.slice x1A0 x1n0 x1c0) := (rx1).cell 0
 have cx1_1 : w10.cell? ⟨w8.heap.size, 1, none⟩ = some (.slice x1A1 x1n1 x1c1) := (rx1).cell 1
 have cx1_2 : w10.cell? ⟨w8.heap.size, 2, none⟩ = some (.slice x1A2 x1n2 x1c2) := (rx1).cell 2
 have cx1_3 : w10.cell? ⟨w8.heap.size, 3, none⟩ = some (.int .i64 d1.2.2.2.1) := (rx1).cell 3
 have cx1_4 : w10.cell? ⟨w8.heap.size, 4, none⟩ = some (.int .i64 d1.2.2.2.2.1) := (rx1).cell 4
 have cx1_5 : w10.cell? ⟨w8.heap.size, 5, none⟩ = some (.int .i64 d1.2.2.2.2.2) := (rx1).cell 5
 go_wp2_with fail
 replace ox0 := ox0.drew
 replace rx0 := rx0.drew
 replace ox1 := ox1.drew
 replace rx1 := rx1.drew
 replace bel := bel.drew
 have zdw10 := (drew_below w10).size
 go_region_held3 (fun w' => w'.cell? ⟨w6.heap.size, 0, none⟩ = some (.slice x0A0 x0n0 x0c0) ∧ w'.cell? ⟨w6.heap.size, 1, none⟩ = some (.slice x0A1 x0n1 x0c1) ∧ w'.cell? ⟨w6.heap.size, 2, none⟩ = some (.slice x0A2 x0n2 x0c2) ∧ w'.cell? ⟨w6.heap.size, 3, none⟩ = some (.int .i64 d0.2.2.2.1) ∧ w'.cell? ⟨w6.heap.size, 4, none⟩ = some (.int .i64 d0.2.2.2.2.1) ∧ w'.cell? ⟨w6.heap.size, 5, none⟩ = some (.int .i64 d0.2.2.2.2.2) ∧ w'.cell? ⟨w.heap.size, 0, none⟩ = some (v0_0) ∧ w'.cell? ⟨w.heap.size, 1, none⟩ = some (v0_1) ∧ w'.cell? ⟨w.heap.size, 2, none⟩ = some (v0_2) ∧ w'.cell? ⟨w.heap.size, 3, none⟩ = some (.int .i64 d0.2.2.2.1) ∧ w'.cell? ⟨w.heap.size, 4, none⟩ = some (.int .i64 d0.2.2.2.2.1) ∧ w'.cell? ⟨w.heap.size, 5, none⟩ = some (.int .i64 d0.2.2.2.2.2))
  (go_keep)
  (first
   | (go_at_call 31; refine (toK_Peak _ _ _ d0 _ (s0.next bel) h0.out).mono ?_; rintro e w11 ⟨t0A0, t0n0, t0c0, t0A1, t0n1, t0c1, t0A2, t0n2, t0c2, rfl, ot, bb⟩; replace ox0 := ox0.next bb; replace rx0 := rx0.next bb; replace ox1 := ox1.next bb; replace rx1 := rx1.next bb; replace bel := next_trans bel bb; have k0_0w11 : w11.cell? ⟨w.heap.size, 0, none⟩ = some (v0_0) := (rA0.next bel).cell 0; have k0_1w11 : w11.cell? ⟨w.heap.size, 1, none⟩ = some (v0_1) := (rA0.next bel).cell 1; have k0_2w11 : w11.cell? ⟨w.heap.size, 2, none⟩ = some (v0_2) := (rA0.next bel).cell 2; have k0_3w11 : w11.cell? ⟨w.heap.size, 3, none⟩ = some (.int .i64 d0.2.2.2.1) := (rA0.next bel).cell 3; have k0_4w11 : w11.cell? ⟨w.heap.size, 4, none⟩ = some (.int .i64 d0.2.2.2.2.1) := (rA0.next bel).cell 4; have k0_5w11 : w11.cell? ⟨w.heap.size, 5, none⟩ = some (.int .i64 d0.2.2.2.2.2) := (rA0.next bel).cell 5; have l0_0w11 : w11.cell? ⟨w6.heap.size, 0, none⟩ = some (.slice x0A0 x0n0 x0c0) := rx0.cell 0; have l0_1w11 : w11.cell? ⟨w6.heap.size, 1, none⟩ = some (.slice x0A1 x0n1 x0c1) := rx0.cell 1; have l0_2w11 : w11.cell? ⟨w6.heap.size, 2, none⟩ = some (.slice x0A2 x0n2 x0c2) := rx0.cell 2; have l0_3w11 : w11.cell? ⟨w6.heap.size, 3, none⟩ = some (.int .i64 d0.2.2.2.1) := rx0.cell 3; have l0_4w11 : w11.cell? ⟨w6.heap.size, 4, none⟩ = some (.int .i64 d0.2.2.2.2.1) := rx0.cell 4; have l0_5w11 : w11.cell? ⟨w6.heap.size, 5, none⟩ = some (.int .i64 d0.2.2.2.2.2) := rx0.cell 5; have zqw11 := bb.size; clear bb)
   | (go_at_call 21; refine (eqK_Peak _ _ _ _ _ _ d0 _ ox0.rd ot.rd h0.out).mono ?_; rintro e w12 ⟨rfl, bb⟩; replace ox0 := ox0.next bb; replace rx0 := rx0.next bb; replace ox1 := ox1.next bb; replace rx1 := rx1.next bb; replace bel := next_trans bel bb; have k0_0w12 : w12.cell? ⟨w.heap.size, 0, none⟩ = some (v0_0) := (rA0.next bel).cell 0; have k0_1w12 : w12.cell? ⟨w.heap.size, 1, none⟩ = some (v0_1) := (rA0.next bel).cell 1; have k0_2w12 : w12.cell? ⟨w.heap.size, 2, none⟩ = some (v0_2) := (rA0.next bel).cell 2; have k0_3w12 : w12.cell? ⟨w.heap.size, 3, none⟩ = some (.int .i64 d0.2.2.2.1) := (rA0.next bel).cell 3; have k0_4w12 : w12.cell? ⟨w.heap.size, 4, none⟩ = some (.int .i64 d0.2.2.2.2.1) := (rA0.next bel).cell 4; have k0_5w12 : w12.cell? ⟨w.heap.size, 5, none⟩ = some (.int .i64 d0.2.2.2.2.2) := (rA0.next bel).cell 5; have l0_0w12 : w12.cell? ⟨w6.heap.size, 0, none⟩ = some (.slice x0A0 x0n0 x0c0) := rx0.cell 0; have l0_1w12 : w12.cell? ⟨w6.heap.size, 1, none⟩ = some (.slice x0A1 x0n1 x0c1) := rx0.cell 1; have l0_2w12 : w12.cell? ⟨w6.heap.size, 2, none⟩ = some (.slice x0A2 x0n2 x0c2) := rx0.cell 2; have l0_3w12 : w12.cell? ⟨w6.heap.size, 3, none⟩ = some (.int .i64 d0.2.2.2.1) := rx0.cell 3; have l0_4w12 : w12.cell? ⟨w6.heap.size, 4, none⟩ = some (.int .i64 d0.2.2.2.2.1) := rx0.cell 4; have l0_5w12 : w12.cell? ⟨w6.heap.size, 5, none⟩ = some (.int .i64 d0.2.2.2.2.2) := rx0.cell 5; have zqw12 := bb.size; clear bb ot))
 clear k0_0w11 l0_0w11 k0_1w11 l0_1w11 k0_2w11 l0_2w11 k0_3w11 l0_3w11 k0_4w11 l0_4w11 k0_5w11 l0_5w11 k0_0w12 l0_0w12 k0_1w12 l0_1w12 k0_2w12 l0_2w12 k0_3w12 l0_3w12 k0_4w12 l0_4w12 k0_5w12 l0_5w12
 clear ox0 rx0
 clear cA0_0 cA0_1 cA0_2 cA0_3 cA0_4 cA0_5 cA1_0 cA1_1 cA1_2 cA1_3 cA1_4 cA1_5 cx0_0 cx0_1 cx0_2 cx0_3 cx0_4 cx0_5 cx1_0 cx1_1 cx1_2 cx1_3 cx1_4 cx1_5
 have cA0_0 : w12.cell? ⟨w.heap.size, 0, none⟩ = some (v0_0) := (rA0.next bel).cell 0
 have cA0_1 : w12.cell? ⟨w.heap.size, 1, none⟩ = some (v0_1) := (rA0.next bel).cell 1
 have cA0_2 : w12.cell? ⟨w.heap.size, 2, none⟩ = some (v0_2) := (rA0.next bel).cell 2
 have cA0_3 : w12.cell? ⟨w.heap.size, 3, none⟩ = some (.int .i64 d0.2.2.2.1) := (rA0.next bel).cell 3
 have cA0_4 : w12.cell? ⟨w.heap.size, 4, none⟩ = some (.int .i64 d0.2.2.2.2.1) := (rA0.next bel).cell 4
 have cA0_5 : w12.cell? ⟨w.heap.size, 5, none⟩ = some (.int .i64 d0.2.2.2.2.2) := (rA0.next bel).cell 5
 have cA1_0 : w12.cell? ⟨w.heap.size + 1, 0, none⟩ = some (v1_0) := (rA1.next bel).cell 0
 have cA1_1 : w12.cell? ⟨w.heap.size + 1, 1, none⟩ = some (v1_1) := (rA1.next bel).cell 1
 have cA1_2 : w12.cell? ⟨w.heap.size + 1, 2, none⟩ = some (v1_2) := (rA1.next bel).cell 2
 have cA1_3 : w12.cell? ⟨w.heap.size + 1, 3, none⟩ = some (.int .i64 d1.2.2.2.1) := (rA1.next bel).cell 3
 have cA1_4 : w12.cell? ⟨w.heap.size + 1, 4, none⟩ = some (.int .i64 d1.2.2.2.2.1) := (rA1.next bel).cell 4
 have cA1_5 : w12.cell? ⟨w.heap.size + 1, 5, none⟩ = some (.int .i64 d1.2.2.2.2.2) := (rA1.next bel).cell 5
 have cx1_0 : w12.cell? ⟨w8.heap.size, 0, none⟩ = some (.slice x1A0 x1n0 x1c0) := (rx1).cell 0
 have cx1_1 : w12.cell? ⟨w8.heap.size, 1, none⟩ = some (.slice x1A1 x1n1 x1c1) := (rx1).cell 1
 have cx1_2 : w12.cell? ⟨w8.heap.size, 2, none⟩ = some (.slice x1A2 x1n2 x1c2) := (rx1).cell 2
 have cx1_3 : w12.cell? ⟨w8.heap.size, 3, none⟩ = some (.int .i64 d1.2.2.2.1) := (rx1).cell 3
 have cx1_4 : w12.cell? ⟨w8.heap.size, 4, none⟩ = some (.int .i64 d1.2.2.2.2.1) := (rx1).cell 4
 have cx1_5 : w12.cell? ⟨w8.heap.size, 5, none⟩ = some (.int .i64 d1.2.2.2.2.2) := (rx1).cell 5
 go_wp2_with fail
 replace ox1 := ox1.drew
 replace rx1 := rx1.drew
 replace bel := bel.drew
 have zdw12 := (drew_below w12).size
 go_region_held3 (fun w' => w'.cell? ⟨w8.heap.size, 0, none⟩ = some (.slice x1A0 x1n0 x1c0) ∧ w'.cell? ⟨w8.heap.size, 1, none⟩ = some (.slice x1A1 x1n1 x1c1) ∧ w'.cell? ⟨w8.heap.size, 2, none⟩ = some (.slice x1A2 x1n2 x1c2) ∧ w'.cell? ⟨w8.heap.size, 3, none⟩ = some (.int .i64 d1.2.2.2.1) ∧ w'.cell? ⟨w8.heap.size, 4, none⟩ = some (.int .i64 d1.2.2.2.2.1) ∧ w'.cell? ⟨w8.heap.size, 5, none⟩ = some (.int .i64 d1.2.2.2.2.2) ∧ w'.cell? ⟨w.heap.size + 1, 0, none⟩ = some (v1_0) ∧ w'.cell? ⟨w.heap.size + 1, 1, none⟩ = some (v1_1) ∧ w'.cell? ⟨w.heap.size + 1, 2, none⟩ = some (v1_2) ∧ w'.cell? ⟨w.heap.size + 1, 3, none⟩ = some (.int .i64 d1.2.2.2.1) ∧ w'.cell? ⟨w.heap.size + 1, 4, none⟩ = some (.int .i64 d1.2.2.2.2.1) ∧ w'.cell? ⟨w.heap.size + 1, 5, none⟩ = some (.int .i64 d1.2.2.2.2.2))
  (go_keep)
  (first
   | (go_at_call 31; refine (toK_Peak _ _ _ d1 _ (s1.next bel) h1.out).mono ?_; rintro e w13 ⟨t1A0, t1n0, t1c0, t1A1, t1n1, t1c1, t1A2, t1n2, t1c2, rfl, ot, bb⟩; replace ox1 := ox1.next bb; replace rx1 := rx1.next bb; replace bel := next_trans bel bb; have k1_0w13 : w13.cell? ⟨w.heap.size + 1, 0, none⟩ = some (v1_0) := (rA1.next bel).cell 0; have k1_1w13 : w13.cell? ⟨w.heap.size + 1, 1, none⟩ = some (v1_1) := (rA1.next bel).cell 1; have k1_2w13 : w13.cell? ⟨w.heap.size + 1, 2, none⟩ = some (v1_2) := (rA1.next bel).cell 2; have k1_3w13 : w13.cell? ⟨w.heap.size + 1, 3, none⟩ = some (.int .i64 d1.2.2.2.1) := (rA1.next bel).cell 3; have k1_4w13 : w13.cell? ⟨w.heap.size + 1, 4, none⟩ = some (.int .i64 d1.2.2.2.2.1) := (rA1.next bel).cell 4; have k1_5w13 : w13.cell? ⟨w.heap.size + 1, 5, none⟩ = some (.int .i64 d1.2.2.2.2.2) := (rA1.next bel).cell 5; have l1_0w13 : w13.cell? ⟨w8.heap.size, 0, none⟩ = some (.slice x1A0 x1n0 x1c0) := rx1.cell 0; have l1_1w13 : w13.cell? ⟨w8.heap.size, 1, none⟩ = some (.slice x1A1 x1n1 x1c1) := rx1.cell 1; have l1_2w13 : w13.cell? ⟨w8.heap.size, 2, none⟩ = some (.slice x1A2 x1n2 x1c2) := rx1.cell 2; have l1_3w13 : w13.cell? ⟨w8.heap.size, 3, none⟩ = some (.int .i64 d1.2.2.2.1) := rx1.cell 3; have l1_4w13 : w13.cell? ⟨w8.heap.size, 4, none⟩ = some (.int .i64 d1.2.2.2.2.1) := rx1.cell 4; have l1_5w13 : w13.cell? ⟨w8.heap.size, 5, none⟩ = some (.int .i64 d1.2.2.2.2.2) := rx1.cell 5; have zqw13 := bb.size; clear bb)
   | (go_at_call 21; refine (eqK_Peak _ _ _ _ _ _ d1 _ ox1.rd ot.rd h1.out).mono ?_; rintro e w14 ⟨rfl, bb⟩; replace ox1 := ox1.next bb; replace rx1 := rx1.next bb; replace bel := next_trans bel bb; have k1_0w14 : w14.cell? ⟨w.heap.size + 1, 0, none⟩ = some (v1_0) := (rA1.next bel).cell 0; have k1_1w14 : w14.cell? ⟨w.heap.size + 1, 1, none⟩ = some (v1_1) := (rA1.next bel).cell 1; have k1_2w14 : w14.cell? ⟨w.heap.size + 1, 2, none⟩ = some (v1_2) := (rA1.next bel).cell 2; have k1_3w14 : w14.cell? ⟨w.heap.size + 1, 3, none⟩ = some (.int .i64 d1.2.2.2.1) := (rA1.next bel).cell 3; have k1_4w14 : w14.cell? ⟨w.heap.size + 1, 4, none⟩ = some (.int .i64 d1.2.2.2.2.1) := (rA1.next bel).cell 4; have k1_5w14 : w14.cell? ⟨w.heap.size + 1, 5, none⟩ = some (.int .i64 d1.2.2.2.2.2) := (rA1.next bel).cell 5; have l1_0w14 : w14.cell? ⟨w8.heap.size, 0, none⟩ = some (.slice x1A0 x1n0 x1c0) := rx1.cell 0; have l1_1w14 : w14.cell? ⟨w8.heap.size, 1, none⟩ = some (.slice x1A1 x1n1 x1c1) := rx1.cell 1; have l1_2w14 : w14.cell? ⟨w8.heap.size, 2, none⟩ = some (.slice x1A2 x1n2 x1c2) := rx1.cell 2; have l1_3w14 : w14.cell? ⟨w8.heap.size, 3, none⟩ = some (.int .i64 d1.2.2.2.1) := rx1.cell 3; have l1_4w14 : w14.cell? ⟨w8.heap.size, 4, none⟩ = some (.int .i64 d1.2.2.2.2.1) := rx1.cell 4; have l1_5w14 : w14.cell? ⟨w8.heap.size, 5, none⟩ = some (.int .i64 d1.2.2.2.2.2) := rx1.cell 5; have zqw14 := bb.size; clear bb ot))
 clear k1_0w13 l1_0w13 k1_1w13 l1_1w13 k1_2w13 l1_2w13 k1_3w13 l1_3w13 k1_4w13 l1_4w13 k1_5w13 l1_5w13 k1_0w14 l1_0w14 k1_1w14 l1_1w14 k1_2w14 l1_2w14 k1_3w14 l1_3w14 k1_4w14 l1_4w14 k1_5w14 l1_5w14
 clear ox1 rx1
 clear cA0_0 cA0_1 cA0_2 cA0_3 cA0_4 cA0_5 cA1_0 cA1_1 cA1_2 cA1_3 cA1_4 cA1_5 cx1_0 cx1_1 cx1_2 cx1_3 cx1_4 cx1_5
 have cA0_0 : w14.cell? ⟨w.heap.size, 0, none⟩ = some (v0_0) := (rA0.next bel).cell 0
 have cA0_1 : w14.cell? ⟨w.heap.size, 1, none⟩ = some (v0_1) := (rA0.next bel).cell 1
 have cA0_2 : w14.cell? ⟨w.heap.size, 2, none⟩ = some (v0_2) := (rA0.next bel).cell 2
 have cA0_3 : w14.cell? ⟨w.heap.size, 3, none⟩ = some (.int .i64 d0.2.2.2.1) := (rA0.next bel).cell 3
 have cA0_4 : w14.cell? ⟨w.heap.size, 4, none⟩ = some (.int .i64 d0.2.2.2.2.1) := (rA0.next bel).cell 4
 have cA0_5 : w14.cell? ⟨w.heap.size, 5, none⟩ = some (.int .i64 d0.2.2.2.2.2) := (rA0.next bel).cell 5
 have cA1_0 : w14.cell? ⟨w.heap.size + 1, 0, none⟩ = some (v1_0) := (rA1.next bel).cell 0
 have cA1_1 : w14.cell? ⟨w.heap.size + 1, 1, none⟩ = some (v1_1) := (rA1.next bel).cell 1
 have cA1_2 : w14.cell? ⟨w.heap.size + 1, 2, none⟩ = some (v1_2) := (rA1.next bel).cell 2
 have cA1_3 : w14.cell? ⟨w.heap.size + 1, 3, none⟩ = some (.int .i64 d1.2.2.2.1) := (rA1.next bel).cell 3
 have cA1_4 : w14.cell? ⟨w.heap.size + 1, 4, none⟩ = some (.int .i64 d1.2.2.2.2.1) := (rA1.next bel).cell 4
 have cA1_5 : w14.cell? ⟨w.heap.size + 1, 5, none⟩ = some (.int .i64 d1.2.2.2.2.2) := (rA1.next bel).cell 5
 have F := Lib.hid (bW.trans (bel.mono bW.size))
 clear bel bW cA0_0 cA0_1 cA0_2 cA0_3 cA0_4 cA0_5 cA1_0 cA1_1 cA1_2 cA1_3 cA1_4 cA1_5
 go_wp2
 go_ret
 exact ⟨rfl, F.out⟩
end wSamePeak
end
section
namespace openX
open Go.ChangeShapes Go.WideShapes Go.ChangeAt Go.RowKit base segs shape
def Wf : (s : Sh) → Dat s → Prop
 | .num, (x : Int) => -9223372036854775808 ≤ x ∧ x ≤ 9223372036854775807
 | .bit, _ => True
 | .row _ s, (d : List (Dat s)) => ∀ j, j < d.length → Wf s (d.getD j (dft s))
 | .cat a b, d => Wf a d.1 ∧ Wf b d.2
mutual
def fitsB (P : Program) : Nat → Sh → TypeId → Bool
 | 0, _, _ => false
 | n + 1, s, t => match P.underlying t with
  | some (.struct fs) => P.cellsOf t == nc s && fitsL P n fs.toList 0 s
  | some (.int .i64) => match s with | .num => true | _ => false
  | some .bool => match s with | .bit => true | _ => false
  | some (.slice e) => match s with | .row _ s' => P.cellsOf e == nc s' && fitsB P n s' e | _ => false
  | _ => false
def fitsL (P : Program) : Nat → List Field → Nat → Sh → Bool
 | 0, _, _, _ => false
 | _ + 1, [], _, _ => false
 | n + 1, [f], k, s => f.offset == k && (P.cellsOf f.type == nc s && fitsB P n s f.type)
 | n + 1, f :: g :: fs, k, s => match s with | .cat a b => f.offset == k && (P.cellsOf f.type == nc a && (fitsB P n a f.type && fitsL P n (g :: fs) (k + nc a) b)) | _ => false
end
section
variable {H : Type} {enc : TypeId × Value → H} {P : Program} {w : World} {held : Bool}
theorem addr_add {b off i : Nat} : (⟨b, off, none⟩ : Addr).add i = ⟨b, off + i, none⟩ := by unfold Addr.add; split <;> simp_all
theorem rd_trod : ∀ n : Nat, (∀ (s : Sh) (t : TypeId) (fuel : Nat) (cs : List Value) (x : DataW H × List MemPlace), fitsB P n s t = true → DataW.trod enc P w 0 (fun _ => true) held fuel t cs = some x → ∃ d, Rd w w.heap.size s cs d ∧ Wf s d) ∧
  (∀ (fs : List Field) (k : Nat) (s : Sh) (cs : List Value) (m : Nat), fitsL P n fs k s = true → (∀ (i : Nat) (f : Field), fs[i]? = some f → ∃ x, DataW.trod enc P w 0 (fun _ => true) held m f.type ((cs.drop f.offset).take (P.cellsOf f.type)) = some x) →
   ∃ d, Rd w w.heap.size s ((cs.drop k).take (nc s)) d ∧ Wf s d) := by
 intro n
 induction n with
 | zero => exact ⟨fun _ _ _ _ _ h => by simp [fitsB] at h, fun _ _ _ _ _ h => by simp [fitsL] at h⟩
 | succ n ih =>
  refine ⟨fun s t fuel cs x hf h => ?_, fun fs k s cs m hf h => ?_⟩
  ·unfold fitsB at hf
   split at hf
   ·rename_i fs hu
    simp only [Bool.and_eq_true, beq_iff_eq] at hf
    obtain ⟨xs, n', hfu, hx, hlen, hxl, hg⟩ := DataW.trod_struct hu h
    obtain ⟨d, hr, hw⟩ := ih.2 fs.toList 0 s cs n' hf.2 (fun i f hi => by
     have hi' : fs[i]? = some f := by simpa using hi
     have h1 := hg i f hi'
     have hlt : i < fs.size := (Array.getElem?_eq_some_iff.1 hi').1
     exact ⟨xs[i]'(by omega), by rw [h1]; exact List.getElem?_eq_getElem (by omega)⟩)
    rw [List.drop_zero, List.take_of_length_le (by omega)] at hr
    exact ⟨d, hr, hw⟩
   ·rename_i hu
    split at hf
    ·obtain ⟨z, e1, _, hw⟩ := DataW.trod_int hu h
     refine ⟨z, e1, ?_⟩
     show -9223372036854775808 ≤ z ∧ z ≤ 9223372036854775807
     simpa [Lit.wf, IntKind.min, IntKind.max, IntKind.signed, IntKind.bits] using hw
    ·cases hf
   ·rename_i hu
    split at hf
    ·obtain ⟨z, e1, _⟩ := DataW.trod_bool hu h
     exact ⟨z, e1, trivial⟩
    ·cases hf
   ·rename_i e hu
    split at hf
    ·rename_i e0 s'
     simp only [Bool.and_eq_true, beq_iff_eq] at hf
     rcases Go.Deep.open_slice hu h with ⟨hcs, _⟩ | ⟨a, len, cap, m, n', D, Pl, hcs, _, hl, hm, hmm, _, hi⟩
     ·exact ⟨[], ⟨none, 0, 0, hcs, ⟨by omega, by omega, fun _ => rfl⟩, rfl, fun h => absurd h (by omega)⟩, fun j hj => absurd hj (Nat.not_lt_zero _)⟩
     ·have hmc : m = cap := by simpa using hmm
      subst hmc
      have hd : ∀ j, j < len → ∃ (es : List Value) (dj : Dat s'), es.length = nc s' ∧ (∀ i, i < nc s' → w.cell? ((a.add (j * nc s')).add i) = es[i]?) ∧ Rd w w.heap.size s' es dj ∧ Wf s' dj := fun j hj => by
       obtain ⟨cs', hc, ht⟩ := hi j (by omega)
       obtain ⟨dj, hr, hw⟩ := ih.1 s' e n' cs' _ hf.2 ht
       rw [hf.1] at hc
       obtain ⟨_, hcl, hat⟩ := World.cells?_some hc
       exact ⟨cs', dj, hcl, hat, hr, hw⟩
      have hspot : 0 < len → a.spot = none := fun h0 => by
       obtain ⟨es, dj, h1, h2, _⟩ := hd 0 h0
       have hp := nc_pos s'
       have h3 := h2 0 (by omega)
       rw [List.getElem?_eq_getElem (by omega)] at h3
       have := World.cell?_spot h3
       simpa [Addr.add] using this
      obtain ⟨ds, hdl, hds⟩ : ∃ ds : List (Dat s'), ds.length = len ∧ ∀ j, j < len → ∃ es : List Value, es.length = nc s' ∧ (∀ i, i < nc s' → w.cell? ((a.add (j * nc s')).add i) = es[i]?) ∧ Rd w w.heap.size s' es (ds.getD j (dft s')) ∧ Wf s' (ds.getD j (dft s')) := by
       refine ⟨(List.range len).map fun j => if hj : j < len then Classical.choose (Classical.choose_spec (hd j hj)) else dft s', by simp, fun j hj => ?_⟩
       refine ⟨Classical.choose (hd j hj), ?_⟩
       have h1 := Classical.choose_spec (Classical.choose_spec (hd j hj))
       have e1 : ((List.range len).map fun j => if hj : j < len then Classical.choose (Classical.choose_spec (hd j hj)) else dft s').getD j (dft s') = Classical.choose (Classical.choose_spec (hd j hj)) := by simp [List.getD, hj]
       rw [e1]
       exact h1
      refine ⟨ds, ⟨some a, len, m, hcs, ⟨hl, by unfold maxLen at hm; omega, fun e => by cases e⟩, hdl, fun h0 => ?_⟩, fun j hj => by
       obtain ⟨es, _, _, _, hw⟩ := hds j (by rw [← hdl]; exact hj)
       exact hw⟩
      obtain ⟨b, off, spot⟩ := a
      have hs := hspot h0
      simp only at hs
      subst hs
      refine ⟨b, off, rfl, ?_, fun j hj => ?_⟩
      ·obtain ⟨es, h1, h2, _⟩ := hds 0 h0
       have hp := nc_pos s'
       have h3 := h2 0 (by omega)
       rw [List.getElem?_eq_getElem (by omega)] at h3
       have h4 := World.block_lt_of_cell? _ _ h3
       simpa [addr_add] using h4
      ·obtain ⟨es, h1, h2, h3, _⟩ := hds j hj
       refine ⟨es, h1, fun i hi2 => ?_, h3⟩
       have := h2 i (by omega)
       rw [addr_add, addr_add] at this
       exact this
    ·cases hf
   ·cases hf
  ·match fs, hf, h with
   | [], hf, _ => simp [fitsL] at hf
   | [f], hf, h =>
    unfold fitsL at hf
    simp only [Bool.and_eq_true, beq_iff_eq] at hf
    obtain ⟨h1, h2, h3⟩ := hf
    obtain ⟨x, hx⟩ := h 0 f rfl
    rw [h1, h2] at hx
    exact ih.1 s f.type m _ x h3 hx
   | f :: g :: fs, hf, h =>
    cases s with
    | cat a b =>
     unfold fitsL at hf
     simp only [Bool.and_eq_true, beq_iff_eq] at hf
     obtain ⟨h1, h2, h3, h4⟩ := hf
     obtain ⟨x, hx⟩ := h 0 f rfl
     rw [h1, h2] at hx
     obtain ⟨d1, r1, w1⟩ := ih.1 a f.type m _ x h3 hx
     obtain ⟨d2, r2, w2⟩ := ih.2 (g :: fs) (k + nc a) b cs m h4 (fun i f' hi => h (i + 1) f' hi)
     refine ⟨(d1, d2), ⟨_, _, ?_, r1, r2⟩, w1, w2⟩
     show List.take (nc a + nc b) (List.drop k cs) = _
     rw [List.take_add, List.drop_drop]
    | num => simp [fitsL] at hf
    | bit => simp [fitsL] at hf
    | row e s' => simp [fitsL] at hf
theorem open_val {s : Sh} {t : TypeId} {v : Value} {d : DataW H} {p : List MemPlace} {n : Nat} (hf : fitsB P n s t = true) (h : DataW.Trod enc P w 0 (fun _ => true) held t v d p) : ∃ x, Rd w w.heap.size s v.cells.toList x ∧ Wf s x := by
 obtain ⟨fuel, hfu⟩ := h
 exact (rd_trod n).1 s t fuel _ _ hf hfu
end
end openX
end
end Go.Proofs.Ytlaloakegajheaa
