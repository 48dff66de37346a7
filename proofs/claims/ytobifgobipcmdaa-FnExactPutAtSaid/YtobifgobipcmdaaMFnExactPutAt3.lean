/-
  MERGED: my texts WPutAt, one behind the other, as they are. By an AI agent.
-/
import Derived.Test.YtobifgobipcmdaaMFnExactPutAt2
import Derived.Deep.RegionHeld3
section
/-
  THE WALK of laws.FnExactPutAt: it returns true, whatever the arguments, and writes nothing that was there. Conditions: the slices read as lists. Written by a program of mine (gen_exact.py). By an AI agent.
-/
namespace Go.Proofs.Ytobifgobipcmdaa.wPutAt
open Go.RowKit Go.Proofs.Ytobifgobipcmdaa.base Go.Proofs.Ytobifgobipcmdaa.ints Go.Proofs.Ytobifgobipcmdaa.sig Go.Proofs.Ytobifgobipcmdaa.cursor Go.Proofs.Ytobifgobipcmdaa.marks Go.Proofs.Ytobifgobipcmdaa.app Go.Proofs.Ytobifgobipcmdaa.sym Go.Proofs.Ytobifgobipcmdaa.appAt Go.Proofs.Ytobifgobipcmdaa.segs Go.Proofs.Ytobifgobipcmdaa.segsHelp Go.Proofs.Ytobifgobipcmdaa.segsMark Go.Proofs.Ytobifgobipcmdaa.kinds Go.Proofs.Ytobifgobipcmdaa.term Go.Proofs.Ytobifgobipcmdaa.termOk Go.Proofs.Ytobifgobipcmdaa.endAt Go.Proofs.Ytobifgobipcmdaa.inside Go.Proofs.Ytobifgobipcmdaa.put
set_option maxRecDepth 100000

set_option maxHeartbeats 8000000 in
theorem law (a0 : Option Addr) (n0 c0 : Nat) (xs0 : List Int) (a1 : Option Addr) (n1 c1 : Nat) (xs1 : List Int) (x2 : Int) (a3 : Option Addr) (n3 c3 : Nat) (xs3 : List Int) (w : World) (s0 : Seg w w.heap.size a0 n0 xs0) (hN0 : n0 ≤ 9223372036854775807) (s1 : Seg w w.heap.size a1 n1 xs1) (hN1 : n1 ≤ 9223372036854775807) (b2 : (Lit.int .i64 x2).wf = true) (s3 : Seg w w.heap.size a3 n3 xs3) (hN3 : n3 ≤ 9223372036854775807) :
    Calls Try.prog 5 #[.agg #[.slice a0 n0 c0], .slice a1 n1 c1, .int .i64 x2, .slice a3 n3 c3] w (Fine w) := by
  have bd2 : -9223372036854775808 ≤ x2 ∧ x2 ≤ 9223372036854775807 := by simpa [Lit.wf, IntKind.min, IntKind.max, IntKind.signed, IntKind.bits] using b2
  obtain ⟨bl2, bh2⟩ := bd2
  clear b2
  obtain ⟨W, hW⟩ : ∃ W, W = w.alloc (.cells #[.slice a0 n0 c0] 39) := ⟨_, rfl⟩
  have rA0 : Row W (w.heap.size) 39 #[.slice a0 n0 c0] := by rw [hW]; have := Row.new (w) 39 #[.slice a0 n0 c0]; simpa using this
  have bW : Below w.heap.size w W := by rw [hW]; exact (Below.refl w.heap.size w).alloc (by simp) (.cells #[.slice a0 n0 c0] 39)
  have zA0 := rA0.lt
  replace s0 := s0.next bW
  have Hl0 := Lib.hid s0.1
  replace s1 := s1.next bW
  have Hl1 := Lib.hid s1.1
  replace s3 := s3.next bW
  have Hl3 := Lib.hid s3.1
  have HW := Lib.hid hW
  clear hW
  obtain ⟨v, hv⟩ : ∃ v, putB xs0 xs1 xs3 x2 = v := ⟨_, rfl⟩
  have HV := Lib.hid hv
  clear hv
  have ev : (v != v) = false := by simp
  by_cases h1 : n1 ≤ 1048576
  case neg =>
    go_enter Try.func5, Try.ntmps5
    go_wp2_with fail
    rw [← HW.out]
    go_ret
    exact ⟨rfl, bW⟩
  by_cases h3 : n3 ≤ 1048576
  case neg =>
    go_enter Try.func5, Try.ntmps5
    go_wp2_with fail
    rw [← HW.out]
    go_ret
    exact ⟨rfl, bW⟩
  go_enter Try.func5, Try.ntmps5
  go_wp2_with fail
  rw [← HW.out]
  clear HW
  have bel := Below.refl W.heap.size W
  have cA0 : W.cell? ⟨w.heap.size, 0, none⟩ = some (.slice a0 n0 c0) := (rA0.next bel).cell 0
  refine (szSig _ _ _ (1048576) _ hN0 (by omega) (by omega)).mono ?_
  rintro e w1 ⟨he, bb⟩
  replace bel := next_trans bel bb
  have zw1 := bb.size
  clear bb
  by_cases q0 : n0 ≤ 1048576
  case neg =>
    rw [if_pos (by omega)] at he
    subst he
    have F := Lib.hid (bW.trans (bel.mono bW.size))
    clear bel bW cA0
    go_wp2
    go_ret
    exact ⟨rfl, F.out⟩
  rw [if_neg (by omega)] at he
  subst he
  have h0 : n0 ≤ 1048576 := by omega
  clear cA0
  have cA0 : w1.cell? ⟨w.heap.size, 0, none⟩ = some (.slice a0 n0 c0) := (rA0.next bel).cell 0
  have hlen : (putR xs0 xs1 xs3 x2).length ≤ 1048576 := putR_len'
  obtain ⟨ys, hys⟩ : ∃ ys, putR xs0 xs1 xs3 x2 = ys := ⟨_, rfl⟩
  rw [hys] at hlen
  have HY := Lib.hid hys
  clear hys
  replace hlen := Lib.hid hlen
  go_wp2_with fail
  refine (sigTo _ _ _ xs0 _ (s0.next bel) h0).mono ?_
  rintro e w2 ⟨gp0, rfl, op0, yp0, bb⟩
  replace bel := next_trans bel bb
  have zw2 := bb.size
  clear bb
  clear cA0
  have cA0 : w2.cell? ⟨w.heap.size, 0, none⟩ = some (.slice a0 n0 c0) := (rA0.next bel).cell 0
  go_wp2_with fail
  refine (intsTo _ _ _ xs1 _ (s1.next bel) h1).mono ?_
  rintro e w3 ⟨gp1, rfl, op1, yp1, bb⟩
  replace op0 := op0.next bb
  replace bel := next_trans bel bb
  have zw3 := bb.size
  clear bb
  clear cA0
  have cA0 : w3.cell? ⟨w.heap.size, 0, none⟩ = some (.slice a0 n0 c0) := (rA0.next bel).cell 0
  go_wp2_with fail
  refine (intsTo _ _ _ xs3 _ (s3.next bel) h3).mono ?_
  rintro e w4 ⟨gp3, rfl, op3, yp3, bb⟩
  replace op0 := op0.next bb
  replace op1 := op1.next bb
  replace bel := next_trans bel bb
  have zw4 := bb.size
  clear bb
  clear cA0
  have cA0 : w4.cell? ⟨w.heap.size, 0, none⟩ = some (.slice a0 n0 c0) := (rA0.next bel).cell 0
  go_wp2_with fail
  refine (specPutX _ _ _ _ _ _ _ _ _ xs0 xs1 x2 xs3 _ op0.rd op1.rd op3.rd h0 h1 h3 bl2 bh2 ⟨Nat.le_refl _, by omega, fun e => by cases e⟩ (Nat.le_refl _) (by omega)).mono ?_
  rintro e w5 ⟨A0, m0, d0, he, o0, bb⟩
  rw [HV.out] at he
  subst he
  replace op0 := op0.next bb
  replace op1 := op1.next bb
  replace op3 := op3.next bb
  replace bel := next_trans bel bb
  have zw5 := bb.size
  clear bb
  rw [HY.out] at o0
  have sw := Own.seg o0
  clear o0
  clear op0 op1 op3
  clear cA0
  have cA0 : w5.cell? ⟨w.heap.size, 0, none⟩ = some (.slice a0 n0 c0) := (rA0.next bel).cell 0
  obtain ⟨Aw, mw, dw, eA, em, ed⟩ : ∃ A m d, A = A0 ∧ m = m0 ∧ d = d0 := ⟨_, _, _, rfl, rfl, rfl⟩
  subst eA em ed
  have belw := Below.refl w5.heap.size w5
  clear cA0
  have cA0 : w5.cell? ⟨w.heap.size, 0, none⟩ = some (.slice a0 n0 c0) := (rA0.next bel).cell 0
  go_wp2_with fail
  refine (sigTo _ _ _ xs0 _ (s0.next bel) h0).mono ?_
  rintro e w6 ⟨gx0, rfl, ox0, yx0, bb⟩
  replace bel := next_trans bel bb
  replace belw := next_trans belw bb
  have zw6 := bb.size
  clear bb
  clear cA0
  have cA0 : w6.cell? ⟨w.heap.size, 0, none⟩ = some (.slice a0 n0 c0) := (rA0.next bel).cell 0
  have dA0 : (w6.alloc (.cells #[.slice (some ⟨gx0, 0, none⟩) n0 n0] 26)).cell? ⟨w.heap.size, 0, none⟩ = some (.slice a0 n0 c0) := ((rA0.next bel).alloc _).cell 0
  go_wp2_with fail
  obtain ⟨w7, hw⟩ : ∃ W, W = w6.alloc (.cells #[.slice (some ⟨gx0, 0, none⟩) n0 n0] 26) := ⟨_, rfl⟩
  rw [← hw]
  have rx0 : Row w7 w6.heap.size 26 #[.slice (some ⟨gx0, 0, none⟩) n0 n0] := by rw [hw]; exact Row.new _ _ _
  have bb : Below w6.heap.size w6 w7 := by rw [hw]; exact (Below.refl _ _).alloc (Nat.le_refl _) _
  have yrx0 : w6.heap.size < w7.heap.size := by rw [hw]; simp
  clear hw
  replace ox0 := ox0.next bb
  replace bel := next_trans bel bb
  replace belw := next_trans belw bb
  have zw7 := bb.size
  clear bb
  clear dA0
  clear cA0
  have cA0 : w7.cell? ⟨w.heap.size, 0, none⟩ = some (.slice a0 n0 c0) := (rA0.next bel).cell 0
  have cx0 : w7.cell? ⟨w6.heap.size, 0, none⟩ = some (.slice (some ⟨gx0, 0, none⟩) n0 n0) := (rx0).cell 0
  refine (intsTo _ _ _ xs1 _ (s1.next bel) h1).mono ?_
  rintro e w8 ⟨gx1, rfl, ox1, yx1, bb⟩
  replace ox0 := ox0.next bb
  replace rx0 := rx0.next bb
  replace bel := next_trans bel bb
  replace belw := next_trans belw bb
  have zw8 := bb.size
  clear bb
  clear cA0 cx0
  have cA0 : w8.cell? ⟨w.heap.size, 0, none⟩ = some (.slice a0 n0 c0) := (rA0.next bel).cell 0
  have cx0 : w8.cell? ⟨w6.heap.size, 0, none⟩ = some (.slice (some ⟨gx0, 0, none⟩) n0 n0) := (rx0).cell 0
  go_wp2_with fail
  refine (intsTo _ _ _ xs3 _ (s3.next bel) h3).mono ?_
  rintro e w9 ⟨gx3, rfl, ox3, yx3, bb⟩
  replace ox0 := ox0.next bb
  replace rx0 := rx0.next bb
  replace ox1 := ox1.next bb
  replace bel := next_trans bel bb
  replace belw := next_trans belw bb
  have zw9 := bb.size
  clear bb
  clear cA0 cx0
  have cA0 : w9.cell? ⟨w.heap.size, 0, none⟩ = some (.slice a0 n0 c0) := (rA0.next bel).cell 0
  have cx0 : w9.cell? ⟨w6.heap.size, 0, none⟩ = some (.slice (some ⟨gx0, 0, none⟩) n0 n0) := (rx0).cell 0
  go_wp2_with fail
  refine (implPutAt _ _ _ _ _ _ _ _ _ xs0 xs1 x2 xs3 _ ox0.rd ox1.rd ox3.rd h0 h1 h3 bl2 bh2 ⟨Nat.le_refl _, by omega, fun e => by cases e⟩ (Nat.le_refl _) (by omega)).mono ?_
  rintro e w10 ⟨A0, m0, d0, he, o0, bb⟩
  rw [HV.out] at he
  subst he
  replace ox0 := ox0.next bb
  replace rx0 := rx0.next bb
  replace ox1 := ox1.next bb
  replace ox3 := ox3.next bb
  replace bel := next_trans bel bb
  replace belw := next_trans belw bb
  have zw10 := bb.size
  clear bb
  rw [HY.out] at o0
  have og := Ownd.of_own o0
  clear o0
  obtain ⟨Ag, mg, dg, eA, em, ed⟩ : ∃ A m d, A = A0 ∧ m = m0 ∧ d = d0 := ⟨_, _, _, rfl, rfl, rfl⟩
  subst eA em ed
  clear cA0 cx0
  have cA0 : w10.cell? ⟨w.heap.size, 0, none⟩ = some (.slice a0 n0 c0) := (rA0.next bel).cell 0
  have cx0 : w10.cell? ⟨w6.heap.size, 0, none⟩ = some (.slice (some ⟨gx0, 0, none⟩) n0 n0) := (rx0).cell 0
  have hlenn : mg ≤ 1048576 := by rw [← og.rd.1]; exact hlen.out
  go_wp2_with fail
  refine (intsEq _ _ _ _ _ _ ys _ og.rd (sw.next belw) hlenn).mono ?_
  rintro e w11 ⟨rfl, bb⟩
  replace ox0 := ox0.next bb
  replace rx0 := rx0.next bb
  replace ox1 := ox1.next bb
  replace ox3 := ox3.next bb
  replace og := og.next bb
  replace bel := next_trans bel bb
  replace belw := next_trans belw bb
  have zw11 := bb.size
  clear bb
  clear cA0 cx0
  have cA0 : w11.cell? ⟨w.heap.size, 0, none⟩ = some (.slice a0 n0 c0) := (rA0.next bel).cell 0
  have cx0 : w11.cell? ⟨w6.heap.size, 0, none⟩ = some (.slice (some ⟨gx0, 0, none⟩) n0 n0) := (rx0).cell 0
  go_wp2_with fail
  replace ox0 := ox0.drew
  replace rx0 := rx0.drew
  replace ox1 := ox1.drew
  replace ox3 := ox3.drew
  replace og := og.drew
  replace bel := bel.drew
  replace belw := belw.drew
  have zdw11 := (drew_below w11).size
  go_region_held3 (fun w' => w'.cell? ⟨w6.heap.size, 0, none⟩ = some (.slice (some ⟨gx0, 0, none⟩) n0 n0) ∧ w'.cell? ⟨w.heap.size, 0, none⟩ = some (.slice a0 n0 c0))
    (go_keep)
    (first
      | (go_at_call 33; refine (sigTo _ _ _ xs0 _ (s0.next bel) h0).mono ?_; rintro e w12 ⟨gt0, rfl, ot, yt0, bb⟩; replace ox0 := ox0.next bb; replace rx0 := rx0.next bb; replace ox1 := ox1.next bb; replace ox3 := ox3.next bb; replace og := og.next bb; replace bel := next_trans bel bb; replace belw := next_trans belw bb; have k0w12 : w12.cell? ⟨w.heap.size, 0, none⟩ = some (.slice a0 n0 c0) := (rA0.next bel).cell 0; have l0w12 : w12.cell? ⟨w6.heap.size, 0, none⟩ = some (.slice (some ⟨gx0, 0, none⟩) n0 n0) := rx0.cell 0; have zqw12 := bb.size; clear bb)
      | (go_at_call 36; refine (sigEq _ _ _ _ _ _ xs0 _ ox0.rd ot.rd h0).mono ?_; rintro e w13 ⟨rfl, bb⟩; replace ox0 := ox0.next bb; replace rx0 := rx0.next bb; replace ox1 := ox1.next bb; replace ox3 := ox3.next bb; replace og := og.next bb; replace bel := next_trans bel bb; replace belw := next_trans belw bb; have k0w13 : w13.cell? ⟨w.heap.size, 0, none⟩ = some (.slice a0 n0 c0) := (rA0.next bel).cell 0; have l0w13 : w13.cell? ⟨w6.heap.size, 0, none⟩ = some (.slice (some ⟨gx0, 0, none⟩) n0 n0) := rx0.cell 0; have zqw13 := bb.size; clear bb ot))
  clear k0w12 l0w12 k0w13 l0w13
  clear cA0 cx0
  have cA0 : w13.cell? ⟨w.heap.size, 0, none⟩ = some (.slice a0 n0 c0) := (rA0.next bel).cell 0
  have cx0 : w13.cell? ⟨w6.heap.size, 0, none⟩ = some (.slice (some ⟨gx0, 0, none⟩) n0 n0) := (rx0).cell 0
  go_wp2_with fail
  refine (intsTo _ _ _ xs1 _ (s1.next bel) h1).mono ?_
  rintro e w14 ⟨gt1, rfl, ot1, yt1, bb⟩
  replace ox0 := ox0.next bb
  replace rx0 := rx0.next bb
  replace ox1 := ox1.next bb
  replace ox3 := ox3.next bb
  replace og := og.next bb
  replace bel := next_trans bel bb
  replace belw := next_trans belw bb
  have zw14 := bb.size
  clear bb
  clear cA0 cx0
  have cA0 : w14.cell? ⟨w.heap.size, 0, none⟩ = some (.slice a0 n0 c0) := (rA0.next bel).cell 0
  have cx0 : w14.cell? ⟨w6.heap.size, 0, none⟩ = some (.slice (some ⟨gx0, 0, none⟩) n0 n0) := (rx0).cell 0
  go_wp2_with fail
  refine (intsEq _ _ _ _ _ _ xs1 _ ox1.rd ot1.rd h1).mono ?_
  rintro e w15 ⟨rfl, bb⟩
  replace ox0 := ox0.next bb
  replace rx0 := rx0.next bb
  replace ox1 := ox1.next bb
  replace ox3 := ox3.next bb
  replace og := og.next bb
  replace ot1 := ot1.next bb
  replace bel := next_trans bel bb
  replace belw := next_trans belw bb
  have zw15 := bb.size
  clear bb
  clear ot1
  clear cA0 cx0
  have cA0 : w15.cell? ⟨w.heap.size, 0, none⟩ = some (.slice a0 n0 c0) := (rA0.next bel).cell 0
  have cx0 : w15.cell? ⟨w6.heap.size, 0, none⟩ = some (.slice (some ⟨gx0, 0, none⟩) n0 n0) := (rx0).cell 0
  go_wp2_with fail
  refine (intsTo _ _ _ xs3 _ (s3.next bel) h3).mono ?_
  rintro e w16 ⟨gt3, rfl, ot3, yt3, bb⟩
  replace ox0 := ox0.next bb
  replace rx0 := rx0.next bb
  replace ox1 := ox1.next bb
  replace ox3 := ox3.next bb
  replace og := og.next bb
  replace bel := next_trans bel bb
  replace belw := next_trans belw bb
  have zw16 := bb.size
  clear bb
  clear cA0 cx0
  have cA0 : w16.cell? ⟨w.heap.size, 0, none⟩ = some (.slice a0 n0 c0) := (rA0.next bel).cell 0
  have cx0 : w16.cell? ⟨w6.heap.size, 0, none⟩ = some (.slice (some ⟨gx0, 0, none⟩) n0 n0) := (rx0).cell 0
  go_wp2_with fail
  refine (intsEq _ _ _ _ _ _ xs3 _ ox3.rd ot3.rd h3).mono ?_
  rintro e w17 ⟨rfl, bb⟩
  replace ox0 := ox0.next bb
  replace rx0 := rx0.next bb
  replace ox1 := ox1.next bb
  replace ox3 := ox3.next bb
  replace og := og.next bb
  replace ot3 := ot3.next bb
  replace bel := next_trans bel bb
  replace belw := next_trans belw bb
  have zw17 := bb.size
  clear bb
  clear ot3
  clear cA0 cx0
  have cA0 : w17.cell? ⟨w.heap.size, 0, none⟩ = some (.slice a0 n0 c0) := (rA0.next bel).cell 0
  have cx0 : w17.cell? ⟨w6.heap.size, 0, none⟩ = some (.slice (some ⟨gx0, 0, none⟩) n0 n0) := (rx0).cell 0
  go_wp2_with fail
  refine (sigMark (w5.heap.size) (w6.heap.size) _ _ _ xs0 (1) _ ox0 h0 (by omega) (by omega)).mono ?_
  rintro e w18 ⟨he, -, bt⟩
  subst he
  clear ox0
  replace rx0 := Row.btw rx0 bt (by omega)
  replace ox1 := ox1.btw bt (by omega)
  replace ox3 := ox3.btw bt (by omega)
  replace og := og.btw bt (by omega)
  replace bel := Below.btw bel bt (by omega) bel.size
  replace belw := Below.btw belw bt (by omega) belw.size
  have zw18 := bt.size
  clear bt
  clear cA0 cx0
  have cA0 : w18.cell? ⟨w.heap.size, 0, none⟩ = some (.slice a0 n0 c0) := (rA0.next bel).cell 0
  have cx0 : w18.cell? ⟨w6.heap.size, 0, none⟩ = some (.slice (some ⟨gx0, 0, none⟩) n0 n0) := (rx0).cell 0
  go_wp2_with fail
  refine (intsMark (w7.heap.size) (w8.heap.size) _ _ _ xs1 (1 + (n0 : Int)) _ ox1 h1 (by omega) (by omega)).mono ?_
  rintro e w19 ⟨he, -, bt⟩
  subst he
  clear ox1
  replace rx0 := Row.btw rx0 bt (by omega)
  replace ox3 := ox3.btw bt (by omega)
  replace og := og.btw bt (by omega)
  replace bel := Below.btw bel bt (by omega) bel.size
  replace belw := Below.btw belw bt (by omega) belw.size
  have zw19 := bt.size
  clear bt
  clear cA0 cx0
  have cA0 : w19.cell? ⟨w.heap.size, 0, none⟩ = some (.slice a0 n0 c0) := (rA0.next bel).cell 0
  have cx0 : w19.cell? ⟨w6.heap.size, 0, none⟩ = some (.slice (some ⟨gx0, 0, none⟩) n0 n0) := (rx0).cell 0
  go_wp2_with fail
  refine (intsMark (w8.heap.size) (w9.heap.size) _ _ _ xs3 (1 + (n0 : Int) + (n1 : Int)) _ ox3 h3 (by omega) (by omega)).mono ?_
  rintro e w20 ⟨he, -, bt⟩
  subst he
  clear ox3
  replace rx0 := Row.btw rx0 bt (by omega)
  replace og := og.btw bt (by omega)
  replace bel := Below.btw bel bt (by omega) bel.size
  replace belw := Below.btw belw bt (by omega) belw.size
  have zw20 := bt.size
  clear bt
  clear cA0 cx0
  have cA0 : w20.cell? ⟨w.heap.size, 0, none⟩ = some (.slice a0 n0 c0) := (rA0.next bel).cell 0
  have cx0 : w20.cell? ⟨w6.heap.size, 0, none⟩ = some (.slice (some ⟨gx0, 0, none⟩) n0 n0) := (rx0).cell 0
  clear rx0
  clear cA0 cx0
  have cA0 : w20.cell? ⟨w.heap.size, 0, none⟩ = some (.slice a0 n0 c0) := (rA0.next bel).cell 0
  go_wp2_with fail
  refine (intsEq _ _ _ _ _ _ ys _ og.rd (sw.next belw) hlenn).mono ?_
  rintro e w21 ⟨rfl, bb⟩
  replace og := og.next bb
  replace bel := next_trans bel bb
  replace belw := next_trans belw bb
  have zw21 := bb.size
  clear bb
  clear cA0
  have cA0 : w21.cell? ⟨w.heap.size, 0, none⟩ = some (.slice a0 n0 c0) := (rA0.next bel).cell 0
  go_wp2_with fail
  refine (intsMark (w9.heap.size) (w10.heap.size) _ _ _ ys 1 _ og hlenn (by omega) (by omega)).mono ?_
  rintro e w22 ⟨he, om, bt⟩
  subst he
  clear og
  replace bel := Below.btw bel bt (by omega) bel.size
  replace belw := Below.btw belw bt (by omega) belw.size
  have zw22 := bt.size
  clear bt
  clear cA0
  have cA0 : w22.cell? ⟨w.heap.size, 0, none⟩ = some (.slice a0 n0 c0) := (rA0.next bel).cell 0
  go_wp2_with fail
  refine (intsHeld _ _ _ 1 _ om.rd hlenn (by omega) (by omega)).mono ?_
  rintro e w23 ⟨rfl, bb⟩
  replace om := om.next bb
  replace bel := next_trans bel bb
  replace belw := next_trans belw bb
  have zw23 := bb.size
  clear bb
  clear cA0
  have cA0 : w23.cell? ⟨w.heap.size, 0, none⟩ = some (.slice a0 n0 c0) := (rA0.next bel).cell 0
  go_wp2_with fail
  refine (sigTo _ _ _ xs0 _ (s0.next bel) h0).mono ?_
  rintro e w24 ⟨gp0, rfl, op0, yp0, bb⟩
  replace om := om.next bb
  replace bel := next_trans bel bb
  replace belw := next_trans belw bb
  have zw24 := bb.size
  clear bb
  clear cA0
  have cA0 : w24.cell? ⟨w.heap.size, 0, none⟩ = some (.slice a0 n0 c0) := (rA0.next bel).cell 0
  go_wp2_with fail
  refine (intsTo _ _ _ xs1 _ (s1.next bel) h1).mono ?_
  rintro e w25 ⟨gp1, rfl, op1, yp1, bb⟩
  replace om := om.next bb
  replace op0 := op0.next bb
  replace bel := next_trans bel bb
  replace belw := next_trans belw bb
  have zw25 := bb.size
  clear bb
  clear cA0
  have cA0 : w25.cell? ⟨w.heap.size, 0, none⟩ = some (.slice a0 n0 c0) := (rA0.next bel).cell 0
  go_wp2_with fail
  refine (intsTo _ _ _ xs3 _ (s3.next bel) h3).mono ?_
  rintro e w26 ⟨gp3, rfl, op3, yp3, bb⟩
  replace om := om.next bb
  replace op0 := op0.next bb
  replace op1 := op1.next bb
  replace bel := next_trans bel bb
  replace belw := next_trans belw bb
  have zw26 := bb.size
  clear bb
  clear cA0
  have cA0 : w26.cell? ⟨w.heap.size, 0, none⟩ = some (.slice a0 n0 c0) := (rA0.next bel).cell 0
  go_wp2_with fail
  refine (implPutAt _ _ _ _ _ _ _ _ _ xs0 xs1 x2 xs3 _ op0.rd op1.rd op3.rd h0 h1 h3 bl2 bh2 ⟨Nat.le_refl _, by omega, fun e => by cases e⟩ (Nat.le_refl _) (by omega)).mono ?_
  rintro e w27 ⟨A0, m0, d0, he, o0, bb⟩
  rw [HV.out] at he
  subst he
  replace om := om.next bb
  replace op0 := op0.next bb
  replace op1 := op1.next bb
  replace op3 := op3.next bb
  replace bel := next_trans bel bb
  replace belw := next_trans belw bb
  have zw27 := bb.size
  clear bb
  rw [HY.out] at o0
  have sh := Own.seg o0
  clear o0
  clear op0 op1 op3
  clear cA0
  have cA0 : w27.cell? ⟨w.heap.size, 0, none⟩ = some (.slice a0 n0 c0) := (rA0.next bel).cell 0
  obtain ⟨Ah, mh, dh, eA, em, ed⟩ : ∃ A m d, A = A0 ∧ m = m0 ∧ d = d0 := ⟨_, _, _, rfl, rfl, rfl⟩
  subst eA em ed
  have belh := Below.refl w27.heap.size w27
  clear cA0
  have cA0 : w27.cell? ⟨w.heap.size, 0, none⟩ = some (.slice a0 n0 c0) := (rA0.next bel).cell 0
  go_wp2_with fail
  refine (intsEq _ _ _ _ _ _ ys _ (sh.next belh) (sw.next belw) (by rw [← sh.1]; exact hlen.out)).mono ?_
  rintro e w28 ⟨rfl, bb⟩
  replace om := om.next bb
  replace bel := next_trans bel bb
  replace belw := next_trans belw bb
  replace belh := next_trans belh bb
  have zw28 := bb.size
  clear bb
  clear cA0
  have cA0 : w28.cell? ⟨w.heap.size, 0, none⟩ = some (.slice a0 n0 c0) := (rA0.next bel).cell 0
  go_wp2_with fail
  refine (intsHeld _ _ _ 1 _ om.rd hlenn (by omega) (by omega)).mono ?_
  rintro e w29 ⟨rfl, bb⟩
  replace om := om.next bb
  replace bel := next_trans bel bb
  replace belw := next_trans belw bb
  replace belh := next_trans belh bb
  have zw29 := bb.size
  clear bb
  clear cA0
  have cA0 : w29.cell? ⟨w.heap.size, 0, none⟩ = some (.slice a0 n0 c0) := (rA0.next bel).cell 0
  have F := Lib.hid (bW.trans (bel.mono bW.size))
  clear bel belw belh om bW cA0
  go_wp2
  go_ret
  exact ⟨rfl, F.out⟩
end Go.Proofs.Ytobifgobipcmdaa.wPutAt
end
