/-
  THE WALK of laws.FnExactFilled: it returns true, whatever the arguments, and writes nothing that was there. Conditions: the slices read as lists. Written by a program of mine (gen_exact.py). By an AI agent.
-/
import Derived.Test.YtdeegjeopkcomaaKinds
import Derived.Test.YtdeegjeopkcomaaFilled
import Derived.Deep.RegionHeld3
namespace Go.Proofs.Ytdeegjeopkcomaa.wFilled
open Go.RowKit Go.Proofs.Ytdeegjeopkcomaa.base Go.Proofs.Ytdeegjeopkcomaa.ints Go.Proofs.Ytdeegjeopkcomaa.sig Go.Proofs.Ytdeegjeopkcomaa.cursor Go.Proofs.Ytdeegjeopkcomaa.marks Go.Proofs.Ytdeegjeopkcomaa.app Go.Proofs.Ytdeegjeopkcomaa.sym Go.Proofs.Ytdeegjeopkcomaa.appAt Go.Proofs.Ytdeegjeopkcomaa.segs Go.Proofs.Ytdeegjeopkcomaa.segsHelp Go.Proofs.Ytdeegjeopkcomaa.segsMark Go.Proofs.Ytdeegjeopkcomaa.kinds Go.Proofs.Ytdeegjeopkcomaa.term Go.Proofs.Ytdeegjeopkcomaa.termOk Go.Proofs.Ytdeegjeopkcomaa.varsOf Go.Proofs.Ytdeegjeopkcomaa.substOk Go.Proofs.Ytdeegjeopkcomaa.gives Go.Proofs.Ytdeegjeopkcomaa.shifted Go.Proofs.Ytdeegjeopkcomaa.filled
set_option maxRecDepth 100000

set_option maxHeartbeats 8000000 in
theorem law (a0 : Option Addr) (n0 c0 : Nat) (xs0 : List Int) (a1 : Option Addr) (n1 c1 : Nat) (xs1 : List (List Int)) (a2 : Option Addr) (n2 c2 : Nat) (xs2 : List Int) (w : World) (s0 : Seg w w.heap.size a0 n0 xs0) (hN0 : n0 ≤ 9223372036854775807) (s1 : Segs w w.heap.size a1 n1 xs1) (hN1 : n1 ≤ 9223372036854775807) (s2 : Seg w w.heap.size a2 n2 xs2) (hN2 : n2 ≤ 9223372036854775807) :
    Calls Try.prog 12 #[.agg #[.slice a0 n0 c0], .agg #[.slice a1 n1 c1], .slice a2 n2 c2] w (Fine w) := by
  obtain ⟨W, hW⟩ : ∃ W, W = (w.alloc (.cells #[.slice a0 n0 c0] 47)).alloc (.cells #[.slice a1 n1 c1] 48) := ⟨_, rfl⟩
  have rA0 : Row W (w.heap.size) 47 #[.slice a0 n0 c0] := by rw [hW]; have := (Row.new (w) 47 #[.slice a0 n0 c0]).alloc (.cells #[.slice a1 n1 c1] 48); simpa using this
  have rA1 : Row W (w.heap.size + 1) 48 #[.slice a1 n1 c1] := by rw [hW]; have := Row.new (w.alloc (.cells #[.slice a0 n0 c0] 47)) 48 #[.slice a1 n1 c1]; simpa using this
  have bW : Below w.heap.size w W := by rw [hW]; exact ((Below.refl w.heap.size w).alloc (by simp) (.cells #[.slice a0 n0 c0] 47)).alloc (by simp) (.cells #[.slice a1 n1 c1] 48)
  have zA0 := rA0.lt
  have zA1 := rA1.lt
  replace s0 := s0.next bW
  have Hl0 := Lib.hid s0.1
  replace s1 := s1.next bW
  have Hl1 := Lib.hid s1.1
  replace s2 := s2.next bW
  have Hl2 := Lib.hid s2.1
  have HW := Lib.hid hW
  clear hW
  obtain ⟨t1, ht1⟩ : ∃ z, tot xs1 = z := ⟨_, rfl⟩
  have HT1 := Lib.hid ht1
  clear ht1
  obtain ⟨v, hv⟩ : ∃ v, filledB xs0 xs1 xs2 = v := ⟨_, rfl⟩
  have HV := Lib.hid hv
  clear hv
  have ev : (v != v) = false := by simp
  by_cases h2 : n2 ≤ 1048576
  case neg =>
    go_enter Try.func12, Try.ntmps12
    go_wp2_with fail
    rw [← HW.out]
    go_ret
    exact ⟨rfl, bW⟩
  go_enter Try.func12, Try.ntmps12
  go_wp2_with fail
  rw [← HW.out]
  clear HW
  have bel := Below.refl W.heap.size W
  have cA0 : W.cell? ⟨w.heap.size, 0, none⟩ = some (.slice a0 n0 c0) := (rA0.next bel).cell 0
  have cA1 : W.cell? ⟨w.heap.size + 1, 0, none⟩ = some (.slice a1 n1 c1) := (rA1.next bel).cell 0
  refine (szSig _ _ _ (1048576) _ hN0 (by omega) (by omega)).mono ?_
  rintro e w1 ⟨he, bb⟩
  replace bel := next_trans bel bb
  have zw1 := bb.size
  clear bb
  by_cases q0 : n0 ≤ 1048576
  case neg =>
    rw [if_pos (by omega)] at he
    subst he
    have F := Lib.hid (bW.trans (bel.mono bW.size))
    clear bel bW cA0 cA1
    go_wp2
    go_ret
    exact ⟨rfl, F.out⟩
  rw [if_neg (by omega)] at he
  subst he
  have h0 : n0 ≤ 1048576 := by omega
  clear cA0 cA1
  have cA0 : w1.cell? ⟨w.heap.size, 0, none⟩ = some (.slice a0 n0 c0) := (rA0.next bel).cell 0
  have cA1 : w1.cell? ⟨w.heap.size + 1, 0, none⟩ = some (.slice a1 n1 c1) := (rA1.next bel).cell 0
  go_wp2_with fail
  refine (substSz _ _ _ xs1 (1048576 - (n0 : Int)) _ (s1.next bel) hN1 (by omega) (by omega)).mono ?_
  rintro e w2 ⟨he, bb⟩
  rw [HT1.out] at he
  replace bel := next_trans bel bb
  have zw2 := bb.size
  clear bb
  by_cases q1 : n0 + t1 ≤ 1048576
  case neg =>
    rw [if_pos (by omega)] at he
    subst he
    have F := Lib.hid (bW.trans (bel.mono bW.size))
    clear bel bW cA0 cA1
    go_wp2
    go_ret
    exact ⟨rfl, F.out⟩
  rw [if_neg (by omega)] at he
  subst he
  have h1 : tot xs1 ≤ 1048576 := by rw [HT1.out]; omega
  replace h1 := Lib.hid h1
  have hn1 : n1 ≤ 1048576 := tot_len Hl1.out h1.out
  have hm1 : sumL xs1 n1 ≤ 1048576 := by have q := h1.out; unfold tot at q; rw [Hl1.out] at q; omega
  obtain ⟨z1, hz1⟩ : ∃ z, sumL xs1 n1 = z := ⟨_, rfl⟩
  rw [hz1] at hm1
  have HZ1 := Lib.hid hz1
  clear hz1
  clear cA0 cA1
  have cA0 : w2.cell? ⟨w.heap.size, 0, none⟩ = some (.slice a0 n0 c0) := (rA0.next bel).cell 0
  have cA1 : w2.cell? ⟨w.heap.size + 1, 0, none⟩ = some (.slice a1 n1 c1) := (rA1.next bel).cell 0
  have hlen : (filledL xs0 xs1 xs2).length ≤ 1048576 := Nat.le_trans (filled_len _ _ _) (by omega)
  obtain ⟨ys, hys⟩ : ∃ ys, filledL xs0 xs1 xs2 = ys := ⟨_, rfl⟩
  rw [hys] at hlen
  have HY := Lib.hid hys
  clear hys
  replace hlen := Lib.hid hlen
  go_wp2_with fail
  replace bel := bel.drew
  have zdw2 := (drew_below w2).size
  go_region_held3 (fun w' => w'.cell? ⟨w.heap.size, 0, none⟩ = some (.slice a0 n0 c0) ∧ w'.cell? ⟨w.heap.size + 1, 0, none⟩ = some (.slice a1 n1 c1))
    (go_keep)
    (first
      | (go_at_call_of 42 (Value.agg #[.slice a0 n0 c0]); refine (sigTo _ _ _ xs0 _ (s0.next bel) h0).mono ?_; rintro e w3 ⟨gp0, rfl, op0, yp0, bb0⟩; have bb := bb0; replace bel := next_trans bel bb; have cA0w3 : w3.cell? ⟨w.heap.size, 0, none⟩ = some (.slice a0 n0 c0) := (rA0.next bel).cell 0; have cA1w3 : w3.cell? ⟨w.heap.size + 1, 0, none⟩ = some (.slice a1 n1 c1) := (rA1.next bel).cell 0; have zqw3 := bb.size; clear bb bb0)
      | (go_at_call_of 43 (Value.agg #[.slice a1 n1 c1]); refine (substTo _ _ _ xs1 _ (s1.next bel) h1.out).mono ?_; rintro e w4 ⟨gp1, rfl, op1, yp1, bb0⟩; have bb := bb0; replace op0 := op0.next bb; replace bel := next_trans bel bb; have cA0w4 : w4.cell? ⟨w.heap.size, 0, none⟩ = some (.slice a0 n0 c0) := (rA0.next bel).cell 0; have cA1w4 : w4.cell? ⟨w.heap.size + 1, 0, none⟩ = some (.slice a1 n1 c1) := (rA1.next bel).cell 0; have zqw4 := bb.size; clear bb bb0)
      | (go_at_call_of 51 (Value.slice a2 n2 c2); refine (intsTo _ _ _ xs2 _ (s2.next bel) h2).mono ?_; rintro e w5 ⟨gp2, rfl, op2, yp2, bb0⟩; have bb := bb0; replace op0 := op0.next bb; replace op1 := op1.next bb; replace bel := next_trans bel bb; have cA0w5 : w5.cell? ⟨w.heap.size, 0, none⟩ = some (.slice a0 n0 c0) := (rA0.next bel).cell 0; have cA1w5 : w5.cell? ⟨w.heap.size + 1, 0, none⟩ = some (.slice a1 n1 c1) := (rA1.next bel).cell 0; have zqw5 := bb.size; clear bb bb0)
      | (go_at_call 21; refine (specFilled _ _ _ _ _ _ _ _ _ xs0 xs1 xs2 _ op0.rd op1.rd op2.rd h0 h1.out h2).mono ?_; rintro e w6 ⟨A0, m0, d0, he, o0, bb0⟩; rw [HV.out] at he; subst he; have bb := bb0; replace bel := next_trans bel bb; rw [HY.out] at o0; have cA0w6 : w6.cell? ⟨w.heap.size, 0, none⟩ = some (.slice a0 n0 c0) := (rA0.next bel).cell 0; have cA1w6 : w6.cell? ⟨w.heap.size + 1, 0, none⟩ = some (.slice a1 n1 c1) := (rA1.next bel).cell 0; have zqw6 := bb.size; clear bb bb0 op0 op1 op2))
  have sw := o0
  clear o0
  obtain ⟨Aw, mw, dw, eA, em, ed⟩ : ∃ A m d, A = A0 ∧ m = m0 ∧ d = d0 := ⟨_, _, _, rfl, rfl, rfl⟩
  subst eA em ed
  have belw := Below.refl w6.heap.size w6
  clear cA0 cA1 cA0w6 cA1w6
  have cA0 : w6.cell? ⟨w.heap.size, 0, none⟩ = some (.slice a0 n0 c0) := (rA0.next bel).cell 0
  have cA1 : w6.cell? ⟨w.heap.size + 1, 0, none⟩ = some (.slice a1 n1 c1) := (rA1.next bel).cell 0
  go_wp2_with fail
  refine (sigTo _ _ _ xs0 _ (s0.next bel) h0).mono ?_
  rintro e w7 ⟨gx0, rfl, ox0, yx0, bb⟩
  replace bel := next_trans bel bb
  replace belw := next_trans belw bb
  have zw7 := bb.size
  clear bb
  clear cA0 cA1
  have cA0 : w7.cell? ⟨w.heap.size, 0, none⟩ = some (.slice a0 n0 c0) := (rA0.next bel).cell 0
  have cA1 : w7.cell? ⟨w.heap.size + 1, 0, none⟩ = some (.slice a1 n1 c1) := (rA1.next bel).cell 0
  have dA0 : (w7.alloc (.cells #[.slice (some ⟨gx0, 0, none⟩) n0 n0] 26)).cell? ⟨w.heap.size, 0, none⟩ = some (.slice a0 n0 c0) := ((rA0.next bel).alloc _).cell 0
  have dA1 : (w7.alloc (.cells #[.slice (some ⟨gx0, 0, none⟩) n0 n0] 26)).cell? ⟨w.heap.size + 1, 0, none⟩ = some (.slice a1 n1 c1) := ((rA1.next bel).alloc _).cell 0
  go_wp2_with fail
  obtain ⟨w8, hw⟩ : ∃ W, W = w7.alloc (.cells #[.slice (some ⟨gx0, 0, none⟩) n0 n0] 26) := ⟨_, rfl⟩
  rw [← hw]
  have rx0 : Row w8 w7.heap.size 26 #[.slice (some ⟨gx0, 0, none⟩) n0 n0] := by rw [hw]; exact Row.new _ _ _
  have bb : Below w7.heap.size w7 w8 := by rw [hw]; exact (Below.refl _ _).alloc (Nat.le_refl _) _
  have yrx0 : w7.heap.size < w8.heap.size := by rw [hw]; simp
  clear hw
  replace ox0 := ox0.next bb
  replace bel := next_trans bel bb
  replace belw := next_trans belw bb
  have zw8 := bb.size
  clear bb
  clear dA0 dA1
  clear cA0 cA1
  have cA0 : w8.cell? ⟨w.heap.size, 0, none⟩ = some (.slice a0 n0 c0) := (rA0.next bel).cell 0
  have cA1 : w8.cell? ⟨w.heap.size + 1, 0, none⟩ = some (.slice a1 n1 c1) := (rA1.next bel).cell 0
  have cx0 : w8.cell? ⟨w7.heap.size, 0, none⟩ = some (.slice (some ⟨gx0, 0, none⟩) n0 n0) := (rx0).cell 0
  refine (substTo _ _ _ xs1 _ (s1.next bel) h1.out).mono ?_
  rintro e w9 ⟨gx1, rfl, ox1, yx1, bb⟩
  replace ox0 := ox0.next bb
  replace rx0 := rx0.next bb
  replace bel := next_trans bel bb
  replace belw := next_trans belw bb
  have zw9 := bb.size
  clear bb
  clear cA0 cA1 cx0
  have cA0 : w9.cell? ⟨w.heap.size, 0, none⟩ = some (.slice a0 n0 c0) := (rA0.next bel).cell 0
  have cA1 : w9.cell? ⟨w.heap.size + 1, 0, none⟩ = some (.slice a1 n1 c1) := (rA1.next bel).cell 0
  have cx0 : w9.cell? ⟨w7.heap.size, 0, none⟩ = some (.slice (some ⟨gx0, 0, none⟩) n0 n0) := (rx0).cell 0
  have dA0 : (w9.alloc (.cells #[.slice (some ⟨gx1, 0, none⟩) n1 n1] 29)).cell? ⟨w.heap.size, 0, none⟩ = some (.slice a0 n0 c0) := ((rA0.next bel).alloc _).cell 0
  have dA1 : (w9.alloc (.cells #[.slice (some ⟨gx1, 0, none⟩) n1 n1] 29)).cell? ⟨w.heap.size + 1, 0, none⟩ = some (.slice a1 n1 c1) := ((rA1.next bel).alloc _).cell 0
  have dx0 : (w9.alloc (.cells #[.slice (some ⟨gx1, 0, none⟩) n1 n1] 29)).cell? ⟨w7.heap.size, 0, none⟩ = some (.slice (some ⟨gx0, 0, none⟩) n0 n0) := ((rx0).alloc _).cell 0
  go_wp2_with fail
  obtain ⟨w10, hw⟩ : ∃ W, W = w9.alloc (.cells #[.slice (some ⟨gx1, 0, none⟩) n1 n1] 29) := ⟨_, rfl⟩
  rw [← hw]
  have rx1 : Row w10 w9.heap.size 29 #[.slice (some ⟨gx1, 0, none⟩) n1 n1] := by rw [hw]; exact Row.new _ _ _
  have bb : Below w9.heap.size w9 w10 := by rw [hw]; exact (Below.refl _ _).alloc (Nat.le_refl _) _
  have yrx1 : w9.heap.size < w10.heap.size := by rw [hw]; simp
  clear hw
  replace ox0 := ox0.next bb
  replace rx0 := rx0.next bb
  replace ox1 := ox1.next bb
  replace bel := next_trans bel bb
  replace belw := next_trans belw bb
  have zw10 := bb.size
  clear bb
  clear dA0 dA1 dx0
  clear cA0 cA1 cx0
  have cA0 : w10.cell? ⟨w.heap.size, 0, none⟩ = some (.slice a0 n0 c0) := (rA0.next bel).cell 0
  have cA1 : w10.cell? ⟨w.heap.size + 1, 0, none⟩ = some (.slice a1 n1 c1) := (rA1.next bel).cell 0
  have cx0 : w10.cell? ⟨w7.heap.size, 0, none⟩ = some (.slice (some ⟨gx0, 0, none⟩) n0 n0) := (rx0).cell 0
  have cx1 : w10.cell? ⟨w9.heap.size, 0, none⟩ = some (.slice (some ⟨gx1, 0, none⟩) n1 n1) := (rx1).cell 0
  refine (intsTo _ _ _ xs2 _ (s2.next bel) h2).mono ?_
  rintro e w11 ⟨gx2, rfl, ox2, yx2, bb⟩
  replace ox0 := ox0.next bb
  replace rx0 := rx0.next bb
  replace ox1 := ox1.next bb
  replace rx1 := rx1.next bb
  replace bel := next_trans bel bb
  replace belw := next_trans belw bb
  have zw11 := bb.size
  clear bb
  clear cA0 cA1 cx0 cx1
  have cA0 : w11.cell? ⟨w.heap.size, 0, none⟩ = some (.slice a0 n0 c0) := (rA0.next bel).cell 0
  have cA1 : w11.cell? ⟨w.heap.size + 1, 0, none⟩ = some (.slice a1 n1 c1) := (rA1.next bel).cell 0
  have cx0 : w11.cell? ⟨w7.heap.size, 0, none⟩ = some (.slice (some ⟨gx0, 0, none⟩) n0 n0) := (rx0).cell 0
  have cx1 : w11.cell? ⟨w9.heap.size, 0, none⟩ = some (.slice (some ⟨gx1, 0, none⟩) n1 n1) := (rx1).cell 0
  go_wp2_with fail
  refine (implFilled _ _ _ _ _ _ _ _ _ xs0 xs1 xs2 _ ox0.rd ox1.rd ox2.rd h0 h1.out h2).mono ?_
  rintro e w12 ⟨A0, m0, d0, he, o0, bb⟩
  rw [HV.out] at he
  subst he
  replace ox0 := ox0.next bb
  replace rx0 := rx0.next bb
  replace ox1 := ox1.next bb
  replace rx1 := rx1.next bb
  replace ox2 := ox2.next bb
  replace bel := next_trans bel bb
  replace belw := next_trans belw bb
  have zw12 := bb.size
  clear bb
  rw [HY.out] at o0
  have og := Ownd.of_own o0
  clear o0
  obtain ⟨Ag, mg, dg, eA, em, ed⟩ : ∃ A m d, A = A0 ∧ m = m0 ∧ d = d0 := ⟨_, _, _, rfl, rfl, rfl⟩
  subst eA em ed
  clear cA0 cA1 cx0 cx1
  have cA0 : w12.cell? ⟨w.heap.size, 0, none⟩ = some (.slice a0 n0 c0) := (rA0.next bel).cell 0
  have cA1 : w12.cell? ⟨w.heap.size + 1, 0, none⟩ = some (.slice a1 n1 c1) := (rA1.next bel).cell 0
  have cx0 : w12.cell? ⟨w7.heap.size, 0, none⟩ = some (.slice (some ⟨gx0, 0, none⟩) n0 n0) := (rx0).cell 0
  have cx1 : w12.cell? ⟨w9.heap.size, 0, none⟩ = some (.slice (some ⟨gx1, 0, none⟩) n1 n1) := (rx1).cell 0
  have hlenn : mg ≤ 1048576 := by rw [← og.rd.1]; exact hlen.out
  go_wp2_with fail
  refine (intsEq _ _ _ _ _ _ ys _ og.rd (sw.next belw) hlenn).mono ?_
  rintro e w13 ⟨rfl, bb⟩
  replace ox0 := ox0.next bb
  replace rx0 := rx0.next bb
  replace ox1 := ox1.next bb
  replace rx1 := rx1.next bb
  replace ox2 := ox2.next bb
  replace og := og.next bb
  replace bel := next_trans bel bb
  replace belw := next_trans belw bb
  have zw13 := bb.size
  clear bb
  clear cA0 cA1 cx0 cx1
  have cA0 : w13.cell? ⟨w.heap.size, 0, none⟩ = some (.slice a0 n0 c0) := (rA0.next bel).cell 0
  have cA1 : w13.cell? ⟨w.heap.size + 1, 0, none⟩ = some (.slice a1 n1 c1) := (rA1.next bel).cell 0
  have cx0 : w13.cell? ⟨w7.heap.size, 0, none⟩ = some (.slice (some ⟨gx0, 0, none⟩) n0 n0) := (rx0).cell 0
  have cx1 : w13.cell? ⟨w9.heap.size, 0, none⟩ = some (.slice (some ⟨gx1, 0, none⟩) n1 n1) := (rx1).cell 0
  go_wp2_with fail
  replace ox0 := ox0.drew
  replace rx0 := rx0.drew
  replace ox1 := ox1.drew
  replace rx1 := rx1.drew
  replace ox2 := ox2.drew
  replace og := og.drew
  replace bel := bel.drew
  replace belw := belw.drew
  have zdw13 := (drew_below w13).size
  go_region_held3 (fun w' => w'.cell? ⟨w7.heap.size, 0, none⟩ = some (.slice (some ⟨gx0, 0, none⟩) n0 n0) ∧ w'.cell? ⟨w.heap.size, 0, none⟩ = some (.slice a0 n0 c0))
    (go_keep)
    (first
      | (go_at_call 42; refine (sigTo _ _ _ xs0 _ (s0.next bel) h0).mono ?_; rintro e w14 ⟨gt0, rfl, ot, yt0, bb⟩; replace ox0 := ox0.next bb; replace rx0 := rx0.next bb; replace ox1 := ox1.next bb; replace rx1 := rx1.next bb; replace ox2 := ox2.next bb; replace og := og.next bb; replace bel := next_trans bel bb; replace belw := next_trans belw bb; have k0w14 : w14.cell? ⟨w.heap.size, 0, none⟩ = some (.slice a0 n0 c0) := (rA0.next bel).cell 0; have l0w14 : w14.cell? ⟨w7.heap.size, 0, none⟩ = some (.slice (some ⟨gx0, 0, none⟩) n0 n0) := rx0.cell 0; have zqw14 := bb.size; clear bb)
      | (go_at_call 44; refine (sigEq _ _ _ _ _ _ xs0 _ ox0.rd ot.rd h0).mono ?_; rintro e w15 ⟨rfl, bb⟩; replace ox0 := ox0.next bb; replace rx0 := rx0.next bb; replace ox1 := ox1.next bb; replace rx1 := rx1.next bb; replace ox2 := ox2.next bb; replace og := og.next bb; replace bel := next_trans bel bb; replace belw := next_trans belw bb; have k0w15 : w15.cell? ⟨w.heap.size, 0, none⟩ = some (.slice a0 n0 c0) := (rA0.next bel).cell 0; have l0w15 : w15.cell? ⟨w7.heap.size, 0, none⟩ = some (.slice (some ⟨gx0, 0, none⟩) n0 n0) := rx0.cell 0; have zqw15 := bb.size; clear bb ot))
  clear k0w14 l0w14 k0w15 l0w15
  clear cA0 cA1 cx0 cx1
  have cA0 : w15.cell? ⟨w.heap.size, 0, none⟩ = some (.slice a0 n0 c0) := (rA0.next bel).cell 0
  have cA1 : w15.cell? ⟨w.heap.size + 1, 0, none⟩ = some (.slice a1 n1 c1) := (rA1.next bel).cell 0
  have cx0 : w15.cell? ⟨w7.heap.size, 0, none⟩ = some (.slice (some ⟨gx0, 0, none⟩) n0 n0) := (rx0).cell 0
  have cx1 : w15.cell? ⟨w9.heap.size, 0, none⟩ = some (.slice (some ⟨gx1, 0, none⟩) n1 n1) := (rx1).cell 0
  go_wp2_with fail
  replace ox0 := ox0.drew
  replace rx0 := rx0.drew
  replace ox1 := ox1.drew
  replace rx1 := rx1.drew
  replace ox2 := ox2.drew
  replace og := og.drew
  replace bel := bel.drew
  replace belw := belw.drew
  have zdw15 := (drew_below w15).size
  go_region_held3 (fun w' => w'.cell? ⟨w9.heap.size, 0, none⟩ = some (.slice (some ⟨gx1, 0, none⟩) n1 n1) ∧ w'.cell? ⟨w.heap.size + 1, 0, none⟩ = some (.slice a1 n1 c1))
    (go_keep)
    (first
      | (go_at_call 43; refine (substTo _ _ _ xs1 _ (s1.next bel) h1.out).mono ?_; rintro e w16 ⟨gt1, rfl, ot, yt1, bb⟩; replace ox0 := ox0.next bb; replace rx0 := rx0.next bb; replace ox1 := ox1.next bb; replace rx1 := rx1.next bb; replace ox2 := ox2.next bb; replace og := og.next bb; replace bel := next_trans bel bb; replace belw := next_trans belw bb; have k1w16 : w16.cell? ⟨w.heap.size + 1, 0, none⟩ = some (.slice a1 n1 c1) := (rA1.next bel).cell 0; have l1w16 : w16.cell? ⟨w9.heap.size, 0, none⟩ = some (.slice (some ⟨gx1, 0, none⟩) n1 n1) := rx1.cell 0; have zqw16 := bb.size; clear bb)
      | (go_at_call 45; refine (substEq _ _ _ _ _ _ xs1 _ ox1.rd ot.rd h1.out).mono ?_; rintro e w17 ⟨rfl, bb⟩; replace ox0 := ox0.next bb; replace rx0 := rx0.next bb; replace ox1 := ox1.next bb; replace rx1 := rx1.next bb; replace ox2 := ox2.next bb; replace og := og.next bb; replace bel := next_trans bel bb; replace belw := next_trans belw bb; have k1w17 : w17.cell? ⟨w.heap.size + 1, 0, none⟩ = some (.slice a1 n1 c1) := (rA1.next bel).cell 0; have l1w17 : w17.cell? ⟨w9.heap.size, 0, none⟩ = some (.slice (some ⟨gx1, 0, none⟩) n1 n1) := rx1.cell 0; have zqw17 := bb.size; clear bb ot))
  clear k1w16 l1w16 k1w17 l1w17
  clear cA0 cA1 cx0 cx1
  have cA0 : w17.cell? ⟨w.heap.size, 0, none⟩ = some (.slice a0 n0 c0) := (rA0.next bel).cell 0
  have cA1 : w17.cell? ⟨w.heap.size + 1, 0, none⟩ = some (.slice a1 n1 c1) := (rA1.next bel).cell 0
  have cx0 : w17.cell? ⟨w7.heap.size, 0, none⟩ = some (.slice (some ⟨gx0, 0, none⟩) n0 n0) := (rx0).cell 0
  have cx1 : w17.cell? ⟨w9.heap.size, 0, none⟩ = some (.slice (some ⟨gx1, 0, none⟩) n1 n1) := (rx1).cell 0
  go_wp2_with fail
  refine (intsTo _ _ _ xs2 _ (s2.next bel) h2).mono ?_
  rintro e w18 ⟨gt2, rfl, ot2, yt2, bb⟩
  replace ox0 := ox0.next bb
  replace rx0 := rx0.next bb
  replace ox1 := ox1.next bb
  replace rx1 := rx1.next bb
  replace ox2 := ox2.next bb
  replace og := og.next bb
  replace bel := next_trans bel bb
  replace belw := next_trans belw bb
  have zw18 := bb.size
  clear bb
  clear cA0 cA1 cx0 cx1
  have cA0 : w18.cell? ⟨w.heap.size, 0, none⟩ = some (.slice a0 n0 c0) := (rA0.next bel).cell 0
  have cA1 : w18.cell? ⟨w.heap.size + 1, 0, none⟩ = some (.slice a1 n1 c1) := (rA1.next bel).cell 0
  have cx0 : w18.cell? ⟨w7.heap.size, 0, none⟩ = some (.slice (some ⟨gx0, 0, none⟩) n0 n0) := (rx0).cell 0
  have cx1 : w18.cell? ⟨w9.heap.size, 0, none⟩ = some (.slice (some ⟨gx1, 0, none⟩) n1 n1) := (rx1).cell 0
  go_wp2_with fail
  refine (intsEq _ _ _ _ _ _ xs2 _ ox2.rd ot2.rd h2).mono ?_
  rintro e w19 ⟨rfl, bb⟩
  replace ox0 := ox0.next bb
  replace rx0 := rx0.next bb
  replace ox1 := ox1.next bb
  replace rx1 := rx1.next bb
  replace ox2 := ox2.next bb
  replace og := og.next bb
  replace ot2 := ot2.next bb
  replace bel := next_trans bel bb
  replace belw := next_trans belw bb
  have zw19 := bb.size
  clear bb
  clear ot2
  clear cA0 cA1 cx0 cx1
  have cA0 : w19.cell? ⟨w.heap.size, 0, none⟩ = some (.slice a0 n0 c0) := (rA0.next bel).cell 0
  have cA1 : w19.cell? ⟨w.heap.size + 1, 0, none⟩ = some (.slice a1 n1 c1) := (rA1.next bel).cell 0
  have cx0 : w19.cell? ⟨w7.heap.size, 0, none⟩ = some (.slice (some ⟨gx0, 0, none⟩) n0 n0) := (rx0).cell 0
  have cx1 : w19.cell? ⟨w9.heap.size, 0, none⟩ = some (.slice (some ⟨gx1, 0, none⟩) n1 n1) := (rx1).cell 0
  go_wp2_with fail
  refine (sigMark (w6.heap.size) (w7.heap.size) _ _ _ xs0 (1) _ ox0 h0 (by omega) (by omega)).mono ?_
  rintro e w20 ⟨he, -, bt⟩
  subst he
  clear ox0
  replace rx0 := Row.btw rx0 bt (by omega)
  replace ox1 := ox1.btw bt (by omega)
  replace rx1 := Row.btw rx1 bt (by omega)
  replace ox2 := ox2.btw bt (by omega)
  replace og := og.btw bt (by omega)
  replace bel := Below.btw bel bt (by omega) bel.size
  replace belw := Below.btw belw bt (by omega) belw.size
  have zw20 := bt.size
  clear bt
  clear cA0 cA1 cx0 cx1
  have cA0 : w20.cell? ⟨w.heap.size, 0, none⟩ = some (.slice a0 n0 c0) := (rA0.next bel).cell 0
  have cA1 : w20.cell? ⟨w.heap.size + 1, 0, none⟩ = some (.slice a1 n1 c1) := (rA1.next bel).cell 0
  have cx0 : w20.cell? ⟨w7.heap.size, 0, none⟩ = some (.slice (some ⟨gx0, 0, none⟩) n0 n0) := (rx0).cell 0
  have cx1 : w20.cell? ⟨w9.heap.size, 0, none⟩ = some (.slice (some ⟨gx1, 0, none⟩) n1 n1) := (rx1).cell 0
  go_wp2_with fail
  refine (substMark (w8.heap.size) (w9.heap.size) _ _ _ xs1 (1 + (n0 : Int)) _ ox1 (by omega) h1.out (by omega) (by omega)).mono ?_
  rintro e w21 ⟨he, -, bt⟩
  rw [HZ1.out] at he
  subst he
  clear ox1
  replace rx0 := Row.btw rx0 bt (by omega)
  replace rx1 := Row.btw rx1 bt (by omega)
  replace ox2 := ox2.btw bt (by omega)
  replace og := og.btw bt (by omega)
  replace bel := Below.btw bel bt (by omega) bel.size
  replace belw := Below.btw belw bt (by omega) belw.size
  have zw21 := bt.size
  clear bt
  clear cA0 cA1 cx0 cx1
  have cA0 : w21.cell? ⟨w.heap.size, 0, none⟩ = some (.slice a0 n0 c0) := (rA0.next bel).cell 0
  have cA1 : w21.cell? ⟨w.heap.size + 1, 0, none⟩ = some (.slice a1 n1 c1) := (rA1.next bel).cell 0
  have cx0 : w21.cell? ⟨w7.heap.size, 0, none⟩ = some (.slice (some ⟨gx0, 0, none⟩) n0 n0) := (rx0).cell 0
  have cx1 : w21.cell? ⟨w9.heap.size, 0, none⟩ = some (.slice (some ⟨gx1, 0, none⟩) n1 n1) := (rx1).cell 0
  go_wp2_with fail
  refine (intsMark (w10.heap.size) (w11.heap.size) _ _ _ xs2 (1 + (n0 : Int) + (z1 : Int)) _ ox2 h2 (by omega) (by omega)).mono ?_
  rintro e w22 ⟨he, -, bt⟩
  subst he
  clear ox2
  replace rx0 := Row.btw rx0 bt (by omega)
  replace rx1 := Row.btw rx1 bt (by omega)
  replace og := og.btw bt (by omega)
  replace bel := Below.btw bel bt (by omega) bel.size
  replace belw := Below.btw belw bt (by omega) belw.size
  have zw22 := bt.size
  clear bt
  clear cA0 cA1 cx0 cx1
  have cA0 : w22.cell? ⟨w.heap.size, 0, none⟩ = some (.slice a0 n0 c0) := (rA0.next bel).cell 0
  have cA1 : w22.cell? ⟨w.heap.size + 1, 0, none⟩ = some (.slice a1 n1 c1) := (rA1.next bel).cell 0
  have cx0 : w22.cell? ⟨w7.heap.size, 0, none⟩ = some (.slice (some ⟨gx0, 0, none⟩) n0 n0) := (rx0).cell 0
  have cx1 : w22.cell? ⟨w9.heap.size, 0, none⟩ = some (.slice (some ⟨gx1, 0, none⟩) n1 n1) := (rx1).cell 0
  clear rx0
  clear rx1
  clear cA0 cA1 cx0 cx1
  have cA0 : w22.cell? ⟨w.heap.size, 0, none⟩ = some (.slice a0 n0 c0) := (rA0.next bel).cell 0
  have cA1 : w22.cell? ⟨w.heap.size + 1, 0, none⟩ = some (.slice a1 n1 c1) := (rA1.next bel).cell 0
  go_wp2_with fail
  refine (intsEq _ _ _ _ _ _ ys _ og.rd (sw.next belw) hlenn).mono ?_
  rintro e w23 ⟨rfl, bb⟩
  replace og := og.next bb
  replace bel := next_trans bel bb
  replace belw := next_trans belw bb
  have zw23 := bb.size
  clear bb
  clear cA0 cA1
  have cA0 : w23.cell? ⟨w.heap.size, 0, none⟩ = some (.slice a0 n0 c0) := (rA0.next bel).cell 0
  have cA1 : w23.cell? ⟨w.heap.size + 1, 0, none⟩ = some (.slice a1 n1 c1) := (rA1.next bel).cell 0
  go_wp2_with fail
  refine (intsMark (w11.heap.size) (w12.heap.size) _ _ _ ys 1 _ og hlenn (by omega) (by omega)).mono ?_
  rintro e w24 ⟨he, om, bt⟩
  subst he
  clear og
  replace bel := Below.btw bel bt (by omega) bel.size
  replace belw := Below.btw belw bt (by omega) belw.size
  have zw24 := bt.size
  clear bt
  clear cA0 cA1
  have cA0 : w24.cell? ⟨w.heap.size, 0, none⟩ = some (.slice a0 n0 c0) := (rA0.next bel).cell 0
  have cA1 : w24.cell? ⟨w.heap.size + 1, 0, none⟩ = some (.slice a1 n1 c1) := (rA1.next bel).cell 0
  go_wp2_with fail
  refine (intsHeld _ _ _ 1 _ om.rd hlenn (by omega) (by omega)).mono ?_
  rintro e w25 ⟨rfl, bb⟩
  replace om := om.next bb
  replace bel := next_trans bel bb
  replace belw := next_trans belw bb
  have zw25 := bb.size
  clear bb
  clear cA0 cA1
  have cA0 : w25.cell? ⟨w.heap.size, 0, none⟩ = some (.slice a0 n0 c0) := (rA0.next bel).cell 0
  have cA1 : w25.cell? ⟨w.heap.size + 1, 0, none⟩ = some (.slice a1 n1 c1) := (rA1.next bel).cell 0
  go_wp2_with fail
  replace om := om.drew
  replace bel := bel.drew
  replace belw := belw.drew
  have zdw25 := (drew_below w25).size
  go_region_held3 (fun w' => w'.cell? ⟨w.heap.size, 0, none⟩ = some (.slice a0 n0 c0) ∧ w'.cell? ⟨w.heap.size + 1, 0, none⟩ = some (.slice a1 n1 c1))
    (go_keep)
    (first
      | (go_at_call_of 42 (Value.agg #[.slice a0 n0 c0]); refine (sigTo _ _ _ xs0 _ (s0.next bel) h0).mono ?_; rintro e w26 ⟨gp0, rfl, op0, yp0, bb0⟩; have bb := bb0; replace om := om.next bb; replace bel := next_trans bel bb; replace belw := next_trans belw bb; have cA0w26 : w26.cell? ⟨w.heap.size, 0, none⟩ = some (.slice a0 n0 c0) := (rA0.next bel).cell 0; have cA1w26 : w26.cell? ⟨w.heap.size + 1, 0, none⟩ = some (.slice a1 n1 c1) := (rA1.next bel).cell 0; have zqw26 := bb.size; clear bb bb0)
      | (go_at_call_of 43 (Value.agg #[.slice a1 n1 c1]); refine (substTo _ _ _ xs1 _ (s1.next bel) h1.out).mono ?_; rintro e w27 ⟨gp1, rfl, op1, yp1, bb0⟩; have bb := bb0; replace om := om.next bb; replace op0 := op0.next bb; replace bel := next_trans bel bb; replace belw := next_trans belw bb; have cA0w27 : w27.cell? ⟨w.heap.size, 0, none⟩ = some (.slice a0 n0 c0) := (rA0.next bel).cell 0; have cA1w27 : w27.cell? ⟨w.heap.size + 1, 0, none⟩ = some (.slice a1 n1 c1) := (rA1.next bel).cell 0; have zqw27 := bb.size; clear bb bb0)
      | (go_at_call_of 51 (Value.slice a2 n2 c2); refine (intsTo _ _ _ xs2 _ (s2.next bel) h2).mono ?_; rintro e w28 ⟨gp2, rfl, op2, yp2, bb0⟩; have bb := bb0; replace om := om.next bb; replace op0 := op0.next bb; replace op1 := op1.next bb; replace bel := next_trans bel bb; replace belw := next_trans belw bb; have cA0w28 : w28.cell? ⟨w.heap.size, 0, none⟩ = some (.slice a0 n0 c0) := (rA0.next bel).cell 0; have cA1w28 : w28.cell? ⟨w.heap.size + 1, 0, none⟩ = some (.slice a1 n1 c1) := (rA1.next bel).cell 0; have zqw28 := bb.size; clear bb bb0)
      | (go_at_call 20; refine (implFilled _ _ _ _ _ _ _ _ _ xs0 xs1 xs2 _ op0.rd op1.rd op2.rd h0 h1.out h2).mono ?_; rintro e w29 ⟨A0, m0, d0, he, o0, bb0⟩; rw [HV.out] at he; subst he; have bb := bb0; replace om := om.next bb; replace bel := next_trans bel bb; replace belw := next_trans belw bb; rw [HY.out] at o0; have cA0w29 : w29.cell? ⟨w.heap.size, 0, none⟩ = some (.slice a0 n0 c0) := (rA0.next bel).cell 0; have cA1w29 : w29.cell? ⟨w.heap.size + 1, 0, none⟩ = some (.slice a1 n1 c1) := (rA1.next bel).cell 0; have zqw29 := bb.size; clear bb bb0 op0 op1 op2))
  have sh := Own.seg o0
  clear o0
  obtain ⟨Ah, mh, dh, eA, em, ed⟩ : ∃ A m d, A = A0 ∧ m = m0 ∧ d = d0 := ⟨_, _, _, rfl, rfl, rfl⟩
  subst eA em ed
  have belh := Below.refl w29.heap.size w29
  clear cA0 cA1 cA0w29 cA1w29
  have cA0 : w29.cell? ⟨w.heap.size, 0, none⟩ = some (.slice a0 n0 c0) := (rA0.next bel).cell 0
  have cA1 : w29.cell? ⟨w.heap.size + 1, 0, none⟩ = some (.slice a1 n1 c1) := (rA1.next bel).cell 0
  go_wp2_with fail
  refine (intsEq _ _ _ _ _ _ ys _ (sh.next belh) (sw.next belw) (by rw [← sh.1]; exact hlen.out)).mono ?_
  rintro e w30 ⟨rfl, bb⟩
  replace om := om.next bb
  replace bel := next_trans bel bb
  replace belw := next_trans belw bb
  replace belh := next_trans belh bb
  have zw30 := bb.size
  clear bb
  clear cA0 cA1
  have cA0 : w30.cell? ⟨w.heap.size, 0, none⟩ = some (.slice a0 n0 c0) := (rA0.next bel).cell 0
  have cA1 : w30.cell? ⟨w.heap.size + 1, 0, none⟩ = some (.slice a1 n1 c1) := (rA1.next bel).cell 0
  go_wp2_with fail
  refine (intsHeld _ _ _ 1 _ om.rd hlenn (by omega) (by omega)).mono ?_
  rintro e w31 ⟨rfl, bb⟩
  replace om := om.next bb
  replace bel := next_trans bel bb
  replace belw := next_trans belw bb
  replace belh := next_trans belh bb
  have zw31 := bb.size
  clear bb
  clear cA0 cA1
  have cA0 : w31.cell? ⟨w.heap.size, 0, none⟩ = some (.slice a0 n0 c0) := (rA0.next bel).cell 0
  have cA1 : w31.cell? ⟨w.heap.size + 1, 0, none⟩ = some (.slice a1 n1 c1) := (rA1.next bel).cell 0
  have F := Lib.hid (bW.trans (bel.mono bW.size))
  clear bel belw belh om bW cA0 cA1
  go_wp2
  go_ret
  exact ⟨rfl, F.out⟩
end Go.Proofs.Ytdeegjeopkcomaa.wFilled
