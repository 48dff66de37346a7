/-
  THE WALK of laws.FnExactSameSubst: it returns true, whatever the arguments, and writes nothing that was there. Conditions: the slices read as lists. Written by a program of mine (gen_exact.py). By an AI agent.
-/
import Derived.Test.YtdeegjeopkcomaaKinds
import Derived.Test.YtdeegjeopkcomaaSameSubst
import Derived.Deep.RegionHeld3
namespace Go.Proofs.Ytdeegjeopkcomaa.wSameSubst
open Go.RowKit Go.Proofs.Ytdeegjeopkcomaa.base Go.Proofs.Ytdeegjeopkcomaa.ints Go.Proofs.Ytdeegjeopkcomaa.sig Go.Proofs.Ytdeegjeopkcomaa.cursor Go.Proofs.Ytdeegjeopkcomaa.marks Go.Proofs.Ytdeegjeopkcomaa.app Go.Proofs.Ytdeegjeopkcomaa.sym Go.Proofs.Ytdeegjeopkcomaa.appAt Go.Proofs.Ytdeegjeopkcomaa.segs Go.Proofs.Ytdeegjeopkcomaa.segsHelp Go.Proofs.Ytdeegjeopkcomaa.segsMark Go.Proofs.Ytdeegjeopkcomaa.kinds Go.Proofs.Ytdeegjeopkcomaa.term Go.Proofs.Ytdeegjeopkcomaa.termOk Go.Proofs.Ytdeegjeopkcomaa.varsOf Go.Proofs.Ytdeegjeopkcomaa.substOk Go.Proofs.Ytdeegjeopkcomaa.gives Go.Proofs.Ytdeegjeopkcomaa.sameSubst
set_option maxRecDepth 100000

set_option maxHeartbeats 8000000 in
theorem law (a0 : Option Addr) (n0 c0 : Nat) (xs0 : List Int) (a1 : Option Addr) (n1 c1 : Nat) (xs1 : List (List Int)) (a2 : Option Addr) (n2 c2 : Nat) (xs2 : List (List Int)) (w : World) (s0 : Seg w w.heap.size a0 n0 xs0) (hN0 : n0 ≤ 9223372036854775807) (s1 : Segs w w.heap.size a1 n1 xs1) (hN1 : n1 ≤ 9223372036854775807) (s2 : Segs w w.heap.size a2 n2 xs2) (hN2 : n2 ≤ 9223372036854775807) :
    Calls Try.prog 8 #[.agg #[.slice a0 n0 c0], .agg #[.slice a1 n1 c1], .agg #[.slice a2 n2 c2]] w (Fine w) := by
  obtain ⟨W, hW⟩ : ∃ W, W = ((w.alloc (.cells #[.slice a0 n0 c0] 47)).alloc (.cells #[.slice a1 n1 c1] 48)).alloc (.cells #[.slice a2 n2 c2] 48) := ⟨_, rfl⟩
  have rA0 : Row W (w.heap.size) 47 #[.slice a0 n0 c0] := by rw [hW]; have := ((Row.new (w) 47 #[.slice a0 n0 c0]).alloc (.cells #[.slice a1 n1 c1] 48)).alloc (.cells #[.slice a2 n2 c2] 48); simpa using this
  have rA1 : Row W (w.heap.size + 1) 48 #[.slice a1 n1 c1] := by rw [hW]; have := (Row.new (w.alloc (.cells #[.slice a0 n0 c0] 47)) 48 #[.slice a1 n1 c1]).alloc (.cells #[.slice a2 n2 c2] 48); simpa using this
  have rA2 : Row W (w.heap.size + 1 + 1) 48 #[.slice a2 n2 c2] := by rw [hW]; have := Row.new ((w.alloc (.cells #[.slice a0 n0 c0] 47)).alloc (.cells #[.slice a1 n1 c1] 48)) 48 #[.slice a2 n2 c2]; simpa using this
  have bW : Below w.heap.size w W := by rw [hW]; exact (((Below.refl w.heap.size w).alloc (by simp) (.cells #[.slice a0 n0 c0] 47)).alloc (by simp) (.cells #[.slice a1 n1 c1] 48)).alloc (by simp; omega) (.cells #[.slice a2 n2 c2] 48)
  have zA0 := rA0.lt
  have zA1 := rA1.lt
  have zA2 := rA2.lt
  replace s0 := s0.next bW
  have Hl0 := Lib.hid s0.1
  replace s1 := s1.next bW
  have Hl1 := Lib.hid s1.1
  replace s2 := s2.next bW
  have Hl2 := Lib.hid s2.1
  have HW := Lib.hid hW
  clear hW
  obtain ⟨t1, ht1⟩ : ∃ z, tot xs1 = z := ⟨_, rfl⟩
  have HT1 := Lib.hid ht1
  clear ht1
  obtain ⟨t2, ht2⟩ : ∃ z, tot xs2 = z := ⟨_, rfl⟩
  have HT2 := Lib.hid ht2
  clear ht2
  obtain ⟨v, hv⟩ : ∃ v, sameB xs0 xs1 xs2 = v := ⟨_, rfl⟩
  have HV := Lib.hid hv
  clear hv
  have ev : (v != v) = false := by simp
  go_enter Try.func8, Try.ntmps8
  go_wp2_with fail
  rw [← HW.out]
  clear HW
  have bel := Below.refl W.heap.size W
  have cA0 : W.cell? ⟨w.heap.size, 0, none⟩ = some (.slice a0 n0 c0) := (rA0.next bel).cell 0
  have cA1 : W.cell? ⟨w.heap.size + 1, 0, none⟩ = some (.slice a1 n1 c1) := (rA1.next bel).cell 0
  have cA2 : W.cell? ⟨w.heap.size + 1 + 1, 0, none⟩ = some (.slice a2 n2 c2) := (rA2.next bel).cell 0
  refine (szSig _ _ _ (1048576) _ hN0 (by omega) (by omega)).mono ?_
  rintro e w1 ⟨he, bb⟩
  replace bel := next_trans bel bb
  have zw1 := bb.size
  clear bb
  by_cases q0 : n0 ≤ 1048576
  case neg =>
    rw [if_pos (by omega)] at he
    subst he
    have F := Lib.hid (bW.trans (bel.mono bW.size))
    clear bel bW cA0 cA1 cA2
    go_wp2
    go_ret
    exact ⟨rfl, F.out⟩
  rw [if_neg (by omega)] at he
  subst he
  have h0 : n0 ≤ 1048576 := by omega
  clear cA0 cA1 cA2
  have cA0 : w1.cell? ⟨w.heap.size, 0, none⟩ = some (.slice a0 n0 c0) := (rA0.next bel).cell 0
  have cA1 : w1.cell? ⟨w.heap.size + 1, 0, none⟩ = some (.slice a1 n1 c1) := (rA1.next bel).cell 0
  have cA2 : w1.cell? ⟨w.heap.size + 1 + 1, 0, none⟩ = some (.slice a2 n2 c2) := (rA2.next bel).cell 0
  go_wp2_with fail
  refine (substSz _ _ _ xs1 (1048576 - (n0 : Int)) _ (s1.next bel) hN1 (by omega) (by omega)).mono ?_
  rintro e w2 ⟨he, bb⟩
  rw [HT1.out] at he
  replace bel := next_trans bel bb
  have zw2 := bb.size
  clear bb
  by_cases q1 : n0 + t1 ≤ 1048576
  case neg =>
    rw [if_pos (by omega)] at he
    subst he
    have F := Lib.hid (bW.trans (bel.mono bW.size))
    clear bel bW cA0 cA1 cA2
    go_wp2
    go_ret
    exact ⟨rfl, F.out⟩
  rw [if_neg (by omega)] at he
  subst he
  have h1 : tot xs1 ≤ 1048576 := by rw [HT1.out]; omega
  replace h1 := Lib.hid h1
  have hn1 : n1 ≤ 1048576 := tot_len Hl1.out h1.out
  have hm1 : sumL xs1 n1 ≤ 1048576 := by have q := h1.out; unfold tot at q; rw [Hl1.out] at q; omega
  obtain ⟨z1, hz1⟩ : ∃ z, sumL xs1 n1 = z := ⟨_, rfl⟩
  rw [hz1] at hm1
  have HZ1 := Lib.hid hz1
  clear hz1
  clear cA0 cA1 cA2
  have cA0 : w2.cell? ⟨w.heap.size, 0, none⟩ = some (.slice a0 n0 c0) := (rA0.next bel).cell 0
  have cA1 : w2.cell? ⟨w.heap.size + 1, 0, none⟩ = some (.slice a1 n1 c1) := (rA1.next bel).cell 0
  have cA2 : w2.cell? ⟨w.heap.size + 1 + 1, 0, none⟩ = some (.slice a2 n2 c2) := (rA2.next bel).cell 0
  go_wp2_with fail
  refine (substSz _ _ _ xs2 (1048576 - (n0 : Int) - (t1 : Int)) _ (s2.next bel) hN2 (by omega) (by omega)).mono ?_
  rintro e w3 ⟨he, bb⟩
  rw [HT2.out] at he
  replace bel := next_trans bel bb
  have zw3 := bb.size
  clear bb
  by_cases q2 : n0 + t1 + t2 ≤ 1048576
  case neg =>
    rw [if_pos (by omega)] at he
    subst he
    have F := Lib.hid (bW.trans (bel.mono bW.size))
    clear bel bW cA0 cA1 cA2
    go_wp2
    go_ret
    exact ⟨rfl, F.out⟩
  rw [if_neg (by omega)] at he
  subst he
  have h2 : tot xs2 ≤ 1048576 := by rw [HT2.out]; omega
  replace h2 := Lib.hid h2
  have hn2 : n2 ≤ 1048576 := tot_len Hl2.out h2.out
  have hm2 : sumL xs2 n2 ≤ 1048576 := by have q := h2.out; unfold tot at q; rw [Hl2.out] at q; omega
  obtain ⟨z2, hz2⟩ : ∃ z, sumL xs2 n2 = z := ⟨_, rfl⟩
  rw [hz2] at hm2
  have HZ2 := Lib.hid hz2
  clear hz2
  clear cA0 cA1 cA2
  have cA0 : w3.cell? ⟨w.heap.size, 0, none⟩ = some (.slice a0 n0 c0) := (rA0.next bel).cell 0
  have cA1 : w3.cell? ⟨w.heap.size + 1, 0, none⟩ = some (.slice a1 n1 c1) := (rA1.next bel).cell 0
  have cA2 : w3.cell? ⟨w.heap.size + 1 + 1, 0, none⟩ = some (.slice a2 n2 c2) := (rA2.next bel).cell 0
  go_wp2_with fail
  replace bel := bel.drew
  go_region_held3 (fun w' => w'.cell? ⟨w.heap.size, 0, none⟩ = some (.slice a0 n0 c0) ∧ w'.cell? ⟨w.heap.size + 1, 0, none⟩ = some (.slice a1 n1 c1) ∧ w'.cell? ⟨w.heap.size + 1 + 1, 0, none⟩ = some (.slice a2 n2 c2))
    (go_keep)
    (first
      | (go_at_call_of 42 (Value.agg #[.slice a0 n0 c0]); refine (sigTo _ _ _ xs0 _ (s0.next bel) h0).mono ?_; rintro e w4 ⟨gp0, rfl, op0, yp0, bb0⟩; have bb := bb0; replace bel := next_trans bel bb; have cA0w4 : w4.cell? ⟨w.heap.size, 0, none⟩ = some (.slice a0 n0 c0) := (rA0.next bel).cell 0; have cA1w4 : w4.cell? ⟨w.heap.size + 1, 0, none⟩ = some (.slice a1 n1 c1) := (rA1.next bel).cell 0; have cA2w4 : w4.cell? ⟨w.heap.size + 1 + 1, 0, none⟩ = some (.slice a2 n2 c2) := (rA2.next bel).cell 0; clear bb bb0)
      | (go_at_call_of 43 (Value.agg #[.slice a1 n1 c1]); refine (substTo _ _ _ xs1 _ (s1.next bel) h1.out).mono ?_; rintro e w5 ⟨gp1, rfl, op1, yp1, bb0⟩; have bb := bb0; replace op0 := op0.next bb; replace bel := next_trans bel bb; have cA0w5 : w5.cell? ⟨w.heap.size, 0, none⟩ = some (.slice a0 n0 c0) := (rA0.next bel).cell 0; have cA1w5 : w5.cell? ⟨w.heap.size + 1, 0, none⟩ = some (.slice a1 n1 c1) := (rA1.next bel).cell 0; have cA2w5 : w5.cell? ⟨w.heap.size + 1 + 1, 0, none⟩ = some (.slice a2 n2 c2) := (rA2.next bel).cell 0; clear bb bb0)
      | (go_at_call_of 43 (Value.agg #[.slice a2 n2 c2]); refine (substTo _ _ _ xs2 _ (s2.next bel) h2.out).mono ?_; rintro e w6 ⟨gp2, rfl, op2, yp2, bb0⟩; have bb := bb0; replace op0 := op0.next bb; replace op1 := op1.next bb; replace bel := next_trans bel bb; have cA0w6 : w6.cell? ⟨w.heap.size, 0, none⟩ = some (.slice a0 n0 c0) := (rA0.next bel).cell 0; have cA1w6 : w6.cell? ⟨w.heap.size + 1, 0, none⟩ = some (.slice a1 n1 c1) := (rA1.next bel).cell 0; have cA2w6 : w6.cell? ⟨w.heap.size + 1 + 1, 0, none⟩ = some (.slice a2 n2 c2) := (rA2.next bel).cell 0; clear bb bb0)
      | (go_at_call 28; refine (specSameSubst _ _ _ _ _ _ _ _ _ xs0 xs1 xs2 _ op0.rd op1.rd op2.rd h0 h1.out h2.out).mono ?_; rintro e w7 ⟨he, bb0⟩; rw [HV.out] at he; subst he; have bb := bb0; replace bel := next_trans bel bb; have cA0w7 : w7.cell? ⟨w.heap.size, 0, none⟩ = some (.slice a0 n0 c0) := (rA0.next bel).cell 0; have cA1w7 : w7.cell? ⟨w.heap.size + 1, 0, none⟩ = some (.slice a1 n1 c1) := (rA1.next bel).cell 0; have cA2w7 : w7.cell? ⟨w.heap.size + 1 + 1, 0, none⟩ = some (.slice a2 n2 c2) := (rA2.next bel).cell 0; clear bb bb0 op0 op1 op2))
  clear cA0 cA1 cA2 cA0w7 cA1w7 cA2w7
  have cA0 : w7.cell? ⟨w.heap.size, 0, none⟩ = some (.slice a0 n0 c0) := (rA0.next bel).cell 0
  have cA1 : w7.cell? ⟨w.heap.size + 1, 0, none⟩ = some (.slice a1 n1 c1) := (rA1.next bel).cell 0
  have cA2 : w7.cell? ⟨w.heap.size + 1 + 1, 0, none⟩ = some (.slice a2 n2 c2) := (rA2.next bel).cell 0
  go_wp2_with fail
  refine (sigTo _ _ _ xs0 _ (s0.next bel) h0).mono ?_
  rintro e w8 ⟨gx0, rfl, ox0, yx0, bb⟩
  replace bel := next_trans bel bb
  have zw8 := bb.size
  clear bb
  clear cA0 cA1 cA2
  have cA0 : w8.cell? ⟨w.heap.size, 0, none⟩ = some (.slice a0 n0 c0) := (rA0.next bel).cell 0
  have cA1 : w8.cell? ⟨w.heap.size + 1, 0, none⟩ = some (.slice a1 n1 c1) := (rA1.next bel).cell 0
  have cA2 : w8.cell? ⟨w.heap.size + 1 + 1, 0, none⟩ = some (.slice a2 n2 c2) := (rA2.next bel).cell 0
  have dA0 : (w8.alloc (.cells #[.slice (some ⟨gx0, 0, none⟩) n0 n0] 26)).cell? ⟨w.heap.size, 0, none⟩ = some (.slice a0 n0 c0) := ((rA0.next bel).alloc _).cell 0
  have dA1 : (w8.alloc (.cells #[.slice (some ⟨gx0, 0, none⟩) n0 n0] 26)).cell? ⟨w.heap.size + 1, 0, none⟩ = some (.slice a1 n1 c1) := ((rA1.next bel).alloc _).cell 0
  have dA2 : (w8.alloc (.cells #[.slice (some ⟨gx0, 0, none⟩) n0 n0] 26)).cell? ⟨w.heap.size + 1 + 1, 0, none⟩ = some (.slice a2 n2 c2) := ((rA2.next bel).alloc _).cell 0
  go_wp2_with fail
  obtain ⟨w9, hw⟩ : ∃ W, W = w8.alloc (.cells #[.slice (some ⟨gx0, 0, none⟩) n0 n0] 26) := ⟨_, rfl⟩
  rw [← hw]
  have rx0 : Row w9 w8.heap.size 26 #[.slice (some ⟨gx0, 0, none⟩) n0 n0] := by rw [hw]; exact Row.new _ _ _
  have bb : Below w8.heap.size w8 w9 := by rw [hw]; exact (Below.refl _ _).alloc (Nat.le_refl _) _
  have yrx0 : w8.heap.size < w9.heap.size := by rw [hw]; simp
  clear hw
  replace ox0 := ox0.next bb
  replace bel := next_trans bel bb
  have zw9 := bb.size
  clear bb
  clear dA0 dA1 dA2
  clear cA0 cA1 cA2
  have cA0 : w9.cell? ⟨w.heap.size, 0, none⟩ = some (.slice a0 n0 c0) := (rA0.next bel).cell 0
  have cA1 : w9.cell? ⟨w.heap.size + 1, 0, none⟩ = some (.slice a1 n1 c1) := (rA1.next bel).cell 0
  have cA2 : w9.cell? ⟨w.heap.size + 1 + 1, 0, none⟩ = some (.slice a2 n2 c2) := (rA2.next bel).cell 0
  have cx0 : w9.cell? ⟨w8.heap.size, 0, none⟩ = some (.slice (some ⟨gx0, 0, none⟩) n0 n0) := (rx0).cell 0
  refine (substTo _ _ _ xs1 _ (s1.next bel) h1.out).mono ?_
  rintro e w10 ⟨gx1, rfl, ox1, yx1, bb⟩
  replace ox0 := ox0.next bb
  replace rx0 := rx0.next bb
  replace bel := next_trans bel bb
  have zw10 := bb.size
  clear bb
  clear cA0 cA1 cA2 cx0
  have cA0 : w10.cell? ⟨w.heap.size, 0, none⟩ = some (.slice a0 n0 c0) := (rA0.next bel).cell 0
  have cA1 : w10.cell? ⟨w.heap.size + 1, 0, none⟩ = some (.slice a1 n1 c1) := (rA1.next bel).cell 0
  have cA2 : w10.cell? ⟨w.heap.size + 1 + 1, 0, none⟩ = some (.slice a2 n2 c2) := (rA2.next bel).cell 0
  have cx0 : w10.cell? ⟨w8.heap.size, 0, none⟩ = some (.slice (some ⟨gx0, 0, none⟩) n0 n0) := (rx0).cell 0
  have dA0 : (w10.alloc (.cells #[.slice (some ⟨gx1, 0, none⟩) n1 n1] 29)).cell? ⟨w.heap.size, 0, none⟩ = some (.slice a0 n0 c0) := ((rA0.next bel).alloc _).cell 0
  have dA1 : (w10.alloc (.cells #[.slice (some ⟨gx1, 0, none⟩) n1 n1] 29)).cell? ⟨w.heap.size + 1, 0, none⟩ = some (.slice a1 n1 c1) := ((rA1.next bel).alloc _).cell 0
  have dA2 : (w10.alloc (.cells #[.slice (some ⟨gx1, 0, none⟩) n1 n1] 29)).cell? ⟨w.heap.size + 1 + 1, 0, none⟩ = some (.slice a2 n2 c2) := ((rA2.next bel).alloc _).cell 0
  have dx0 : (w10.alloc (.cells #[.slice (some ⟨gx1, 0, none⟩) n1 n1] 29)).cell? ⟨w8.heap.size, 0, none⟩ = some (.slice (some ⟨gx0, 0, none⟩) n0 n0) := ((rx0).alloc _).cell 0
  go_wp2_with fail
  obtain ⟨w11, hw⟩ : ∃ W, W = w10.alloc (.cells #[.slice (some ⟨gx1, 0, none⟩) n1 n1] 29) := ⟨_, rfl⟩
  rw [← hw]
  have rx1 : Row w11 w10.heap.size 29 #[.slice (some ⟨gx1, 0, none⟩) n1 n1] := by rw [hw]; exact Row.new _ _ _
  have bb : Below w10.heap.size w10 w11 := by rw [hw]; exact (Below.refl _ _).alloc (Nat.le_refl _) _
  have yrx1 : w10.heap.size < w11.heap.size := by rw [hw]; simp
  clear hw
  replace ox0 := ox0.next bb
  replace rx0 := rx0.next bb
  replace ox1 := ox1.next bb
  replace bel := next_trans bel bb
  have zw11 := bb.size
  clear bb
  clear dA0 dA1 dA2 dx0
  clear cA0 cA1 cA2 cx0
  have cA0 : w11.cell? ⟨w.heap.size, 0, none⟩ = some (.slice a0 n0 c0) := (rA0.next bel).cell 0
  have cA1 : w11.cell? ⟨w.heap.size + 1, 0, none⟩ = some (.slice a1 n1 c1) := (rA1.next bel).cell 0
  have cA2 : w11.cell? ⟨w.heap.size + 1 + 1, 0, none⟩ = some (.slice a2 n2 c2) := (rA2.next bel).cell 0
  have cx0 : w11.cell? ⟨w8.heap.size, 0, none⟩ = some (.slice (some ⟨gx0, 0, none⟩) n0 n0) := (rx0).cell 0
  have cx1 : w11.cell? ⟨w10.heap.size, 0, none⟩ = some (.slice (some ⟨gx1, 0, none⟩) n1 n1) := (rx1).cell 0
  refine (substTo _ _ _ xs2 _ (s2.next bel) h2.out).mono ?_
  rintro e w12 ⟨gx2, rfl, ox2, yx2, bb⟩
  replace ox0 := ox0.next bb
  replace rx0 := rx0.next bb
  replace ox1 := ox1.next bb
  replace rx1 := rx1.next bb
  replace bel := next_trans bel bb
  have zw12 := bb.size
  clear bb
  clear cA0 cA1 cA2 cx0 cx1
  have cA0 : w12.cell? ⟨w.heap.size, 0, none⟩ = some (.slice a0 n0 c0) := (rA0.next bel).cell 0
  have cA1 : w12.cell? ⟨w.heap.size + 1, 0, none⟩ = some (.slice a1 n1 c1) := (rA1.next bel).cell 0
  have cA2 : w12.cell? ⟨w.heap.size + 1 + 1, 0, none⟩ = some (.slice a2 n2 c2) := (rA2.next bel).cell 0
  have cx0 : w12.cell? ⟨w8.heap.size, 0, none⟩ = some (.slice (some ⟨gx0, 0, none⟩) n0 n0) := (rx0).cell 0
  have cx1 : w12.cell? ⟨w10.heap.size, 0, none⟩ = some (.slice (some ⟨gx1, 0, none⟩) n1 n1) := (rx1).cell 0
  have dA0 : (w12.alloc (.cells #[.slice (some ⟨gx2, 0, none⟩) n2 n2] 29)).cell? ⟨w.heap.size, 0, none⟩ = some (.slice a0 n0 c0) := ((rA0.next bel).alloc _).cell 0
  have dA1 : (w12.alloc (.cells #[.slice (some ⟨gx2, 0, none⟩) n2 n2] 29)).cell? ⟨w.heap.size + 1, 0, none⟩ = some (.slice a1 n1 c1) := ((rA1.next bel).alloc _).cell 0
  have dA2 : (w12.alloc (.cells #[.slice (some ⟨gx2, 0, none⟩) n2 n2] 29)).cell? ⟨w.heap.size + 1 + 1, 0, none⟩ = some (.slice a2 n2 c2) := ((rA2.next bel).alloc _).cell 0
  have dx0 : (w12.alloc (.cells #[.slice (some ⟨gx2, 0, none⟩) n2 n2] 29)).cell? ⟨w8.heap.size, 0, none⟩ = some (.slice (some ⟨gx0, 0, none⟩) n0 n0) := ((rx0).alloc _).cell 0
  have dx1 : (w12.alloc (.cells #[.slice (some ⟨gx2, 0, none⟩) n2 n2] 29)).cell? ⟨w10.heap.size, 0, none⟩ = some (.slice (some ⟨gx1, 0, none⟩) n1 n1) := ((rx1).alloc _).cell 0
  go_wp2_with fail
  obtain ⟨w13, hw⟩ : ∃ W, W = w12.alloc (.cells #[.slice (some ⟨gx2, 0, none⟩) n2 n2] 29) := ⟨_, rfl⟩
  rw [← hw]
  have rx2 : Row w13 w12.heap.size 29 #[.slice (some ⟨gx2, 0, none⟩) n2 n2] := by rw [hw]; exact Row.new _ _ _
  have bb : Below w12.heap.size w12 w13 := by rw [hw]; exact (Below.refl _ _).alloc (Nat.le_refl _) _
  have yrx2 : w12.heap.size < w13.heap.size := by rw [hw]; simp
  clear hw
  replace ox0 := ox0.next bb
  replace rx0 := rx0.next bb
  replace ox1 := ox1.next bb
  replace rx1 := rx1.next bb
  replace ox2 := ox2.next bb
  replace bel := next_trans bel bb
  have zw13 := bb.size
  clear bb
  clear dA0 dA1 dA2 dx0 dx1
  clear cA0 cA1 cA2 cx0 cx1
  have cA0 : w13.cell? ⟨w.heap.size, 0, none⟩ = some (.slice a0 n0 c0) := (rA0.next bel).cell 0
  have cA1 : w13.cell? ⟨w.heap.size + 1, 0, none⟩ = some (.slice a1 n1 c1) := (rA1.next bel).cell 0
  have cA2 : w13.cell? ⟨w.heap.size + 1 + 1, 0, none⟩ = some (.slice a2 n2 c2) := (rA2.next bel).cell 0
  have cx0 : w13.cell? ⟨w8.heap.size, 0, none⟩ = some (.slice (some ⟨gx0, 0, none⟩) n0 n0) := (rx0).cell 0
  have cx1 : w13.cell? ⟨w10.heap.size, 0, none⟩ = some (.slice (some ⟨gx1, 0, none⟩) n1 n1) := (rx1).cell 0
  have cx2 : w13.cell? ⟨w12.heap.size, 0, none⟩ = some (.slice (some ⟨gx2, 0, none⟩) n2 n2) := (rx2).cell 0
  refine (implSameSubst _ _ _ _ _ _ _ _ _ xs0 xs1 xs2 _ ox0.rd ox1.rd ox2.rd h0 h1.out h2.out).mono ?_
  rintro e w14 ⟨he, bb⟩
  rw [HV.out] at he
  subst he
  replace ox0 := ox0.next bb
  replace rx0 := rx0.next bb
  replace ox1 := ox1.next bb
  replace rx1 := rx1.next bb
  replace ox2 := ox2.next bb
  replace rx2 := rx2.next bb
  replace bel := next_trans bel bb
  have zw14 := bb.size
  clear bb
  clear cA0 cA1 cA2 cx0 cx1 cx2
  have cA0 : w14.cell? ⟨w.heap.size, 0, none⟩ = some (.slice a0 n0 c0) := (rA0.next bel).cell 0
  have cA1 : w14.cell? ⟨w.heap.size + 1, 0, none⟩ = some (.slice a1 n1 c1) := (rA1.next bel).cell 0
  have cA2 : w14.cell? ⟨w.heap.size + 1 + 1, 0, none⟩ = some (.slice a2 n2 c2) := (rA2.next bel).cell 0
  have cx0 : w14.cell? ⟨w8.heap.size, 0, none⟩ = some (.slice (some ⟨gx0, 0, none⟩) n0 n0) := (rx0).cell 0
  have cx1 : w14.cell? ⟨w10.heap.size, 0, none⟩ = some (.slice (some ⟨gx1, 0, none⟩) n1 n1) := (rx1).cell 0
  have cx2 : w14.cell? ⟨w12.heap.size, 0, none⟩ = some (.slice (some ⟨gx2, 0, none⟩) n2 n2) := (rx2).cell 0
  go_wp2_with fail
  replace ox0 := ox0.drew
  replace rx0 := rx0.drew
  replace ox1 := ox1.drew
  replace rx1 := rx1.drew
  replace ox2 := ox2.drew
  replace rx2 := rx2.drew
  replace bel := bel.drew
  go_region_held3 (fun w' => w'.cell? ⟨w8.heap.size, 0, none⟩ = some (.slice (some ⟨gx0, 0, none⟩) n0 n0) ∧ w'.cell? ⟨w.heap.size, 0, none⟩ = some (.slice a0 n0 c0))
    (go_keep)
    (first
      | (go_at_call 42; refine (sigTo _ _ _ xs0 _ (s0.next bel) h0).mono ?_; rintro e w15 ⟨gt0, rfl, ot, yt0, bb⟩; replace ox0 := ox0.next bb; replace rx0 := rx0.next bb; replace ox1 := ox1.next bb; replace rx1 := rx1.next bb; replace ox2 := ox2.next bb; replace rx2 := rx2.next bb; replace bel := next_trans bel bb; have k0w15 : w15.cell? ⟨w.heap.size, 0, none⟩ = some (.slice a0 n0 c0) := (rA0.next bel).cell 0; have l0w15 : w15.cell? ⟨w8.heap.size, 0, none⟩ = some (.slice (some ⟨gx0, 0, none⟩) n0 n0) := rx0.cell 0; have zqw15 := bb.size; clear bb)
      | (go_at_call 44; refine (sigEq _ _ _ _ _ _ xs0 _ ox0.rd ot.rd h0).mono ?_; rintro e w16 ⟨rfl, bb⟩; replace ox0 := ox0.next bb; replace rx0 := rx0.next bb; replace ox1 := ox1.next bb; replace rx1 := rx1.next bb; replace ox2 := ox2.next bb; replace rx2 := rx2.next bb; replace bel := next_trans bel bb; have k0w16 : w16.cell? ⟨w.heap.size, 0, none⟩ = some (.slice a0 n0 c0) := (rA0.next bel).cell 0; have l0w16 : w16.cell? ⟨w8.heap.size, 0, none⟩ = some (.slice (some ⟨gx0, 0, none⟩) n0 n0) := rx0.cell 0; have zqw16 := bb.size; clear bb ot))
  clear k0w15 l0w15 k0w16 l0w16
  clear ox0 rx0
  clear cA0 cA1 cA2 cx0 cx1 cx2
  have cA0 : w16.cell? ⟨w.heap.size, 0, none⟩ = some (.slice a0 n0 c0) := (rA0.next bel).cell 0
  have cA1 : w16.cell? ⟨w.heap.size + 1, 0, none⟩ = some (.slice a1 n1 c1) := (rA1.next bel).cell 0
  have cA2 : w16.cell? ⟨w.heap.size + 1 + 1, 0, none⟩ = some (.slice a2 n2 c2) := (rA2.next bel).cell 0
  have cx1 : w16.cell? ⟨w10.heap.size, 0, none⟩ = some (.slice (some ⟨gx1, 0, none⟩) n1 n1) := (rx1).cell 0
  have cx2 : w16.cell? ⟨w12.heap.size, 0, none⟩ = some (.slice (some ⟨gx2, 0, none⟩) n2 n2) := (rx2).cell 0
  go_wp2_with fail
  replace ox1 := ox1.drew
  replace rx1 := rx1.drew
  replace ox2 := ox2.drew
  replace rx2 := rx2.drew
  replace bel := bel.drew
  go_region_held3 (fun w' => w'.cell? ⟨w10.heap.size, 0, none⟩ = some (.slice (some ⟨gx1, 0, none⟩) n1 n1) ∧ w'.cell? ⟨w.heap.size + 1, 0, none⟩ = some (.slice a1 n1 c1))
    (go_keep)
    (first
      | (go_at_call 43; refine (substTo _ _ _ xs1 _ (s1.next bel) h1.out).mono ?_; rintro e w17 ⟨gt1, rfl, ot, yt1, bb⟩; replace ox1 := ox1.next bb; replace rx1 := rx1.next bb; replace ox2 := ox2.next bb; replace rx2 := rx2.next bb; replace bel := next_trans bel bb; have k1w17 : w17.cell? ⟨w.heap.size + 1, 0, none⟩ = some (.slice a1 n1 c1) := (rA1.next bel).cell 0; have l1w17 : w17.cell? ⟨w10.heap.size, 0, none⟩ = some (.slice (some ⟨gx1, 0, none⟩) n1 n1) := rx1.cell 0; have zqw17 := bb.size; clear bb)
      | (go_at_call 45; refine (substEq _ _ _ _ _ _ xs1 _ ox1.rd ot.rd h1.out).mono ?_; rintro e w18 ⟨rfl, bb⟩; replace ox1 := ox1.next bb; replace rx1 := rx1.next bb; replace ox2 := ox2.next bb; replace rx2 := rx2.next bb; replace bel := next_trans bel bb; have k1w18 : w18.cell? ⟨w.heap.size + 1, 0, none⟩ = some (.slice a1 n1 c1) := (rA1.next bel).cell 0; have l1w18 : w18.cell? ⟨w10.heap.size, 0, none⟩ = some (.slice (some ⟨gx1, 0, none⟩) n1 n1) := rx1.cell 0; have zqw18 := bb.size; clear bb ot))
  clear k1w17 l1w17 k1w18 l1w18
  clear ox1 rx1
  clear cA0 cA1 cA2 cx1 cx2
  have cA0 : w18.cell? ⟨w.heap.size, 0, none⟩ = some (.slice a0 n0 c0) := (rA0.next bel).cell 0
  have cA1 : w18.cell? ⟨w.heap.size + 1, 0, none⟩ = some (.slice a1 n1 c1) := (rA1.next bel).cell 0
  have cA2 : w18.cell? ⟨w.heap.size + 1 + 1, 0, none⟩ = some (.slice a2 n2 c2) := (rA2.next bel).cell 0
  have cx2 : w18.cell? ⟨w12.heap.size, 0, none⟩ = some (.slice (some ⟨gx2, 0, none⟩) n2 n2) := (rx2).cell 0
  go_wp2_with fail
  replace ox2 := ox2.drew
  replace rx2 := rx2.drew
  replace bel := bel.drew
  go_region_held3 (fun w' => w'.cell? ⟨w12.heap.size, 0, none⟩ = some (.slice (some ⟨gx2, 0, none⟩) n2 n2) ∧ w'.cell? ⟨w.heap.size + 1 + 1, 0, none⟩ = some (.slice a2 n2 c2))
    (go_keep)
    (first
      | (go_at_call 43; refine (substTo _ _ _ xs2 _ (s2.next bel) h2.out).mono ?_; rintro e w19 ⟨gt2, rfl, ot, yt2, bb⟩; replace ox2 := ox2.next bb; replace rx2 := rx2.next bb; replace bel := next_trans bel bb; have k2w19 : w19.cell? ⟨w.heap.size + 1 + 1, 0, none⟩ = some (.slice a2 n2 c2) := (rA2.next bel).cell 0; have l2w19 : w19.cell? ⟨w12.heap.size, 0, none⟩ = some (.slice (some ⟨gx2, 0, none⟩) n2 n2) := rx2.cell 0; have zqw19 := bb.size; clear bb)
      | (go_at_call 45; refine (substEq _ _ _ _ _ _ xs2 _ ox2.rd ot.rd h2.out).mono ?_; rintro e w20 ⟨rfl, bb⟩; replace ox2 := ox2.next bb; replace rx2 := rx2.next bb; replace bel := next_trans bel bb; have k2w20 : w20.cell? ⟨w.heap.size + 1 + 1, 0, none⟩ = some (.slice a2 n2 c2) := (rA2.next bel).cell 0; have l2w20 : w20.cell? ⟨w12.heap.size, 0, none⟩ = some (.slice (some ⟨gx2, 0, none⟩) n2 n2) := rx2.cell 0; have zqw20 := bb.size; clear bb ot))
  clear k2w19 l2w19 k2w20 l2w20
  clear ox2 rx2
  clear cA0 cA1 cA2 cx2
  have cA0 : w20.cell? ⟨w.heap.size, 0, none⟩ = some (.slice a0 n0 c0) := (rA0.next bel).cell 0
  have cA1 : w20.cell? ⟨w.heap.size + 1, 0, none⟩ = some (.slice a1 n1 c1) := (rA1.next bel).cell 0
  have cA2 : w20.cell? ⟨w.heap.size + 1 + 1, 0, none⟩ = some (.slice a2 n2 c2) := (rA2.next bel).cell 0
  have F := Lib.hid (bW.trans (bel.mono bW.size))
  clear bel bW cA0 cA1 cA2
  go_wp2
  go_ret
  exact ⟨rfl, F.out⟩
end Go.Proofs.Ytdeegjeopkcomaa.wSameSubst
