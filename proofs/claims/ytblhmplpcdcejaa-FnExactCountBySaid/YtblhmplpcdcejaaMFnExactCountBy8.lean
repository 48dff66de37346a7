/-
  MERGED: my texts ByImplB, WCountBy, one behind the other, as they are. By an AI agent.
-/
import Derived.Test.YtblhmplpcdcejaaMFnExactCountBy7
import Derived.Deep.RegionHeld3
namespace Go.Proofs.Ytblhmplpcdcejaa
section
open Go.Lib (hid)
namespace byImpl
open Go.RowKit base ints sig term termOk endAt endOf marks app sym sub segs segsHelp kinds termFacts same shifted shape drawX kindsR kindsW varsOf ruleMath ruleSpec stepMath walkMath stepSpec stepImpl walkSpec walkX walkImpl ownL heldT orderMath orderSpec bySpec strat pickImpl
set_option maxRecDepth 100000
set_option maxHeartbeats 4000000 in
theorem implWalkBy0 (a v u : Value) (d : Dat sSystem) (t : List Int) (s f : Int) (w : World) (h : Rd w w.heap.size sSystem [a, v] d) (ht : Rd w w.heap.size sI [u] t) (hz : sz sSystem d ≤ 1048576) (hz' : sz sI t ≤ 1048576) (s1 : -9223372036854775808 ≤ s) (s2 : s ≤ 9223372036854775807) :
  Calls Try.prog 45 #[.agg #[a, v], u, .int .i64 s, .int .i64 f] w (AnsWalk w (byW d.1 d.2 t s f) (byD d.1 d.2 t s f)) := by
 have h0 := h
 have ht0 := ht
 obtain ⟨T, m, c, rfl, -, -⟩ := rd_ints.1 ht
 obtain ⟨A, n, cs, V, q, cv, rfl, rfl, -⟩ := rd_sys h hz
 obtain ⟨W, hW, r0, r1, bel⟩ : ∃ W, W = (w.alloc (.cells #[.slice A n cs, .slice V q cv] 34)).alloc (.cells #[.slice none 0 0, .slice none 0 0] 50) ∧ Row W w.heap.size 34 #[.slice A n cs, .slice V q cv] ∧ Row W (w.heap.size + 1) 50 #[.slice none 0 0, .slice none 0 0] ∧ Below w.heap.size w W := by
  refine ⟨_, rfl, (Row.new w _ _).alloc _, ?_, ((Below.refl _ _).alloc (Nat.le_refl _) _).alloc (by simp) _⟩
  have := Row.new (w.alloc (.cells #[.slice A n cs, .slice V q cv] 34)) 50 #[.slice none 0 0, .slice none 0 0]
  simpa using this
 have HW := hid hW
 have LS := hid (strategyIn _ _ _ d t s W (h0.next bel) (ht0.next bel) hz hz' s1 s2)
 have HH := hid (And.intro h0 ht0)
 have K0 : W.cell? ⟨w.heap.size, 0, none⟩ = some (.slice A n cs) := r0.cell 0
 have K1 : W.cell? ⟨w.heap.size, 1, none⟩ = some (.slice V q cv) := r0.cell 1
 clear hW h ht h0 ht0
 cases ok : (rightB d.1 d.2 t && stratB s) with
 | false =>
  have HS := hid (by_off (by_no1 (f := f) ok))
  rw [ok] at LS
  clear ok
  go_enter Try.func45, Try.ntmps45
  go_wp2_with fail
  rw [← HW.out]
  refine LS.out.mono ?_
  rintro e w1 ⟨A1, n1, c1, A2, n2, c2, pf, rfl, -, bb⟩
  have b1 := next_trans bel bb
  have b2 : Below w1.heap.size w1 (w1.alloc (.cells #[.slice A1 n1 c1, .slice A2 n2 c2] 65)) := (Below.refl _ _).alloc (Nat.le_refl _) _
  have r3 := (r1.next bb).next b2
  have b3 := next_trans b1 b2
  clear bb b1 b2 bel r0 r1 LS K0 K1
  obtain ⟨W3, hW3⟩ : ∃ W3, W3 = w1.alloc (.cells #[.slice A1 n1 c1, .slice A2 n2 c2] 65) := ⟨_, rfl⟩
  rw [← hW3] at r3 b3
  have HW3 := hid hW3
  clear hW3
  go_upto_region 2 with fail
  rw [← HW3.out]
  clear HW3
  have y0 : W3.cell? ⟨w.heap.size + 1, 0, none⟩ = some (.slice none 0 0) := r3.cell 0
  have y1 : W3.cell? ⟨w.heap.size + 1, 1, none⟩ = some (.slice none 0 0) := r3.cell 1
  have g0 := r3.free 0
  have g1 := r3.free 1
  have ra := r3.put 0 (.slice none 0 0)
  have y2 : (W3.setCell ⟨w.heap.size + 1, 0, none⟩ (.slice none 0 0)).cell? ⟨w.heap.size + 1, 1, none⟩ = some (.slice none 0 0) := ra.cell 1
  have g2 := ra.free 1
  have rb := ra.put 1 (.slice none 0 0)
  have u0 : ((W3.setCell ⟨w.heap.size + 1, 0, none⟩ (.slice none 0 0)).setCell ⟨w.heap.size + 1, 1, none⟩ (.slice none 0 0)).cell? ⟨w.heap.size + 1, 0, none⟩ = some (.slice none 0 0) := rb.cell 0
  have u1 : ((W3.setCell ⟨w.heap.size + 1, 0, none⟩ (.slice none 0 0)).setCell ⟨w.heap.size + 1, 1, none⟩ (.slice none 0 0)).cell? ⟨w.heap.size + 1, 1, none⟩ = some (.slice none 0 0) := rb.cell 1
  have FZ : AnsWalk w (byW d.1 d.2 t s f) (byD d.1 d.2 t s f) (.returned (.tuple #[.agg #[.slice none 0 0, .slice none 0 0], .bool false])) ((W3.setCell ⟨w.heap.size + 1, 0, none⟩ (.slice none 0 0)).setCell ⟨w.heap.size + 1, 1, none⟩ (.slice none 0 0)) := ansWalk_no HS.out (((b3).setCell (show w.heap.size ≤ w.heap.size + 1 by omega) _).setCell (show w.heap.size ≤ w.heap.size + 1 by omega) _)
  have HFZ := hid FZ
  clear FZ ra rb b3
  go_wp2
  exact bodyPost_ret (v := .tuple #[.agg #[.slice none 0 0, .slice none 0 0], .bool false]) (by simp [results, Try.results45, go_sem, u0, u1]) rfl HFZ.out
 | true =>
  have HR := hid ((Bool.and_eq_true _ _).mp ok)
  have HOK := hid ok
  rw [ok] at LS
  clear ok
  go_enter Try.func45, Try.ntmps45
  go_wp2_with fail
  rw [← HW.out]
  refine LS.out.mono ?_
  rintro e w1 ⟨A1, n1, c1, A2, n2, c2, pf, rfl, hv, bb⟩
  obtain ⟨e1, e2, rfl⟩ := hv rfl
  injection e1 with e11 e12 e13
  injection e2 with e21 e22 e23
  subst e11 e12 e13 e21 e22 e23
  rw [pickV_yes HR.out.2]
  have b1 := next_trans bel bb
  have b2 : Below w1.heap.size w1 (w1.alloc (.cells #[.slice A1 n1 c1, .slice A2 n2 c2] 65)) := (Below.refl _ _).alloc (Nat.le_refl _) _
  have r3 := (r1.next bb).next b2
  have b3 := next_trans b1 b2
  have rS : Row (w1.alloc (.cells #[.slice A1 n1 c1, .slice A2 n2 c2] 65)) w1.heap.size 65 #[.slice A1 n1 c1, .slice A2 n2 c2] := Row.new _ _ _
  have zz : w.heap.size + 1 < w1.heap.size := (r1.next bb).lt
  obtain ⟨W3, hW3⟩ : ∃ W3, W3 = w1.alloc (.cells #[.slice A1 n1 c1, .slice A2 n2 c2] 65) := ⟨_, rfl⟩
  rw [← hW3] at r3 b3 rS
  have HW3 := hid hW3
  clear bb b1 b2 bel r0 r1 LS K0 K1 hW3
  go_upto_region 2 with fail
  rw [← HW3.out]
  clear HW3
  by_cases hf : 0 ≤ f ∧ f ≤ 60
  ·obtain ⟨F, rfl⟩ := Int.eq_ofNat_of_zero_le hf.1
   have hF : F ≤ 60 := by omega
   have hpf := pickFn (HH.out.1.next b3) hz HR.out.2
   have LX := hid (walk (pickG s) hpf.1 _ _ _ d t s F W3 (HH.out.1.next b3) (HH.out.2.next b3) hz HR.out.1 (by_yes HOK.out (fuel_yes hF)) hF hpf.2)
   generalize pickG s = g at *
   generalize byW d.1 d.2 t s (F : Int) = bw at *
   generalize byD d.1 d.2 t s (F : Int) = bd at *
   have k0 : W3.cell? ⟨w1.heap.size, 0, none⟩ = some (.slice A1 n1 c1) := rS.cell 0
   have k1 : W3.cell? ⟨w1.heap.size, 1, none⟩ = some (.slice A2 n2 c2) := rS.cell 1
   have f0 : decide ((F : Int) < 0) = false := by simp
   have f6 : decide ((60 : Int) < (F : Int)) = false := by simp; omega
   clear hpf hf
   go_wp2_with fail
   refine LX.out.mono ?_
   rintro e w4 ⟨X, xn, xc, O, on, oc, rfl, ow, bb⟩
   have jr := r3.next bb
   have b4 := next_trans b3 bb
   have zW3 : w.heap.size + 1 < W3.heap.size := r3.lt
   have FA : AnsWalk w bw bd (.returned (.tuple #[.agg #[.slice X xn xc, .slice O on oc], .bool bd])) ((w4.setCell ⟨w.heap.size + 1, 0, none⟩ (.slice X xn xc)).setCell ⟨w.heap.size + 1, 1, none⟩ (.slice O on oc)) :=
    ⟨_, _, _, _, _, _, rfl, ((ow.put (g := w.heap.size + 1) (i := 0) (by omega)).put (g := w.heap.size + 1) (i := 1) (by omega)).wider (by omega) (by simp), (b4.setCell (show w.heap.size ≤ w.heap.size + 1 by omega) _).setCell (show w.heap.size ≤ w.heap.size + 1 by omega) _⟩
   have HFA := hid FA
   clear FA ow bb b3 b4 r3 rS LX k0 k1
   have y0 : w4.cell? ⟨w.heap.size + 1, 0, none⟩ = some (.slice none 0 0) := jr.cell 0
   have y1 : w4.cell? ⟨w.heap.size + 1, 1, none⟩ = some (.slice none 0 0) := jr.cell 1
   have g0 := jr.free 0
   have g1 := jr.free 1
   have ra := jr.put 0 (.slice X xn xc)
   have y2 : (w4.setCell ⟨w.heap.size + 1, 0, none⟩ (.slice X xn xc)).cell? ⟨w.heap.size + 1, 1, none⟩ = some (.slice none 0 0) := ra.cell 1
   have g2 := ra.free 1
   have rb := ra.put 1 (.slice O on oc)
   have u0 : ((w4.setCell ⟨w.heap.size + 1, 0, none⟩ (.slice X xn xc)).setCell ⟨w.heap.size + 1, 1, none⟩ (.slice O on oc)).cell? ⟨w.heap.size + 1, 0, none⟩ = some (.slice X xn xc) := rb.cell 0
   have u1 : ((w4.setCell ⟨w.heap.size + 1, 0, none⟩ (.slice X xn xc)).setCell ⟨w.heap.size + 1, 1, none⟩ (.slice O on oc)).cell? ⟨w.heap.size + 1, 1, none⟩ = some (.slice O on oc) := rb.cell 1
   have FZ : AnsWalk w bw bd (.returned (.tuple #[.agg #[.slice X xn xc, .slice O on oc], .bool bd])) ((w4.setCell ⟨w.heap.size + 1, 0, none⟩ (.slice X xn xc)).setCell ⟨w.heap.size + 1, 1, none⟩ (.slice O on oc)) := HFA.out
   have HFZ := hid FZ
   clear FZ ra rb jr
   go_wp2
   exact bodyPost_ret (v := .tuple #[.agg #[.slice X xn xc, .slice O on oc], .bool bd]) (by simp [results, Try.results45, go_sem, u0, u1]) rfl HFZ.out
  ·have HB := hid (by_off (by_no2 (sg := d.1) (rs := d.2) (t := t) (s := s) (decide_eq_false hf : fuelB f = false)))
   by_cases hf0 : f < 0
   ·have f0 : decide (f < 0) = true := decide_eq_true hf0
    clear hf hf0 rS
    have y0 : W3.cell? ⟨w.heap.size + 1, 0, none⟩ = some (.slice none 0 0) := r3.cell 0
    have y1 : W3.cell? ⟨w.heap.size + 1, 1, none⟩ = some (.slice none 0 0) := r3.cell 1
    have g0 := r3.free 0
    have g1 := r3.free 1
    have ra := r3.put 0 (.slice none 0 0)
    have y2 : (W3.setCell ⟨w.heap.size + 1, 0, none⟩ (.slice none 0 0)).cell? ⟨w.heap.size + 1, 1, none⟩ = some (.slice none 0 0) := ra.cell 1
    have g2 := ra.free 1
    have rb := ra.put 1 (.slice none 0 0)
    have u0 : ((W3.setCell ⟨w.heap.size + 1, 0, none⟩ (.slice none 0 0)).setCell ⟨w.heap.size + 1, 1, none⟩ (.slice none 0 0)).cell? ⟨w.heap.size + 1, 0, none⟩ = some (.slice none 0 0) := rb.cell 0
    have u1 : ((W3.setCell ⟨w.heap.size + 1, 0, none⟩ (.slice none 0 0)).setCell ⟨w.heap.size + 1, 1, none⟩ (.slice none 0 0)).cell? ⟨w.heap.size + 1, 1, none⟩ = some (.slice none 0 0) := rb.cell 1
    have FZ : AnsWalk w (byW d.1 d.2 t s f) (byD d.1 d.2 t s f) (.returned (.tuple #[.agg #[.slice none 0 0, .slice none 0 0], .bool false])) ((W3.setCell ⟨w.heap.size + 1, 0, none⟩ (.slice none 0 0)).setCell ⟨w.heap.size + 1, 1, none⟩ (.slice none 0 0)) := ansWalk_no HB.out (((b3).setCell (show w.heap.size ≤ w.heap.size + 1 by omega) _).setCell (show w.heap.size ≤ w.heap.size + 1 by omega) _)
    have HFZ := hid FZ
    clear FZ ra rb b3
    go_wp2
    exact bodyPost_ret (v := .tuple #[.agg #[.slice none 0 0, .slice none 0 0], .bool false]) (by simp [results, Try.results45, go_sem, u0, u1]) rfl HFZ.out
   ·have f0 : decide (f < 0) = false := decide_eq_false hf0
    have f6 : decide (60 < f) = true := decide_eq_true (by omega)
    clear hf hf0 rS
    have y0 : W3.cell? ⟨w.heap.size + 1, 0, none⟩ = some (.slice none 0 0) := r3.cell 0
    have y1 : W3.cell? ⟨w.heap.size + 1, 1, none⟩ = some (.slice none 0 0) := r3.cell 1
    have g0 := r3.free 0
    have g1 := r3.free 1
    have ra := r3.put 0 (.slice none 0 0)
    have y2 : (W3.setCell ⟨w.heap.size + 1, 0, none⟩ (.slice none 0 0)).cell? ⟨w.heap.size + 1, 1, none⟩ = some (.slice none 0 0) := ra.cell 1
    have g2 := ra.free 1
    have rb := ra.put 1 (.slice none 0 0)
    have u0 : ((W3.setCell ⟨w.heap.size + 1, 0, none⟩ (.slice none 0 0)).setCell ⟨w.heap.size + 1, 1, none⟩ (.slice none 0 0)).cell? ⟨w.heap.size + 1, 0, none⟩ = some (.slice none 0 0) := rb.cell 0
    have u1 : ((W3.setCell ⟨w.heap.size + 1, 0, none⟩ (.slice none 0 0)).setCell ⟨w.heap.size + 1, 1, none⟩ (.slice none 0 0)).cell? ⟨w.heap.size + 1, 1, none⟩ = some (.slice none 0 0) := rb.cell 1
    have FZ : AnsWalk w (byW d.1 d.2 t s f) (byD d.1 d.2 t s f) (.returned (.tuple #[.agg #[.slice none 0 0, .slice none 0 0], .bool false])) ((W3.setCell ⟨w.heap.size + 1, 0, none⟩ (.slice none 0 0)).setCell ⟨w.heap.size + 1, 1, none⟩ (.slice none 0 0)) := ansWalk_no HB.out (((b3).setCell (show w.heap.size ≤ w.heap.size + 1 by omega) _).setCell (show w.heap.size ≤ w.heap.size + 1 by omega) _)
    have HFZ := hid FZ
    clear FZ ra rb b3
    go_wp2
    exact bodyPost_ret (v := .tuple #[.agg #[.slice none 0 0, .slice none 0 0], .bool false]) (by simp [results, Try.results45, go_sem, u0, u1]) rfl HFZ.out
set_option maxHeartbeats 2000000 in
theorem implCountBy0 (a v u : Value) (d : Dat sSystem) (t : List Int) (s f : Int) (w : World) (h : Rd w w.heap.size sSystem [a, v] d) (ht : Rd w w.heap.size sI [u] t) (hz : sz sSystem d ≤ 1048576) (hz' : sz sI t ≤ 1048576) (s1 : -9223372036854775808 ≤ s) (s2 : s ≤ 9223372036854775807) :
  Calls Try.prog 22 #[.agg #[a, v], u, .int .i64 s, .int .i64 f] w (AnsInt w (byC d.1 d.2 t s f)) := by
 obtain ⟨W, hW, rA, bel⟩ := box1 w 34 #[a, v]
 have HW := hid hW
 have LW := hid (implWalkBy0 a v u d t s f W (h.next bel) (ht.next bel) hz hz' s1 s2)
 obtain ⟨T, m, c, rfl, -, -⟩ := rd_ints.1 ht
 clear hW h ht
 obtain ⟨bd, hbd⟩ : ∃ b, byD d.1 d.2 t s f = b := ⟨_, rfl⟩
 have HB := hid hbd
 rw [hbd] at LW
 clear hbd
 go_enter Try.func22, Try.ntmps22
 go_wp2_with fail
 rw [← HW.out]
 refine LW.out.mono ?_
 rintro e w1 ⟨X, xn, xc, O, on, oc, rfl, ow, bb⟩
 have b1 := next_trans bel bb
 have b2 : Below w1.heap.size w1 (w1.alloc (.cells #[.slice X xn xc, .slice O on oc] 50)) := (Below.refl _ _).alloc (Nat.le_refl _) _
 have bel2 := hid (next_trans b1 b2)
 have HL := hid (show (byW d.1 d.2 t s f).2.length = on from by
  obtain ⟨F', fn, fc, S, sn, sc, e1, e2, -, -, -, h7, -⟩ := rd_walk ow.rd byW_sz
  injection e2 with e3 e4 e5
  rw [e4]; exact h7)
 clear ow bb b1 b2 bel rA LW
 cases bd with
 | false =>
  have F := hid (show AnsInt w (byC d.1 d.2 t s f) (.returned (.int .i64 (-1))) (w1.alloc (.cells #[.slice X xn xc, .slice O on oc] 50)) from ⟨by rw [byC_no HB.out], bel2.out⟩)
  go_wp2
  go_ret
  exact F.out
 | true =>
  have F := hid (show AnsInt w (byC d.1 d.2 t s f) (.returned (.int .i64 (on : Int))) (w1.alloc (.cells #[.slice X xn xc, .slice O on oc] 50)) from ⟨by rw [byC_yes HB.out, HL.out], bel2.out⟩)
  go_wp2
  go_ret
  exact F.out
theorem implCountBy (a v u : Value) (d : Dat sSystem) (t : List Int) (s f : Int) (w : World) (h : Rd w w.heap.size sSystem [a, v] d) (ht : Rd w w.heap.size sI [u] t) (hz : sz sSystem d ≤ 1048576) (hz' : sz sI t ≤ 1048576) (s1 : -9223372036854775808 ≤ s) (s2 : s ≤ 9223372036854775807) (_ : -9223372036854775808 ≤ f) (_ : f ≤ 9223372036854775807) :
  Calls Try.prog 22 #[.agg #[a, v], u, .int .i64 s, .int .i64 f] w (AnsInt w (byC d.1 d.2 t s f)) := implCountBy0 a v u d t s f w h ht hz hz' s1 s2
end byImpl
end
section
open Go.Lib (hid)
namespace wCountBy
open Go.RowKit base ints sig cursor marks app sym appAt segs segsHelp segsMark kinds shape varsOf kindsR kindsW ruleMath ruleSpec stepMath walkMath stepSpec walkSpec orderMath orderSpec bySpec byImpl byX pickImpl
set_option maxRecDepth 100000
set_option maxHeartbeats 8000000 in
theorem law (v0_0 v0_1 : Value) (d0 : Dat sSystem) (a1 : Option Addr) (n1 c1 : Nat) (d1 : List Int) (x2 : Int) (x3 : Int) (w : World) (s0 : Rd w w.heap.size sSystem [v0_0, v0_1] d0) (s1 : Rd w w.heap.size sI [.slice a1 n1 c1] d1) (b2 : (Lit.int .i64 x2).wf = true) (b3 : (Lit.int .i64 x3).wf = true) :
  Calls Try.prog 5 #[.agg #[v0_0, v0_1], .slice a1 n1 c1, .int .i64 x2, .int .i64 x3] w (Fine w) := by
 have bd2 : -9223372036854775808 ≤ x2 ∧ x2 ≤ 9223372036854775807 := by simpa [Lit.wf, IntKind.min, IntKind.max, IntKind.signed, IntKind.bits] using b2
 obtain ⟨bl2, bh2⟩ := bd2
 clear b2
 have bd3 : -9223372036854775808 ≤ x3 ∧ x3 ≤ 9223372036854775807 := by simpa [Lit.wf, IntKind.min, IntKind.max, IntKind.signed, IntKind.bits] using b3
 obtain ⟨bl3, bh3⟩ := bd3
 clear b3
 have Hl1 := hid s1.seg.1
 have cp1 := (by obtain ⟨A, c, ec, hc⟩ := s1.slice; injection ec with e1 e2 e3; subst e1 e2 e3; exact hc : Cap a1 n1 c1)
 have hN1 : n1 ≤ 9223372036854775807 := Nat.le_trans cp1.1 cp1.2.1
 clear cp1
 obtain ⟨W, hW⟩ : ∃ W, W = w.alloc (.cells #[v0_0, v0_1] 27) := ⟨_, rfl⟩
 have rA0 : Row W (w.heap.size) 27 #[v0_0, v0_1] := by rw [hW]; have := Row.new (w) 27 #[v0_0, v0_1]; simpa using this
 have bW : Below w.heap.size w W := by rw [hW]; exact (Below.refl w.heap.size w).alloc (by simp) (.cells #[v0_0, v0_1] 27)
 have zA0 := rA0.lt
 replace s0 := s0.next bW
 replace s1 := s1.next bW
 have HW := hid hW
 clear hW
 obtain ⟨t0, ht0⟩ : ∃ z, sz sSystem d0 = z := ⟨_, rfl⟩
 have HT0 := hid ht0
 clear ht0
 obtain ⟨v, hv⟩ : ∃ v, byC d0.1 d0.2 d1 x2 x3 = v := ⟨_, rfl⟩
 have HV := hid hv
 clear hv
 have ev : (v != v) = false := by simp
 by_cases h1 : n1 ≤ 1048576
 case neg =>
  go_enter Try.func5, Try.ntmps5
  go_wp2_with fail
  rw [← HW.out]
  go_ret
  exact ⟨rfl, bW⟩
 have hi1 : Hid (sz sI d1 ≤ 1048576) := hid (by rw [sz_ints, Hl1.out]; exact h1)
 have hn1 := h1
 clear h1
 have h1 := hi1
 clear hi1
 go_enter Try.func5, Try.ntmps5
 go_wp2_with fail
 rw [← HW.out]
 clear HW
 have bel := Below.refl W.heap.size W
 have cA0_0 : W.cell? ⟨w.heap.size, 0, none⟩ = some (v0_0) := (rA0.next bel).cell 0
 have cA0_1 : W.cell? ⟨w.heap.size, 1, none⟩ = some (v0_1) := (rA0.next bel).cell 1
 refine (szK_System _ _ d0 (1048576) _ (s0.next bel) (by omega) (by omega)).mono ?_
 rintro e w1 ⟨he, bb⟩
 rw [HT0.out] at he
 replace bel := next_trans bel bb
 have zw1 := bb.size
 clear bb
 by_cases q0 : t0 ≤ 1048576
 case neg =>
  rw [if_pos (by omega)] at he
  subst he
  have F := hid (bW.trans (bel.mono bW.size))
  clear bel bW cA0_0 cA0_1
  go_wp2
  go_ret
  exact ⟨rfl, F.out⟩
 rw [if_neg (by omega)] at he
 subst he
 have h0 : Hid (sz sSystem d0 ≤ 1048576) := hid (by rw [HT0.out]; omega)
 clear cA0_0 cA0_1
 have cA0_0 : w1.cell? ⟨w.heap.size, 0, none⟩ = some (v0_0) := (rA0.next bel).cell 0
 have cA0_1 : w1.cell? ⟨w.heap.size, 1, none⟩ = some (v0_1) := (rA0.next bel).cell 1
 go_wp2_with fail
 refine (toK_System _ _ d0 _ (s0.next bel) h0.out).mono ?_
 rintro e w2 ⟨p0A0, p0n0, p0c0, p0A1, p0n1, p0c1, rfl, op0, bb⟩
 replace bel := next_trans bel bb
 have zw2 := bb.size
 clear bb
 clear cA0_0 cA0_1
 have cA0_0 : w2.cell? ⟨w.heap.size, 0, none⟩ = some (v0_0) := (rA0.next bel).cell 0
 have cA0_1 : w2.cell? ⟨w.heap.size, 1, none⟩ = some (v0_1) := (rA0.next bel).cell 1
 go_wp2_with fail
 refine (toK_ints _ d1 _ (s1.next bel) h1.out).mono ?_
 rintro e w3 ⟨p1A0, p1n0, p1c0, rfl, op1, bb⟩
 replace op0 := op0.next bb
 replace bel := next_trans bel bb
 have zw3 := bb.size
 clear bb
 clear cA0_0 cA0_1
 have cA0_0 : w3.cell? ⟨w.heap.size, 0, none⟩ = some (v0_0) := (rA0.next bel).cell 0
 have cA0_1 : w3.cell? ⟨w.heap.size, 1, none⟩ = some (v0_1) := (rA0.next bel).cell 1
 go_wp2_with fail
 refine (specCountByX _ _ _ d0 d1 x2 x3 _ op0.rd op1.rd h0.out h1.out bl2 bh2 bl3 bh3).mono ?_
 rintro e w4 ⟨he, bb⟩
 rw [HV.out] at he
 subst he
 replace op0 := op0.next bb
 replace op1 := op1.next bb
 replace bel := next_trans bel bb
 have zw4 := bb.size
 clear bb
 clear op0 op1
 clear cA0_0 cA0_1
 have cA0_0 : w4.cell? ⟨w.heap.size, 0, none⟩ = some (v0_0) := (rA0.next bel).cell 0
 have cA0_1 : w4.cell? ⟨w.heap.size, 1, none⟩ = some (v0_1) := (rA0.next bel).cell 1
 clear cA0_0 cA0_1
 have cA0_0 : w4.cell? ⟨w.heap.size, 0, none⟩ = some (v0_0) := (rA0.next bel).cell 0
 have cA0_1 : w4.cell? ⟨w.heap.size, 1, none⟩ = some (v0_1) := (rA0.next bel).cell 1
 go_wp2_with fail
 refine (toK_System _ _ d0 _ (s0.next bel) h0.out).mono ?_
 rintro e w5 ⟨x0A0, x0n0, x0c0, x0A1, x0n1, x0c1, rfl, ox0, bb⟩
 replace bel := next_trans bel bb
 have zw5 := bb.size
 clear bb
 clear cA0_0 cA0_1
 have cA0_0 : w5.cell? ⟨w.heap.size, 0, none⟩ = some (v0_0) := (rA0.next bel).cell 0
 have cA0_1 : w5.cell? ⟨w.heap.size, 1, none⟩ = some (v0_1) := (rA0.next bel).cell 1
 have dA0_0 : (w5.alloc (.cells #[.slice x0A0 x0n0 x0c0, .slice x0A1 x0n1 x0c1] 34)).cell? ⟨w.heap.size, 0, none⟩ = some (v0_0) := ((rA0.next bel).alloc _).cell 0
 have dA0_1 : (w5.alloc (.cells #[.slice x0A0 x0n0 x0c0, .slice x0A1 x0n1 x0c1] 34)).cell? ⟨w.heap.size, 1, none⟩ = some (v0_1) := ((rA0.next bel).alloc _).cell 1
 go_wp2_with fail
 obtain ⟨w6, hw⟩ : ∃ W, W = w5.alloc (.cells #[.slice x0A0 x0n0 x0c0, .slice x0A1 x0n1 x0c1] 34) := ⟨_, rfl⟩
 rw [← hw]
 have rx0 : Row w6 w5.heap.size 34 #[.slice x0A0 x0n0 x0c0, .slice x0A1 x0n1 x0c1] := by rw [hw]; exact Row.new _ _ _
 have bb : Below w5.heap.size w5 w6 := by rw [hw]; exact (Below.refl _ _).alloc (Nat.le_refl _) _
 have yrx0 : w5.heap.size < w6.heap.size := by rw [hw]; simp
 clear hw
 replace ox0 := ox0.next bb
 replace bel := next_trans bel bb
 have zw6 := bb.size
 clear bb
 clear dA0_0 dA0_1
 clear cA0_0 cA0_1
 have cA0_0 : w6.cell? ⟨w.heap.size, 0, none⟩ = some (v0_0) := (rA0.next bel).cell 0
 have cA0_1 : w6.cell? ⟨w.heap.size, 1, none⟩ = some (v0_1) := (rA0.next bel).cell 1
 have cx0_0 : w6.cell? ⟨w5.heap.size, 0, none⟩ = some (.slice x0A0 x0n0 x0c0) := (rx0).cell 0
 have cx0_1 : w6.cell? ⟨w5.heap.size, 1, none⟩ = some (.slice x0A1 x0n1 x0c1) := (rx0).cell 1
 refine (toK_ints _ d1 _ (s1.next bel) h1.out).mono ?_
 rintro e w7 ⟨x1A0, x1n0, x1c0, rfl, ox1, bb⟩
 replace ox0 := ox0.next bb
 replace rx0 := rx0.next bb
 replace bel := next_trans bel bb
 have zw7 := bb.size
 clear bb
 clear cA0_0 cA0_1 cx0_0 cx0_1
 have cA0_0 : w7.cell? ⟨w.heap.size, 0, none⟩ = some (v0_0) := (rA0.next bel).cell 0
 have cA0_1 : w7.cell? ⟨w.heap.size, 1, none⟩ = some (v0_1) := (rA0.next bel).cell 1
 have cx0_0 : w7.cell? ⟨w5.heap.size, 0, none⟩ = some (.slice x0A0 x0n0 x0c0) := (rx0).cell 0
 have cx0_1 : w7.cell? ⟨w5.heap.size, 1, none⟩ = some (.slice x0A1 x0n1 x0c1) := (rx0).cell 1
 go_wp2_with fail
 refine (implCountBy _ _ _ d0 d1 x2 x3 _ ox0.rd ox1.rd h0.out h1.out bl2 bh2 bl3 bh3).mono ?_
 rintro e w8 ⟨he, bb⟩
 rw [HV.out] at he
 subst he
 replace ox0 := ox0.next bb
 replace rx0 := rx0.next bb
 replace ox1 := ox1.next bb
 replace bel := next_trans bel bb
 have zw8 := bb.size
 clear bb
 clear cA0_0 cA0_1 cx0_0 cx0_1
 have cA0_0 : w8.cell? ⟨w.heap.size, 0, none⟩ = some (v0_0) := (rA0.next bel).cell 0
 have cA0_1 : w8.cell? ⟨w.heap.size, 1, none⟩ = some (v0_1) := (rA0.next bel).cell 1
 have cx0_0 : w8.cell? ⟨w5.heap.size, 0, none⟩ = some (.slice x0A0 x0n0 x0c0) := (rx0).cell 0
 have cx0_1 : w8.cell? ⟨w5.heap.size, 1, none⟩ = some (.slice x0A1 x0n1 x0c1) := (rx0).cell 1
 go_wp2_with fail
 replace ox0 := ox0.drew
 replace rx0 := rx0.drew
 replace ox1 := ox1.drew
 replace bel := bel.drew
 have zdw8 := (drew_below w8).size
 go_region_held3 (fun w' => w'.cell? ⟨w5.heap.size, 0, none⟩ = some (.slice x0A0 x0n0 x0c0) ∧ w'.cell? ⟨w5.heap.size, 1, none⟩ = some (.slice x0A1 x0n1 x0c1) ∧ w'.cell? ⟨w.heap.size, 0, none⟩ = some (v0_0) ∧ w'.cell? ⟨w.heap.size, 1, none⟩ = some (v0_1))
  (go_keep)
  (first
   | (go_at_call 11; refine (toK_System _ _ d0 _ (s0.next bel) h0.out).mono ?_; rintro e w9 ⟨t0A0, t0n0, t0c0, t0A1, t0n1, t0c1, rfl, ot, bb⟩; replace ox0 := ox0.next bb; replace rx0 := rx0.next bb; replace ox1 := ox1.next bb; replace bel := next_trans bel bb; have k0_0w9 : w9.cell? ⟨w.heap.size, 0, none⟩ = some (v0_0) := (rA0.next bel).cell 0; have k0_1w9 : w9.cell? ⟨w.heap.size, 1, none⟩ = some (v0_1) := (rA0.next bel).cell 1; have l0_0w9 : w9.cell? ⟨w5.heap.size, 0, none⟩ = some (.slice x0A0 x0n0 x0c0) := rx0.cell 0; have l0_1w9 : w9.cell? ⟨w5.heap.size, 1, none⟩ = some (.slice x0A1 x0n1 x0c1) := rx0.cell 1; have zqw9 := bb.size; clear bb)
   | (go_at_call 14; refine (eqK_System _ _ _ _ d0 _ ox0.rd ot.rd h0.out).mono ?_; rintro e w10 ⟨rfl, bb⟩; replace ox0 := ox0.next bb; replace rx0 := rx0.next bb; replace ox1 := ox1.next bb; replace bel := next_trans bel bb; have k0_0w10 : w10.cell? ⟨w.heap.size, 0, none⟩ = some (v0_0) := (rA0.next bel).cell 0; have k0_1w10 : w10.cell? ⟨w.heap.size, 1, none⟩ = some (v0_1) := (rA0.next bel).cell 1; have l0_0w10 : w10.cell? ⟨w5.heap.size, 0, none⟩ = some (.slice x0A0 x0n0 x0c0) := rx0.cell 0; have l0_1w10 : w10.cell? ⟨w5.heap.size, 1, none⟩ = some (.slice x0A1 x0n1 x0c1) := rx0.cell 1; have zqw10 := bb.size; clear bb ot))
 clear k0_0w9 l0_0w9 k0_1w9 l0_1w9 k0_0w10 l0_0w10 k0_1w10 l0_1w10
 clear ox0 rx0
 clear cA0_0 cA0_1 cx0_0 cx0_1
 have cA0_0 : w10.cell? ⟨w.heap.size, 0, none⟩ = some (v0_0) := (rA0.next bel).cell 0
 have cA0_1 : w10.cell? ⟨w.heap.size, 1, none⟩ = some (v0_1) := (rA0.next bel).cell 1
 go_wp2_with fail
 refine (toK_ints _ d1 _ (s1.next bel) h1.out).mono ?_
 rintro e w11 ⟨t1A0, t1n0, t1c0, rfl, ot1, bb⟩
 replace ox1 := ox1.next bb
 replace bel := next_trans bel bb
 have zw11 := bb.size
 clear bb
 clear cA0_0 cA0_1
 have cA0_0 : w11.cell? ⟨w.heap.size, 0, none⟩ = some (v0_0) := (rA0.next bel).cell 0
 have cA0_1 : w11.cell? ⟨w.heap.size, 1, none⟩ = some (v0_1) := (rA0.next bel).cell 1
 go_wp2_with fail
 refine (eqK_ints _ _ d1 _ ox1.rd ot1.rd h1.out).mono ?_
 rintro e w12 ⟨rfl, bb⟩
 replace ox1 := ox1.next bb
 replace ot1 := ot1.next bb
 replace bel := next_trans bel bb
 have zw12 := bb.size
 clear bb
 clear ot1 ox1
 clear cA0_0 cA0_1
 have cA0_0 : w12.cell? ⟨w.heap.size, 0, none⟩ = some (v0_0) := (rA0.next bel).cell 0
 have cA0_1 : w12.cell? ⟨w.heap.size, 1, none⟩ = some (v0_1) := (rA0.next bel).cell 1
 have F := hid (bW.trans (bel.mono bW.size))
 clear bel bW cA0_0 cA0_1
 go_wp2
 go_ret
 exact ⟨rfl, F.out⟩
end wCountBy
end
end Go.Proofs.Ytblhmplpcdcejaa
