/-
  MERGED: my texts StepSpecC, WalkSpec, Big, one behind the other, as they are. By an AI agent.
-/
import Derived.Test.YtmoidijngeijkaaMFnSteps6
namespace Go.Proofs.Ytmoidijngeijkaa
section
open Go.Lib (hid)
namespace stepSpec
open Go.RowKit base ints sig term termOk endAt endOf marks app sym sub segs segsHelp kinds termFacts shifted matchMath matchSpec shape kindsR kindsW ruleMath ruleSpec stepMath walkMath stepsMath ownL varsOf
set_option maxRecDepth 100000
def RowB (w : World) (T : TypeId) (cs : Array Value) (wr : World) : Prop := Row wr w.heap.size T cs ∧ Below w.heap.size w wr
set_option maxHeartbeats 4000000 in
theorem l7Redexes (a v u : Value) (d : Dat sSystem) (t : List Int) (w : World) (h : Rd w w.heap.size sSystem [a, v] d) (ht : Rd w w.heap.size sI [u] t) (hz : sz sSystem d ≤ 1048576) (hok : rightB d.1 d.2 t = true) :
  Calls Try.prog 34 #[.agg #[a, v], u] w fun e w' => e = .returned (.int .i64 (rdN d.1 d.2 t t.length 0 : Nat)) ∧ Below w.heap.size w w' := by
 obtain ⟨T, m, c, rfl, hT, hcT⟩ := rd_ints.1 ht
 have h0 := h
 obtain ⟨A, n, cs, V, q, cv, rfl, rfl, hs, hc, hcv, hq, hn, hq1, hrs, hsg, hE⟩ := rd_sys h hz
 have HQ := hid hq
 have HTL := hid hT.1
 have HT := hid hT
 have HS := hid hs
 have HRS := hid hrs
 have HE := hid hE
 have HOK := hid (right_parts hok)
 have hcT1 := hcT.1
 have hcT2 := hcT.2.1
 have hm : m ≤ 60 := by have := (term_len (right_parts hok).2).2; have := hT.1; omega
 have hq12 : q ≤ 12 := by have := (sys_parts (right_parts hok).1).2.1; omega
 have HLEN := hid (fun i k (hi : i ≤ m) (hk : k ≤ q) => (show rdN d.1 d.2 t i k ≤ 1000 by
  have h1 := rd_le (sg := d.1) (rs := d.2) (t := t) (i := i) (k := k)
  have h2 : i * d.2.length ≤ 60 * 12 := Nat.mul_le_mul (by omega) (by rw [hq]; omega)
  omega))
 have HS0 := hid (show RowB w 29 #[.slice A n cs, .slice V q cv] (w.alloc (.cells #[.slice A n cs, .slice V q cv] 29)) from ⟨Row.new _ _ _, (Below.refl _ _).alloc (Nat.le_refl _) _⟩)
 clear h h0 ht hz hok hs hc hcv hq hrs hsg hE hT hcT
 go_enter Try.func34, Try.ntmps34
 go_wp2_with fail
 go_loopg [5, 6] m (fun G many at_ wr => ∃ i : Nat, at_ = .int .i64 i ∧ i + G = m ∧ many = .int .i64 (rdN d.1 d.2 t i 0 : Nat) ∧ RowB w 29 #[.slice A n cs, .slice V q cv] wr)
 case atStart => exact ⟨0, rfl, by omega, by rw [rd_zero]; rfl, HS0.out⟩
 case round =>
  clear HS0
  obtain ⟨i, rfl, hiG, rfl, S⟩ := hrel
  obtain ⟨G, hG⟩ : ∃ G, G = gk := ⟨_, rfl⟩
  subst hG
  by_cases him : i < m
  ·have HI := hid hiG
   have HSS := hid S
   clear hiG S
   generalize hz0 : (rdN d.1 d.2 t i 0 : Nat) = z0
   have HZ0 := hid hz0
   clear hz0
   go_wp2_with fail
   go_loopg [5, 7] q (fun g many r wr => ∃ k : Nat, r = .int .i64 k ∧ k + g = q ∧ many = .int .i64 (rdN d.1 d.2 t i k : Nat) ∧ RowB w 29 #[.slice A n cs, .slice V q cv] wr)
   case atStart => exact ⟨0, rfl, by omega, by rw [HZ0.out], HSS.out⟩
   case round =>
    clear HSS HZ0
    obtain ⟨k, rfl, hkg, rfl, S⟩ := hrel
    have K0 : wr.cell? ⟨w.heap.size, 0, none⟩ = some (.slice A n cs) := S.1.cell 0
    have K1 : wr.cell? ⟨w.heap.size, 1, none⟩ = some (.slice V q cv) := S.1.cell 1
    generalize hzk : (rdN d.1 d.2 t i k : Nat) = zk
    have HZK := hid hzk
    have hzk1 : zk ≤ 1000 := by rw [← hzk]; exact HLEN.out i k (by omega) (by omega)
    clear hzk
    by_cases hkq : k < q
    ·have HK := hid hkg
     obtain ⟨b, off, l, rr, y, hV, hb, ey, cl, cr, hry⟩ := rd_at HRS.out S.2 HQ.out hkq
     subst hV
     have hzy : sz sRule y ≤ 1048576 := by rw [← ey.out]; exact HE.out k hkq
     obtain ⟨P, pn, pc, P', pn', pc', rfl, rfl, sP, kP, sP', kP', hpn, hpn'⟩ := rd_rule hry hzy
     have okr : ruleOkB d.1 y = true := by rw [← ey.out]; exact sys_rule HOK.out.1 (by rw [HQ.out]; exact hkq)
     have hat : i < t.length := by rw [HTL.out]; exact him
     have zA : w.heap.size < wr.heap.size := S.1.lt
     have zB : b < wr.heap.size := by omega
     have K2 : wr.cell? ⟨b, off + k * 2, none⟩ = some (.slice P pn pc) := cl
     have LS := hid (subIn (cs := cs) (c := c) (HS.out.next S.2) (HT.out.next S.2) hn (by omega) hcT1 hcT2 HOK.out.2 hat)
     have LM := hid (matchIn (cs := cs) (pc := pc) (HS.out.next S.2) (sP.more (Nat.le_of_lt zA)) hn (rule_parts okr).1 (sub_ok HOK.out.2 hat))
     obtain ⟨R, hR⟩ : ∃ R, mst d.1 (subL d.1 t i) y.1 0 s0 = R := ⟨_, rfl⟩
     rw [hR] at LM
     obtain ⟨bo, hbo⟩ : ∃ bo, R.isSome = bo := ⟨_, rfl⟩
     have HR := hid hbo
     have HRE := hid (show redB d.1 (d.2.getD k ([], [])) t i = bo by unfold redB; rw [ey.out, hR, hbo])
     have B0 := Below.refl wr.heap.size wr
     have i0 : (0 : Int) ≤ (k : Int) := by omega
     have i1 : (k : Int) < (q : Int) := by omega
     have hneA : ¬ w.heap.size = wr.heap.size := by omega
     have hneB : ¬ b = wr.heap.size := by omega
     have hnfA : ¬ wr.heap.size = w.heap.size := by omega
     have hnfB : ¬ wr.heap.size = b := by omega
     have SS := hid S
     clear sP kP sP' kP' hpn hpn' okr hat ey hry hzy cl cr hR hbo S hkg
     go_upto_region 8 with fail
     go_cut [9] (fun s9 wx => s9 = .bool bo ∧ Below wr.heap.size wr wx)
     case first =>
      go_region_held3 (fun w' => w'.cell? ⟨w.heap.size, 0, none⟩ = some (.slice A n cs) ∧ w'.cell? ⟨w.heap.size, 1, none⟩ = some (.slice (some ⟨b, off, none⟩) q cv) ∧ w'.cell? ⟨b, off + k * 2, none⟩ = some (.slice P pn pc))
       (go_keep)
       (first
        | (go_at_call 62; refine (LS.out _ ?_).mono ?_; (first | exact B0 | exact B0.drew | exact (B0.alloc B0.size _) | exact (B0.alloc B0.size _).drew | exact (B0.drew.alloc B0.drew.size _)); rintro e w3 ⟨D, dn, dc, rfl, od, B3, b3⟩; have z3 := B3.size; (first | have r8 := Row.next (Row.drew (Row.new wr 95 #[.slice none 0 0])) b3 | have r8 := Row.next (Row.new wr.drew 95 #[.slice none 0 0]) b3 | skip); have ne30 : ¬ w.heap.size = w3.heap.size := Nat.ne_of_lt (Nat.lt_of_lt_of_le zA B3.size); have nf30 : ¬ w3.heap.size = w.heap.size := Nat.ne_of_gt (Nat.lt_of_lt_of_le zA B3.size); have ne31 : ¬ b = w3.heap.size := Nat.ne_of_lt (Nat.lt_of_lt_of_le zB B3.size); have nf31 : ¬ w3.heap.size = b := Nat.ne_of_gt (Nat.lt_of_lt_of_le zB B3.size); have k0_3 : w3.cell? ⟨w.heap.size, 0, none⟩ = some (.slice A n cs) := (B3.cell (p := ⟨w.heap.size, 0, none⟩) zA).trans K0; have k1_3 : w3.cell? ⟨w.heap.size, 1, none⟩ = some (.slice (some ⟨b, off, none⟩) q cv) := (B3.cell (p := ⟨w.heap.size, 1, none⟩) zA).trans K1; have k2_3 : w3.cell? ⟨b, off + k * 2, none⟩ = some (.slice P pn pc) := (B3.cell (p := ⟨b, off + k * 2, none⟩) zB).trans K2)
        | (go_at_call 61; refine (LM.out _ _ _ _ ?_ ?_).mono ?_; (first | exact B3 | exact B3.alloc B3.size _); (first | exact od | exact Own.alloc od _); rintro e w4 ⟨G, gn, gc, rfl, og, B4, b4⟩; rw [HR.out]; have z4 := B4.size; (first | have r9 := Row.next r8 b4 | have r9 := Row.next (Row.new w3 95 #[.slice none 0 0]) b4 | skip); (first | (have c9 : _ = some (Value.slice none 0 0) := r9.cell 0; have f9 := r9.free 0) | skip); have ne40 : ¬ w.heap.size = w4.heap.size := Nat.ne_of_lt (Nat.lt_of_lt_of_le zA B4.size); have nf40 : ¬ w4.heap.size = w.heap.size := Nat.ne_of_gt (Nat.lt_of_lt_of_le zA B4.size); have ne41 : ¬ b = w4.heap.size := Nat.ne_of_lt (Nat.lt_of_lt_of_le zB B4.size); have nf41 : ¬ w4.heap.size = b := Nat.ne_of_gt (Nat.lt_of_lt_of_le zB B4.size); have k0_4 : w4.cell? ⟨w.heap.size, 0, none⟩ = some (.slice A n cs) := (B4.cell (p := ⟨w.heap.size, 0, none⟩) zA).trans K0; have k1_4 : w4.cell? ⟨w.heap.size, 1, none⟩ = some (.slice (some ⟨b, off, none⟩) q cv) := (B4.cell (p := ⟨w.heap.size, 1, none⟩) zA).trans K1; have k2_4 : w4.cell? ⟨b, off + k * 2, none⟩ = some (.slice P pn pc) := (B4.cell (p := ⟨b, off + k * 2, none⟩) zB).trans K2))
      all_goals
       go_wp2_with fail
       go_meet
       first | (with_reducible exact box_a B4) | (with_reducible exact box_b B4 (Nat.le_refl _)) | (with_reducible exact box_b B4 z3)
     case rest =>
      rename World => wc
      obtain ⟨rfl, bx⟩ := hcut
      have ST := rd_step (sg := d.1) (rs := d.2) (t := t) (i := i) (k := k) (by rw [HQ.out]; exact hkq)
      rw [HRE.out, HZK.out] at ST
      have HST := hid ST
      have F := hid (show RowB w 29 #[.slice A n cs, .slice (some ⟨b, off, none⟩) q cv] wc from ⟨SS.out.1.next bx, SS.out.2.trans (bx.mono SS.out.2.size)⟩)
      clear bx ST SS K0 K1 K2 LS LM HR HRE
      cases bo with
      | false =>
       go_wp2
       go_roundg (gk - 1)
       case measure => have := HK.out; omega
       case rel => exact ⟨k + 1, by simp, by have := HK.out; omega, by rw [HST.out]; simp, F.out⟩
      | true =>
       go_wp2
       go_roundg (gk - 1)
       case measure => have := HK.out; omega
       case rel => exact ⟨k + 1, by simp, by have := HK.out; omega, by rw [HST.out]; simp, F.out⟩
    ·have e1 : k = q := by omega
     subst e1
     have HZR := hid (show rdN d.1 d.2 t (i + 1) 0 = zk by rw [← rd_row, HQ.out]; exact HZK.out)
     have F := hid S
     clear S
     go_wp2
     go_roundg (G - 1)
     case measure => have := HI.out; omega
     case rel => exact ⟨i + 1, by simp, by have := HI.out; omega, by rw [HZR.out], F.out⟩
  ·have e1 : i = m := by omega
   subst e1
   have hF : (Ending.returned (.int .i64 (rdN d.1 d.2 t i 0 : Nat))) = .returned (.int .i64 (rdN d.1 d.2 t t.length 0 : Nat)) ∧ Below w.heap.size w wr := ⟨by rw [HTL.out], S.2⟩
   have HF := hid hF
   clear hF S
   generalize (rdN d.1 d.2 t i 0 : Nat) = z at *
   go_wp2
   go_ret
   exact HF.out
set_option maxHeartbeats 2000000 in
theorem specNormalIn (a v u : Value) (d : Dat sSystem) (t : List Int) (w : World) (h : Rd w w.heap.size sSystem [a, v] d) (ht : Rd w w.heap.size sI [u] t) (hz : sz sSystem d ≤ 1048576) (hz' : sz sI t ≤ 1048576) :
  Calls Try.prog 11 #[.agg #[a, v], u] w (AnsB w (normalB d.1 d.2 t)) := by
 have htv := ht
 obtain ⟨T, m, c, rfl, hT, hcT⟩ := rd_ints.1 ht
 have hm := len_ints hT.1 hz'
 obtain ⟨W, hW, rA, bel⟩ := box1 w 29 #[a, v]
 have HW := hid hW
 have L1 := hid (l7Right _ _ d T m c t W (h.next bel) hz (hT.next bel) hm)
 have L2 := hid (fun (w1 : World) (bb : Below w.heap.size w w1) hok => l7Redexes _ _ _ d t w1 (h.next bb) (htv.next bb) hz hok)
 clear hW h ht htv hz hz' hT hcT
 cases ok : rightB d.1 d.2 t with
 | false =>
  have HR := hid ok
  clear ok
  go_enter Try.func11, Try.ntmps11
  go_wp2_with fail
  rw [← HW.out]
  refine L1.out.mono ?_
  rintro e w1 ⟨he, bb⟩
  rw [HR.out] at he
  subst he
  have F := hid (ansB (b := normalB d.1 d.2 t) (a := false) (by unfold normalB; rw [HR.out]; rfl) (next_trans bel bb))
  clear bb bel rA L2
  go_wp2
  go_ret
  exact F.out
 | true =>
  have HR := hid ok
  clear ok
  go_enter Try.func11, Try.ntmps11
  go_wp2_with fail
  rw [← HW.out]
  refine L1.out.mono ?_
  rintro e w1 ⟨he, bb⟩
  rw [HR.out] at he
  subst he
  replace rA := rA.next bb
  replace bel := next_trans bel bb
  have K0 : w1.cell? ⟨w.heap.size, 0, none⟩ = some a := rA.cell 0
  have K1 : w1.cell? ⟨w.heap.size, 1, none⟩ = some v := rA.cell 1
  clear bb L1 rA
  go_wp2_with fail
  refine (L2.out w1 bel HR.out).mono ?_
  rintro e w2 ⟨rfl, bb⟩
  generalize hz : (rdN d.1 d.2 t t.length 0 : Nat) = z
  have hd : normalB d.1 d.2 t = ((z : Int) == 0) := by
   rw [normal_eq HR.out, hz, Bool.eq_iff_iff, decide_eq_true_iff, beq_iff_eq]
   omega
  have F := hid (show AnsB w (normalB d.1 d.2 t) (.returned (.bool ((z : Int) == 0))) w2 from ⟨by rw [hd], next_trans bel bb⟩)
  clear hd hz bb bel L2 K0 K1
  go_wp2
  go_ret
  exact F.out
end stepSpec
end
section
namespace walkSpec
open Go.RowKit base ints sig term termOk endAt endOf marks app sym sub segs segsHelp kinds termFacts same shifted shape kindsR kindsW varsOf ruleMath ruleSpec stepMath walkMath stepSpec
set_option maxRecDepth 100000
theorem rd_step {w wr : World} {B : Nat} {A : Option Addr} {n c : Nat} {L : List St} {k : Nat} (h : Rd w B sStepS [.slice A n c] L) (hb : Below B w wr) (hl : L.length = n) (hk : k < n) :
  ∃ b off u x, A = some ⟨b, off, none⟩ ∧ b < B ∧ Hid (L.getD k (0, 0, []) = x) ∧ wr.cell? ⟨b, off + k * 3, none⟩ = some (.int .i64 x.1) ∧ wr.cell? ⟨b, off + k * 3 + 1, none⟩ = some (.int .i64 x.2.1) ∧ wr.cell? ⟨b, off + k * 3 + 2, none⟩ = some u ∧ Rd wr B sI [u] x.2.2 := by
 obtain ⟨b, off, n2, c2, es, ev, -, -, hbB, hel, hp, hr⟩ := h.elem (j := k) (by rw [hl]; exact hk)
 injection ev with e1 e2 e3
 subst e1
 obtain ⟨v0, rfl⟩ := cells_Step hr
 have hpw := hp.keep (w' := wr) (fun p hp => hb.cell (p := p) (by rw [hp]; exact hbB))
 obtain ⟨-, -, p2⟩ := parts_Step hr
 exact ⟨b, off, v0, _, rfl, hbB, Lib.hid rfl, hpw 0 (by simp), hpw 1 (by simp), hpw 2 (by simp), p2.below hb⟩
end walkSpec
end
section
namespace bigs
open Go.RowKit base ints
theorem bigAns (A : Option Addr) (n c : Nat) (b : Bool) (w : World) (hb : decide (4096 < n) = b) (hn : n ≤ 9223372036854775807) : Calls Try.prog 5 #[.slice A n c] w fun e w' => w = w' ∧ e = .returned (.bool b) := by
 cases b with
 | true =>
  have h : (4096 : Int) < (n : Int) := by have := of_decide_eq_true hb; omega
  clear hb
  go_enter Try.func5, Try.ntmps5
  go_wp2
  go_ret
  exact ⟨rfl, rfl⟩
 | false =>
  have h : ¬ (4096 : Int) < (n : Int) := by have := of_decide_eq_false hb; omega
  have h2 : decide (4096 < n) = false := hb
  clear hb
  go_enter Try.func5, Try.ntmps5
  go_wp2
  go_ret
  exact ⟨rfl, rfl⟩
end bigs
end
end Go.Proofs.Ytmoidijngeijkaa
