/-
  MERGED: my texts WalkSpecF, WalkImplE, one behind the other, as they are. By an AI agent.
-/
import Derived.Test.YtblhmplpcdcejaaGreatMFnExactWalkUnder6
namespace Go.Proofs.YtblhmplpcdcejaaGreat
section
open Go.Lib (hid)
open List (setIfInBounds_toArray set_cons_zero set_cons_succ getElem_toArray getElem_cons_zero getElem_cons_succ)
namespace und
open Go.RowKit base ints sig term termOk endAt endOf marks app sym sub segs segsHelp kinds termFacts same shifted substOk fillMath gives filled shape kindsR kindsW kindsT varsOf ruleMath ruleSpec stepMath walkMath stepSpec walkSpec ownL heldT
set_option maxRecDepth 100000
structure Wu (w : World) (a v f s z : Value) (B : Nat) (X O : Option Addr) (xn xc on oc : Nat) (fr : List Int) (L : List St) (wr : World) : Prop where
 r0 : Row wr w.heap.size 45 #[a, v]
 r1 : Row wr (w.heap.size + 1) 39 #[f, s]
 rs : Row wr (w.heap.size + 1 + 1) 48 #[z]
 r2 : Row wr (w.heap.size + 1 + 1 + 1) 39 #[.slice none 0 0, .slice none 0 0]
 r3 : Row wr B 39 #[.slice X xn xc, .slice O on oc]
 x : Ownd wr (w.heap.size + 1 + 1 + 1 + 1) B X xn xc fr
 o : OwnL wr (B + 1) wr.heap.size 71 sStep O on oc L
 b : Below w.heap.size w wr
 z : w.heap.size + 1 + 1 + 1 + 1 ≤ B
theorem Wu.next {w wr w' : World} {a v f s z : Value} {B : Nat} {X O : Option Addr} {xn xc on oc : Nat} {fr : List Int} {L : List St} (h : Wu w a v f s z B X O xn xc on oc fr L wr) (hb : Below wr.heap.size wr w') : Wu w a v f s z B X O xn xc on oc fr L w' :=
 ⟨h.r0.next hb, h.r1.next hb, h.rs.next hb, h.r2.next hb, h.r3.next hb, h.x.next hb, (h.o.next hb).wider (Nat.le_refl _) hb.size, next_trans h.b hb, h.z⟩
structure Wv (w : World) (a v f s z : Value) (wr : World) : Prop where
 r0 : Row wr w.heap.size 45 #[a, v]
 r1 : Row wr (w.heap.size + 1) 39 #[f, s]
 rs : Row wr (w.heap.size + 1 + 1) 48 #[z]
 r2 : Row wr (w.heap.size + 1 + 1 + 1) 39 #[.slice none 0 0, .slice none 0 0]
 b : Below w.heap.size w wr
theorem Wv.next {w wr w' : World} {a v f s z : Value} (h : Wv w a v f s z wr) (hb : Below wr.heap.size wr w') : Wv w a v f s z w' := ⟨h.r0.next hb, h.r1.next hb, h.rs.next hb, h.r2.next hb, next_trans h.b hb⟩
theorem wv_new (w : World) (a v f s z : Value) : ∃ W, W = (((w.alloc (.cells #[a, v] 45)).alloc (.cells #[f, s] 39)).alloc (.cells #[z] 48)).alloc (.cells #[.slice none 0 0, .slice none 0 0] 39) ∧ Wv w a v f s z W := by
 refine ⟨_, rfl, ?_, ?_, ?_, ?_, ?_⟩
 ·exact (((Row.new w _ _).alloc _).alloc _).alloc _
 ·have := ((Row.new (w.alloc (.cells #[a, v] 45)) 39 #[f, s]).alloc (.cells #[z] 48)).alloc (.cells #[.slice none 0 0, .slice none 0 0] 39)
  simpa using this
 ·have := (Row.new ((w.alloc (.cells #[a, v] 45)).alloc (.cells #[f, s] 39)) 48 #[z]).alloc (.cells #[.slice none 0 0, .slice none 0 0] 39)
  simpa using this
 ·have := Row.new (((w.alloc (.cells #[a, v] 45)).alloc (.cells #[f, s] 39)).alloc (.cells #[z] 48)) 39 #[.slice none 0 0, .slice none 0 0]
  simpa using this
 ·exact ((((Below.refl _ _).alloc (Nat.le_refl _) _).alloc (by simp) _).alloc (by simp; omega) _).alloc (by simp; omega) _
set_option maxHeartbeats 8000000 in
theorem specWalkUnder (a v f s u : Value) (d : Dat sSystem) (k : Dat sWalk) (ss : Dat sSubst) (w : World) (h : Rd w w.heap.size sSystem [a, v] d) (h1 : Rd w w.heap.size sWalk [f, s] k) (h2 : Rd w w.heap.size sSubst [u] ss) (hz : sz sSystem d ≤ 1048576) (hz1 : sz sWalk k ≤ 1048576) (hz2 : sz sSubst ss ≤ 1048576) :
  Calls Tryz.prog 8 #[.agg #[a, v], .agg #[f, s], .agg #[u]] w (AnsWalk w (undW d.1 d.2 k ss) (undB d.1 d.2 k ss)) := by
 obtain ⟨F, fn, fc, S, sn, sc, rfl, rfl, hF, hcF, hfn, hsn0, hsn, hcS, hrF, hrS, hzF, hzS⟩ := rd_walk h1 hz1
 obtain ⟨T, m, c, rfl, hT, htot, hm⟩ := rd_subst h2 hz2
 have h0 := h
 obtain ⟨A, n, cs, V, q, cv, rfl, rfl, hs, hc, hcv, hq, hn, hq1, hrs, hsg, hE⟩ := rd_sys h hz
 obtain ⟨W, hW, J⟩ := wv_new w (.slice A n cs) (.slice V q cv) (.slice F fn fc) (.slice S sn sc) (.slice T m c)
 have HW := hid hW
 have L1 := hid (specWalkOk _ _ _ _ d k W (h0.next J.b) (h1.next J.b) hz hz1)
 have L2 := hid (fun (w1 : World) (bb : Below w.heap.size w w1) => substOk.specSubstOk A T n cs m c d.1 ss w1 (hs.next bb) (hT.next bb) hn htot)
 have HST := hid (show Segs w w.heap.size T m ss ∧ Seg w w.heap.size F fn k.1 from ⟨hT, hF⟩)
 have HTOT := hid htot
 have HRS := hid hrS
 have HSN := hid hsn0
 clear hW h h0 h1 h2 hz hz1 hz2 hF hcF hcS hrF hrS hzF hzS hT hs hc hcv hq hrs hsg hE hsn0 htot
 cases okw : walkB d.1 d.2 k with
 | false =>
  have HO := hid okw
  clear okw
  go_enter Tryz.func8, Tryz.ntmps8
  have K0 : W.cell? ⟨w.heap.size, 0, none⟩ = some (.slice A n cs) := J.r0.cell 0
  have K1 : W.cell? ⟨w.heap.size, 1, none⟩ = some (.slice V q cv) := J.r0.cell 1
  have K2 : W.cell? ⟨w.heap.size + 1, 0, none⟩ = some (.slice F fn fc) := J.r1.cell 0
  have K3 : W.cell? ⟨w.heap.size + 1, 1, none⟩ = some (.slice S sn sc) := J.r1.cell 1
  go_wp2_with fail
  rw [← HW.out]
  go_wp2_with fail
  refine L1.out.mono ?_
  rintro e w1 ⟨he, bb⟩
  rw [HO.out] at he
  subst he
  have J1 := J.next bb
  have j2 := J1.r2
  have jb := J1.b
  clear L2 K0 K1 K2 K3 J J1
  have y0 : w1.cell? ⟨w.heap.size + 1 + 1 + 1, 0, none⟩ = some (.slice none 0 0) := j2.cell 0
  have y1 : w1.cell? ⟨w.heap.size + 1 + 1 + 1, 1, none⟩ = some (.slice none 0 0) := j2.cell 1
  have g0 := j2.free 0
  have g1 := j2.free 1
  have ra := j2.put 0 (.slice none 0 0)
  have y2 : (w1.setCell ⟨w.heap.size + 1 + 1 + 1, 0, none⟩ (.slice none 0 0)).cell? ⟨w.heap.size + 1 + 1 + 1, 1, none⟩ = some (.slice none 0 0) := ra.cell 1
  have g2 := ra.free 1
  have rb := ra.put 1 (.slice none 0 0)
  have u0 : ((w1.setCell ⟨w.heap.size + 1 + 1 + 1, 0, none⟩ (.slice none 0 0)).setCell ⟨w.heap.size + 1 + 1 + 1, 1, none⟩ (.slice none 0 0)).cell? ⟨w.heap.size + 1 + 1 + 1, 0, none⟩ = some (.slice none 0 0) := rb.cell 0
  have u1 : ((w1.setCell ⟨w.heap.size + 1 + 1 + 1, 0, none⟩ (.slice none 0 0)).setCell ⟨w.heap.size + 1 + 1 + 1, 1, none⟩ (.slice none 0 0)).cell? ⟨w.heap.size + 1 + 1 + 1, 1, none⟩ = some (.slice none 0 0) := rb.cell 1
  have FZ : AnsWalk w (undW d.1 d.2 k ss) (undB d.1 d.2 k ss) (.returned (.tuple #[.agg #[.slice none 0 0, .slice none 0 0], .bool false])) ((w1.setCell ⟨w.heap.size + 1 + 1 + 1, 0, none⟩ (.slice none 0 0)).setCell ⟨w.heap.size + 1 + 1 + 1, 1, none⟩ (.slice none 0 0)) := ansWalk_no (und_no1 HO.out) (((jb).setCell (show w.heap.size ≤ w.heap.size + 1 + 1 + 1 by omega) _).setCell (show w.heap.size ≤ w.heap.size + 1 + 1 + 1 by omega) _)
  have HFZ := hid FZ
  clear FZ ra rb bb jb j2
  go_wp2
  exact bodyPost_ret (v := .tuple #[.agg #[.slice none 0 0, .slice none 0 0], .bool false]) (by simp [results, Tryz.results8, go_sem, u0, u1]) rfl HFZ.out
 | true =>
  have HO := hid okw
  clear okw
  cases oks : substOkB d.1 ss with
  | false =>
   have HK := hid oks
   clear oks
   go_enter Tryz.func8, Tryz.ntmps8
   have K0 : W.cell? ⟨w.heap.size, 0, none⟩ = some (.slice A n cs) := J.r0.cell 0
   have K1 : W.cell? ⟨w.heap.size, 1, none⟩ = some (.slice V q cv) := J.r0.cell 1
   have K2 : W.cell? ⟨w.heap.size + 1, 0, none⟩ = some (.slice F fn fc) := J.r1.cell 0
   have K3 : W.cell? ⟨w.heap.size + 1, 1, none⟩ = some (.slice S sn sc) := J.r1.cell 1
   go_wp2_with fail
   rw [← HW.out]
   go_wp2_with fail
   refine L1.out.mono ?_
   rintro e w1 ⟨he, bb⟩
   rw [HO.out] at he
   subst he
   have J1 := J.next bb
   clear K0 K1 K2 K3 J bb L1
   have k0 : w1.cell? ⟨w.heap.size, 0, none⟩ = some (.slice A n cs) := J1.r0.cell 0
   have k4 : w1.cell? ⟨w.heap.size + 1 + 1, 0, none⟩ = some (.slice T m c) := J1.rs.cell 0
   go_wp2_with fail
   refine (L2.out w1 J1.b).mono ?_
   rintro e w2 ⟨he, bb⟩
   rw [HK.out] at he
   subst he
   have J2 := J1.next bb
   have j2 := J2.r2
   have jb := J2.b
   clear L2 k0 k4 J1 J2
   have y0 : w2.cell? ⟨w.heap.size + 1 + 1 + 1, 0, none⟩ = some (.slice none 0 0) := j2.cell 0
   have y1 : w2.cell? ⟨w.heap.size + 1 + 1 + 1, 1, none⟩ = some (.slice none 0 0) := j2.cell 1
   have g0 := j2.free 0
   have g1 := j2.free 1
   have ra := j2.put 0 (.slice none 0 0)
   have y2 : (w2.setCell ⟨w.heap.size + 1 + 1 + 1, 0, none⟩ (.slice none 0 0)).cell? ⟨w.heap.size + 1 + 1 + 1, 1, none⟩ = some (.slice none 0 0) := ra.cell 1
   have g2 := ra.free 1
   have rb := ra.put 1 (.slice none 0 0)
   have u0 : ((w2.setCell ⟨w.heap.size + 1 + 1 + 1, 0, none⟩ (.slice none 0 0)).setCell ⟨w.heap.size + 1 + 1 + 1, 1, none⟩ (.slice none 0 0)).cell? ⟨w.heap.size + 1 + 1 + 1, 0, none⟩ = some (.slice none 0 0) := rb.cell 0
   have u1 : ((w2.setCell ⟨w.heap.size + 1 + 1 + 1, 0, none⟩ (.slice none 0 0)).setCell ⟨w.heap.size + 1 + 1 + 1, 1, none⟩ (.slice none 0 0)).cell? ⟨w.heap.size + 1 + 1 + 1, 1, none⟩ = some (.slice none 0 0) := rb.cell 1
   have FZ : AnsWalk w (undW d.1 d.2 k ss) (undB d.1 d.2 k ss) (.returned (.tuple #[.agg #[.slice none 0 0, .slice none 0 0], .bool false])) ((w2.setCell ⟨w.heap.size + 1 + 1 + 1, 0, none⟩ (.slice none 0 0)).setCell ⟨w.heap.size + 1 + 1 + 1, 1, none⟩ (.slice none 0 0)) := ansWalk_no (und_no2 HK.out) (((jb).setCell (show w.heap.size ≤ w.heap.size + 1 + 1 + 1 by omega) _).setCell (show w.heap.size ≤ w.heap.size + 1 + 1 + 1 by omega) _)
   have HFZ := hid FZ
   clear FZ ra rb bb jb j2
   go_wp2
   exact bodyPost_ret (v := .tuple #[.agg #[.slice none 0 0, .slice none 0 0], .bool false]) (by simp [results, Tryz.results8, go_sem, u0, u1]) rfl HFZ.out
  | true =>
   have HK := hid oks
   clear oks
   have h60 : sn ≤ 60 := by rw [← HSN.out]; exact (walk_parts HO.out).2.2.1
   have hM : ∀ i, (givesL ss i).length ≤ 60 := fun i => gives_len HK.out i
   have hfn60 : fn ≤ 60 := by have := (term_len (walk_parts HO.out).2.1).2; have := HST.out.2.1; omega
   have LFL := hid (fun (w3 : World) (bb : Below w.heap.size w w3) (U : Option Addr) (un uc : Nat) (y : List Int) (hy : Seg w w.heap.size U un y) (hun : un ≤ 60) (hv : ∀ x ∈ y, -24 ≤ x) => filled.l2Filled T U m c un uc ss y w3 (HST.out.1.next bb) (hy.next bb) HTOT.out hun hv hM)
   have LMV := hid (fun (w3 : World) (bb : Below w.heap.size w w3) (U : Option Addr) (un uc a : Nat) (y : List Int) (hy : Seg w w.heap.size U un y) (hun : un ≤ 60) (ha : a ≤ un) (hv : ∀ x ∈ y, -24 ≤ x) => l7Moved T U m c un uc a ss y w3 (HST.out.1.next bb) (hy.next bb) HTOT.out hun ha hv hM)
   clear hM
   go_enter Tryz.func8, Tryz.ntmps8
   have K0 : W.cell? ⟨w.heap.size, 0, none⟩ = some (.slice A n cs) := J.r0.cell 0
   have K1 : W.cell? ⟨w.heap.size, 1, none⟩ = some (.slice V q cv) := J.r0.cell 1
   have K2 : W.cell? ⟨w.heap.size + 1, 0, none⟩ = some (.slice F fn fc) := J.r1.cell 0
   have K3 : W.cell? ⟨w.heap.size + 1, 1, none⟩ = some (.slice S sn sc) := J.r1.cell 1
   go_wp2_with fail
   rw [← HW.out]
   go_wp2_with fail
   refine L1.out.mono ?_
   rintro e w1 ⟨he, bb⟩
   rw [HO.out] at he
   subst he
   have J1 := J.next bb
   clear K0 K1 K2 K3 J bb L1
   have k0 : w1.cell? ⟨w.heap.size, 0, none⟩ = some (.slice A n cs) := J1.r0.cell 0
   have k4 : w1.cell? ⟨w.heap.size + 1 + 1, 0, none⟩ = some (.slice T m c) := J1.rs.cell 0
   go_wp2_with fail
   refine (L2.out w1 J1.b).mono ?_
   rintro e w2 ⟨he, bb⟩
   rw [HK.out] at he
   subst he
   have J2 := J1.next bb
   clear L2 k0 k4 J1 bb
   have k2 : w2.cell? ⟨w.heap.size + 1, 0, none⟩ = some (.slice F fn fc) := J2.r1.cell 0
   have k4 : w2.cell? ⟨w.heap.size + 1 + 1, 0, none⟩ = some (.slice T m c) := J2.rs.cell 0
   have LP1 := hid (LFL.out w2 J2.b F fn fc k.1 HST.out.2 hfn60 (vars24 (walk_parts HO.out).2.1))
   have z2w := J2.r2.lt
   go_wp2_with fail
   refine LP1.out.mono ?_
   rintro e w3 ⟨X, xn, xc, rfl, oX, bb⟩
   have zX := bb.size
   have J3 := J2.next bb
   clear k2 k4 LP1 J2
   cases hb1 : fitsB ss k.1 with
   | false =>
    have HB1 := hid hb1
    have j2 := J3.r2
    have jb := J3.b
    clear hb1 bb J3
    have y0 : w3.cell? ⟨w.heap.size + 1 + 1 + 1, 0, none⟩ = some (.slice none 0 0) := j2.cell 0
    have y1 : w3.cell? ⟨w.heap.size + 1 + 1 + 1, 1, none⟩ = some (.slice none 0 0) := j2.cell 1
    have g0 := j2.free 0
    have g1 := j2.free 1
    have ra := j2.put 0 (.slice none 0 0)
    have y2 : (w3.setCell ⟨w.heap.size + 1 + 1 + 1, 0, none⟩ (.slice none 0 0)).cell? ⟨w.heap.size + 1 + 1 + 1, 1, none⟩ = some (.slice none 0 0) := ra.cell 1
    have g2 := ra.free 1
    have rb := ra.put 1 (.slice none 0 0)
    have u0 : ((w3.setCell ⟨w.heap.size + 1 + 1 + 1, 0, none⟩ (.slice none 0 0)).setCell ⟨w.heap.size + 1 + 1 + 1, 1, none⟩ (.slice none 0 0)).cell? ⟨w.heap.size + 1 + 1 + 1, 0, none⟩ = some (.slice none 0 0) := rb.cell 0
    have u1 : ((w3.setCell ⟨w.heap.size + 1 + 1 + 1, 0, none⟩ (.slice none 0 0)).setCell ⟨w.heap.size + 1 + 1 + 1, 1, none⟩ (.slice none 0 0)).cell? ⟨w.heap.size + 1 + 1 + 1, 1, none⟩ = some (.slice none 0 0) := rb.cell 1
    have FZ : AnsWalk w (undW d.1 d.2 k ss) (undB d.1 d.2 k ss) (.returned (.tuple #[.agg #[.slice none 0 0, .slice none 0 0], .bool false])) ((w3.setCell ⟨w.heap.size + 1 + 1 + 1, 0, none⟩ (.slice none 0 0)).setCell ⟨w.heap.size + 1 + 1 + 1, 1, none⟩ (.slice none 0 0)) := ansWalk_no (und_no3 HB1.out) (((jb).setCell (show w.heap.size ≤ w.heap.size + 1 + 1 + 1 by omega) _).setCell (show w.heap.size ≤ w.heap.size + 1 + 1 + 1 by omega) _)
    have HFZ := hid FZ
    clear FZ ra rb jb j2 oX LFL LMV
    go_wp2
    exact bodyPost_ret (v := .tuple #[.agg #[.slice none 0 0, .slice none 0 0], .bool false]) (by simp [results, Tryz.results8, go_sem, u0, u1]) rfl HFZ.out
   | true =>
    have HB1 := hid hb1
    have oX1 : Own w3 w2.heap.size (.slice X xn xc) (fillL (givesL ss) k.1) := by
     have := oX
     unfold fitL at this
     rw [if_pos hb1] at this
     exact this
    have b4 : Below w3.heap.size w3 (w3.alloc (.cells #[.slice X xn xc, .slice none 0 0] 39)) := (Below.refl _ _).alloc (Nat.le_refl _) _
    obtain ⟨W4, hW4⟩ : ∃ W4, W4 = w3.alloc (.cells #[.slice X xn xc, .slice none 0 0] 39) := ⟨_, rfl⟩
    have J4 := J3.next b4
    have HI0 := hid (show Wu w (.slice A n cs) (.slice V q cv) (.slice F fn fc) (.slice S sn sc) (.slice T m c) w3.heap.size X none xn xc 0 0 (fillL (givesL ss) k.1) (undL (givesL ss) (k.2.take 0)) W4 from by
     rw [hW4]
     exact ⟨J4.r0, J4.r1, J4.rs, J4.r2, Row.new _ _ _, ((Ownd.of_own oX1).next b4).wider (by omega) (Nat.le_refl _), OwnL.nil _ _ _ _ _, J4.b, by omega⟩)
    have K0 : (w3.alloc (.cells #[.slice X xn xc, .slice none 0 0] 39)).cell? ⟨w.heap.size + 1, 0, none⟩ = some (.slice F fn fc) := J4.r1.cell 0
    have HW4 := hid hW4
    clear hb1 bb oX oX1 b4 hW4 J3 J4
    go_wp2_with fail
    rw [← HW4.out]
    clear HW4 K0
    generalize w3.heap.size = B at *
    go_loopg [11, 12] sn (fun g now_ i_ wr => ∃ (i on oc yn yc : Nat) (O Y : Option Addr), i_ = .int .i64 i ∧ now_ = .slice Y yn yc ∧ Seg w w.heap.size Y yn (nowT k.1 k.2 i) ∧ i + g = sn ∧ (∀ j, j < i → fitsB ss (k.2.getD j (0, 0, [])).2.2 = true) ∧ Wu w (.slice A n cs) (.slice V q cv) (.slice F fn fc) (.slice S sn sc) (.slice T m c) B X O xn xc on oc (fillL (givesL ss) k.1) (undL (givesL ss) (k.2.take i)) wr)
    case atStart => exact ⟨0, 0, 0, fn, fc, none, F, rfl, rfl, HST.out.2, by omega, fun j hj => absurd hj (Nat.not_lt_zero _), HI0.out⟩
    case round =>
     clear HI0
     obtain ⟨i, on, oc, yn, yc, O, Y, rfl, rfl, hY, hg, hlow, J⟩ := hrel
     have K1 : wr.cell? ⟨w.heap.size + 1, 1, none⟩ = some (.slice S sn sc) := J.r1.cell 1
     have K4 : wr.cell? ⟨w.heap.size + 1 + 1, 0, none⟩ = some (.slice T m c) := J.rs.cell 0
     have HLOW := hid hlow
     have HG := hid hg
     clear hlow hg
     by_cases hi : i < sn
     ·obtain ⟨b, off, uu, x, hA, hb, ex, C0, C1, C2, hx2⟩ := rd_step HRS.out (Below.refl _ _) HSN.out hi
      subst hA
      obtain ⟨xa, xr, ys⟩ := x
      obtain ⟨U, un, uc, rfl, hU, hcU⟩ := rd_ints.1 hx2
      have hil : i < k.2.length := by rw [HSN.out]; exact hi
      have hwp := walk_parts HO.out
      have hwa := walk_at HO.out hil ex.out
      have hpre := now_pre hwp.2.2.2 hwp.2.1 hil ex.out
      have hun : un ≤ 60 := by have := (term_len hwa.2).2; have := hU.1; omega
      have hyn : yn ≤ 60 := by have := (term_len hpre.2.2.2).2; have := hY.1; omega
      have hxa : 0 ≤ xa ∧ xa < 60 := hwa.1
      obtain ⟨p, hp⟩ := Int.eq_ofNat_of_zero_le hxa.1
      subst hp
      have hpy : p ≤ yn := by have h8 : (p : Int) < ((nowT k.1 k.2 i).length : Int) := hpre.1.2; have := hY.1; omega
      have HMV := hid (show ((fillL (givesL ss) ((nowT k.1 k.2 i).take p)).length : Int) = mvd (givesL ss) ((p : Int), xr, ys) from by
       unfold mvd
       have h8 : ys.take p = (nowT k.1 k.2 i).take p := hpre.2.1
       rw [← h8]
       rfl)
      have HVS := hid (vars24 hpre.2.2.2)
      have c0 : wr.cell? ⟨b, off + i * 3, none⟩ = some (.int .i64 (p : Int)) := (J.b.cell (p := ⟨b, off + i * 3, none⟩) hb).trans C0
      have c1 : wr.cell? ⟨b, off + i * 3 + 1, none⟩ = some (.int .i64 xr) := (J.b.cell (p := ⟨b, off + i * 3 + 1, none⟩) hb).trans C1
      have c2 : wr.cell? ⟨b, off + i * 3 + 2, none⟩ = some (.slice U un uc) := (J.b.cell (p := ⟨b, off + i * 3 + 2, none⟩) hb).trans C2
      have HC := hid (show w.cell? ⟨b, off + i * 3 + 2, none⟩ = some (.slice U un uc) ∧ Seg w w.heap.size U un ys from ⟨C2, hU⟩)
      have zA : w.heap.size < wr.heap.size := J.r0.lt
      have zA1 : w.heap.size + 1 < wr.heap.size := J.r1.lt
      have zA2 : w.heap.size + 1 + 1 < wr.heap.size := J.rs.lt
      have zB : b < wr.heap.size := by omega
      have zBB : B < wr.heap.size := J.r3.lt
      have HZ := hid J.z
      have LP := hid (LFL.out wr.drew J.b.drew U un uc ys hU hun (vars24 hwa.2))
      have i0 : (0 : Int) ≤ (i : Int) := by omega
      have i1 : (i : Int) < (sn : Int) := by omega
      have JJ := hid J
      have EX := hid ex.out
      have HY := hid hY
      clear hx2 hU hcU hwa J ex C0 C1 C2 hpre hwp hY hxa
      go_wp2_with fail
      go_region_held3 (fun w' => w'.cell? ⟨w.heap.size + 1 + 1, 0, none⟩ = some (.slice T m c) ∧ w'.cell? ⟨w.heap.size + 1, 1, none⟩ = some (.slice (some ⟨b, off, none⟩) sn sc) ∧ w'.cell? ⟨b, off + i * 3 + 2, none⟩ = some (.slice U un uc))
       (go_keep)
       (first
        | (go_at_call 32; refine LP.out.mono ?_; rintro e w2 ⟨U2, un2, uc2, rfl, oU, bb⟩; have k0 : w2.cell? ⟨w.heap.size + 1 + 1, 0, none⟩ = some (.slice T m c) := (bb.cell (p := ⟨w.heap.size + 1 + 1, 0, none⟩) zA2).trans K4; have k1 : w2.cell? ⟨w.heap.size + 1, 1, none⟩ = some (.slice (some ⟨b, off, none⟩) sn sc) := (bb.cell (p := ⟨w.heap.size + 1, 1, none⟩) zA1).trans K1; have k2 : w2.cell? ⟨b, off + i * 3 + 2, none⟩ = some (.slice U un uc) := (bb.cell (p := ⟨b, off + i * 3 + 2, none⟩) zB).trans c2))
      have J2 := JJ.out.next ((drew_below wr).trans bb)
      have zz : wr.heap.size ≤ w2.heap.size := bb.size
      replace c0 : w2.cell? ⟨b, off + i * 3, none⟩ = some (.int .i64 (p : Int)) := (bb.cell (p := ⟨b, off + i * 3, none⟩) zB).trans c0
      replace c1 : w2.cell? ⟨b, off + i * 3 + 1, none⟩ = some (.int .i64 xr) := (bb.cell (p := ⟨b, off + i * 3 + 1, none⟩) zB).trans c1
      cases hb2 : fitsB ss ys with
      | false =>
       have HB2 := hid hb2
       have j2 := J2.r2
       have jb := J2.b
       clear hb2 bb J2 oU JJ k0 k1 k2 K1 K4 c0 c1 c2 LP
       have y0 : w2.cell? ⟨w.heap.size + 1 + 1 + 1, 0, none⟩ = some (.slice none 0 0) := j2.cell 0
       have y1 : w2.cell? ⟨w.heap.size + 1 + 1 + 1, 1, none⟩ = some (.slice none 0 0) := j2.cell 1
       have g0 := j2.free 0
       have g1 := j2.free 1
       have ra := j2.put 0 (.slice none 0 0)
       have y2 : (w2.setCell ⟨w.heap.size + 1 + 1 + 1, 0, none⟩ (.slice none 0 0)).cell? ⟨w.heap.size + 1 + 1 + 1, 1, none⟩ = some (.slice none 0 0) := ra.cell 1
       have g2 := ra.free 1
       have rb := ra.put 1 (.slice none 0 0)
       have u0 : ((w2.setCell ⟨w.heap.size + 1 + 1 + 1, 0, none⟩ (.slice none 0 0)).setCell ⟨w.heap.size + 1 + 1 + 1, 1, none⟩ (.slice none 0 0)).cell? ⟨w.heap.size + 1 + 1 + 1, 0, none⟩ = some (.slice none 0 0) := rb.cell 0
       have u1 : ((w2.setCell ⟨w.heap.size + 1 + 1 + 1, 0, none⟩ (.slice none 0 0)).setCell ⟨w.heap.size + 1 + 1 + 1, 1, none⟩ (.slice none 0 0)).cell? ⟨w.heap.size + 1 + 1 + 1, 1, none⟩ = some (.slice none 0 0) := rb.cell 1
       have FZ : AnsWalk w (undW d.1 d.2 k ss) (undB d.1 d.2 k ss) (.returned (.tuple #[.agg #[.slice none 0 0, .slice none 0 0], .bool false])) ((w2.setCell ⟨w.heap.size + 1 + 1 + 1, 0, none⟩ (.slice none 0 0)).setCell ⟨w.heap.size + 1 + 1 + 1, 1, none⟩ (.slice none 0 0)) := ansWalk_no (und_no4 hil EX.out HB2.out) (((jb).setCell (show w.heap.size ≤ w.heap.size + 1 + 1 + 1 by omega) _).setCell (show w.heap.size ≤ w.heap.size + 1 + 1 + 1 by omega) _)
       have HFZ := hid FZ
       clear FZ ra rb jb j2
       go_wp2
       exact bodyPost_ret (v := .tuple #[.agg #[.slice none 0 0, .slice none 0 0], .bool false]) (by simp [results, Tryz.results8, go_sem, u0, u1]) rfl HFZ.out
      | true =>
       have HB2 := hid hb2
       have OU := hid (show Own w2.drew wr.heap.size (.slice U2 un2 uc2) (fillL (givesL ss) ys) by
        have := oU
        unfold fitL at this
        rw [if_pos hb2] at this
        exact Own.drew this)
       have OL := hid (show OwnL w2.drew (B + 1) wr.heap.size 71 sStep O on oc (undL (givesL ss) (k.2.take i)) from (JJ.out.o.next ((drew_below wr).trans bb)).next (drew_below w2))
       have c3 : w2.cell? ⟨B, 1, none⟩ = some (.slice O on oc) := J2.r3.cell 1
       have hon : on ≤ 60 := by rw [← OL.out.1]; exact und_len60 (by rw [HSN.out]; exact h60)
       have zB1 : B + 1 ≤ wr.heap.size := zBB
       have RB := hid (show Row w2.drew B 39 #[.slice X xn xc, .slice O on oc] from J2.r3)
       have LPL := hid (LMV.out w2.drew J2.b.drew Y yn yc p (nowT k.1 k.2 i) HY.out hyn hpy HVS.out)
       rw [HMV.out] at LPL
       have J2H := hid J2
       have bB : b < B + 1 := by have := HZ.out; omega
       have y3 : B < w2.drew.heap.size := show B < w2.heap.size by omega
       have y4 : w.heap.size + 1 < w2.drew.heap.size := show w.heap.size + 1 < w2.heap.size by omega
       have y5 : w.heap.size + 1 + 1 < w2.drew.heap.size := show w.heap.size + 1 + 1 < w2.heap.size by omega
       have y6 : b < w2.drew.heap.size := show b < w2.heap.size by omega
       clear hb2 bb J2 oU JJ K1 K4 c2 LP k2
       obtain ⟨mv, hmv⟩ : ∃ mv, mv = mvd (givesL ss) ((p : Int), xr, ys) := ⟨_, rfl⟩
       rw [← hmv] at LPL
       have HMV2 := hid hmv
       clear hmv
       go_upto_region 14 with fail
       refine AnyT.start (S := (fun w' => w'.cell? ⟨B, 1, none⟩ = some (.slice O on oc) ∧ w'.cell? ⟨w.heap.size + 1 + 1, 0, none⟩ = some (.slice T m c) ∧ w'.cell? ⟨w.heap.size + 1, 1, none⟩ = some (.slice (some ⟨b, off, none⟩) sn sc) ∧ w'.cell? ⟨b, off + i * 3, none⟩ = some (.int .i64 (p : Int)) ∧ w'.cell? ⟨b, off + i * 3 + 1, none⟩ = some (.int .i64 xr))) (fun j => j == 22) (by kernel_rfl) ⟨c3, k0, k1, c0, c1⟩ (fun hHeld => ?_)
       refine AnyT.takeA (i := 0) (v := ?_) rfl (by kernel_rfl) (by kernel_rfl) (by kernel_rfl) (fun _ _ _ h => h) (Or.inl ⟨by rfl, ?_⟩) ?_
       rotate_left 1
       ·(intro w0 _; go_simp; try with_reducible rfl)
       try simp only [Act.put, setIfInBounds_toArray, set_cons_zero, set_cons_succ, getElem_toArray, getElem_cons_zero, getElem_cons_succ]
       refine AnyT.take (i := 1) (v := ?_) rfl (by kernel_rfl) (by kernel_rfl) (by kernel_rfl) (by kernel_rfl) (fun _ _ _ h => h) (Or.inl ⟨by rfl, ?_⟩) (by assumption) ?_
       rotate_left 1
       ·(intro w0 hSw; (try dsimp only at hSw); go_simp; try with_reducible rfl)
       try simp only [Act.put, setIfInBounds_toArray, set_cons_zero, set_cons_succ, getElem_toArray, getElem_cons_zero, getElem_cons_succ]
       refine AnyT.take (i := 2) (v := ?_) rfl (by kernel_rfl) (by kernel_rfl) (by kernel_rfl) (by kernel_rfl) (fun _ _ _ h => h) (Or.inl ⟨by rfl, ?_⟩) (by assumption) ?_
       rotate_left 1
       ·(intro w0 hSw; (try dsimp only at hSw); go_simp; try with_reducible rfl)
       try simp only [Act.put, setIfInBounds_toArray, set_cons_zero, set_cons_succ, getElem_toArray, getElem_cons_zero, getElem_cons_succ]
       refine AnyT.takeA (i := 3) (v := ?_) rfl (by kernel_rfl) (by kernel_rfl) (by kernel_rfl) (fun _ _ _ h => h) (Or.inl ⟨by rfl, ?_⟩) ?_
       rotate_left 1
       ·(intro w0 _; go_simp; try with_reducible rfl)
       try simp only [Act.put, setIfInBounds_toArray, set_cons_zero, set_cons_succ, getElem_toArray, getElem_cons_zero, getElem_cons_succ]
       refine AnyT.takeA (i := 4) (v := ?_) rfl (by kernel_rfl) (by kernel_rfl) (by kernel_rfl) (fun _ _ _ h => h) (Or.inl ⟨by rfl, ?_⟩) ?_
       rotate_left 1
       ·(intro w0 _; go_simp; try with_reducible rfl)
       try simp only [Act.put, setIfInBounds_toArray, set_cons_zero, set_cons_succ, getElem_toArray, getElem_cons_zero, getElem_cons_succ]
       refine AnyT.take (i := 5) (v := ?_) rfl (by kernel_rfl) (by kernel_rfl) (by kernel_rfl) (by kernel_rfl) (fun _ _ _ h => h) (Or.inl ⟨by rfl, ?_⟩) (by assumption) ?_
       rotate_left 1
       ·(intro w0 hSw; (try dsimp only at hSw); go_simp; try with_reducible rfl)
       try simp only [Act.put, setIfInBounds_toArray, set_cons_zero, set_cons_succ, getElem_toArray, getElem_cons_zero, getElem_cons_succ]
       refine AnyT.takeA (i := 6) (v := ?_) rfl (by kernel_rfl) (by kernel_rfl) (by kernel_rfl) (fun _ _ _ h => h) (Or.inl ⟨by rfl, ?_⟩) ?_
       rotate_left 1
       ·(intro w0 _; go_simp; try with_reducible rfl)
       try simp only [Act.put, setIfInBounds_toArray, set_cons_zero, set_cons_succ, getElem_toArray, getElem_cons_zero, getElem_cons_succ]
       refine AnyT.takeA (i := 7) (v := ?_) rfl (by kernel_rfl) (by kernel_rfl) (by kernel_rfl) (fun _ _ _ h => h) (Or.inl ⟨by rfl, ?_⟩) ?_
       rotate_left 1
       ·(intro w0 _; go_simp; try with_reducible rfl)
       try simp only [Act.put, setIfInBounds_toArray, set_cons_zero, set_cons_succ, getElem_toArray, getElem_cons_zero, getElem_cons_succ]
       refine AnyT.takeA (i := 8) (v := ?_) rfl (by kernel_rfl) (by kernel_rfl) (by kernel_rfl) (fun _ _ _ h => h) (Or.inl ⟨by rfl, ?_⟩) ?_
       rotate_left 1
       ·(intro w0 _; go_simp; try with_reducible rfl)
       try simp only [Act.put, setIfInBounds_toArray, set_cons_zero, set_cons_succ, getElem_toArray, getElem_cons_zero, getElem_cons_succ]
       refine AnyT.take (i := 9) (v := ?_) rfl (by kernel_rfl) (by kernel_rfl) (by kernel_rfl) (by kernel_rfl) (fun _ _ _ h => h) (Or.inl ⟨by rfl, ?_⟩) (by assumption) ?_
       rotate_left 1
       ·(intro w0 hSw; (try dsimp only at hSw); go_simp; try with_reducible rfl)
       try simp only [Act.put, setIfInBounds_toArray, set_cons_zero, set_cons_succ, getElem_toArray, getElem_cons_zero, getElem_cons_succ]
       refine AnyT.takeA (i := 11) (v := ?_) rfl (by kernel_rfl) (by kernel_rfl) (by kernel_rfl) (fun _ _ _ h => h) (Or.inl ⟨by rfl, ?_⟩) ?_
       rotate_left 1
       ·(intro w0 _; go_simp; try with_reducible rfl)
       try simp only [Act.put, setIfInBounds_toArray, set_cons_zero, set_cons_succ, getElem_toArray, getElem_cons_zero, getElem_cons_succ]
       refine AnyT.take (i := 12) (v := ?_) rfl (by kernel_rfl) (by kernel_rfl) (by kernel_rfl) (by kernel_rfl) (fun _ _ _ h => h) (Or.inl ⟨by rfl, ?_⟩) (by assumption) ?_
       rotate_left 1
       ·(intro w0 hSw; (try dsimp only at hSw); go_simp; try with_reducible rfl)
       try simp only [Act.put, setIfInBounds_toArray, set_cons_zero, set_cons_succ, getElem_toArray, getElem_cons_zero, getElem_cons_succ]
       refine AnyT.takeA (i := 13) (v := ?_) rfl (by kernel_rfl) (by kernel_rfl) (by kernel_rfl) (fun _ _ _ h => h) (Or.inl ⟨by rfl, ?_⟩) ?_
       rotate_left 1
       ·(intro w0 _; go_simp; try with_reducible rfl)
       try simp only [Act.put, setIfInBounds_toArray, set_cons_zero, set_cons_succ, getElem_toArray, getElem_cons_zero, getElem_cons_succ]
       refine AnyT.takeA (i := 14) (v := ?_) rfl (by kernel_rfl) (by kernel_rfl) (by kernel_rfl) (fun _ _ _ h => h) (Or.inl ⟨by rfl, ?_⟩) ?_
       rotate_left 1
       ·(intro w0 _; go_simp; try with_reducible rfl)
       try simp only [Act.put, setIfInBounds_toArray, set_cons_zero, set_cons_succ, getElem_toArray, getElem_cons_zero, getElem_cons_succ]
       refine AnyT.takeA (i := 15) (v := ?_) rfl (by kernel_rfl) (by kernel_rfl) (by kernel_rfl) (fun _ _ _ h => h) (Or.inl ⟨by rfl, ?_⟩) ?_
       rotate_left 1
       ·(intro w0 _; go_simp; try with_reducible rfl)
       try simp only [Act.put, setIfInBounds_toArray, set_cons_zero, set_cons_succ, getElem_toArray, getElem_cons_zero, getElem_cons_succ]
       refine AnyT.take (i := 16) (v := ?_) rfl (by kernel_rfl) (by kernel_rfl) (by kernel_rfl) (by kernel_rfl) (fun _ _ _ h => h) (Or.inl ⟨by rfl, ?_⟩) (by assumption) ?_
       rotate_left 1
       ·(intro w0 hSw; (try dsimp only at hSw); go_simp; try with_reducible rfl)
       try simp only [Act.put, setIfInBounds_toArray, set_cons_zero, set_cons_succ, getElem_toArray, getElem_cons_zero, getElem_cons_succ]
       refine AnyT.takeA (i := 17) (v := ?_) rfl (by kernel_rfl) (by kernel_rfl) (by kernel_rfl) (fun _ _ _ h => h) (Or.inl ⟨by rfl, ?_⟩) ?_
       rotate_left 1
       ·(intro w0 _; go_simp; try with_reducible rfl)
       try simp only [Act.put, setIfInBounds_toArray, set_cons_zero, set_cons_succ, getElem_toArray, getElem_cons_zero, getElem_cons_succ]
       refine AnyT.call (i := 10) (by kernel_rfl) rfl (fun K hK => ?_)
       try simp only [Act.put, setIfInBounds_toArray, set_cons_zero, set_cons_succ, getElem_toArray, getElem_cons_zero, getElem_cons_succ]
       rw [if_pos (by rfl)]
       go_simp
       (go_at_call 33; refine LPL.out.mono ?_; rintro e w5 ⟨rfl, bb5⟩; have d0 : w5.cell? ⟨B, 1, none⟩ = some (.slice O on oc) := (bb5.cell (p := ⟨B, 1, none⟩) y3).trans c3; have d1 : w5.cell? ⟨w.heap.size + 1 + 1, 0, none⟩ = some (.slice T m c) := (bb5.cell (p := ⟨w.heap.size + 1 + 1, 0, none⟩) y5).trans k0; have d2 : w5.cell? ⟨w.heap.size + 1, 1, none⟩ = some (.slice (some ⟨b, off, none⟩) sn sc) := (bb5.cell (p := ⟨w.heap.size + 1, 1, none⟩) y4).trans k1; have d3 : w5.cell? ⟨b, off + i * 3, none⟩ = some (.int .i64 (p : Int)) := (bb5.cell (p := ⟨b, off + i * 3, none⟩) y6).trans c0; have d4 : w5.cell? ⟨b, off + i * 3 + 1, none⟩ = some (.int .i64 xr) := (bb5.cell (p := ⟨b, off + i * 3 + 1, none⟩) y6).trans c1; have z5 : w2.heap.size ≤ w5.heap.size := bb5.size; go_wp2_with fail)
       refine hK.out _ _ (fun _ _ => ?_) (fun hKeep => ?_)
       ·exact ⟨d0, d1, d2, d3, d4⟩
       replace hHeld := hKeep (by first | rfl | trivial) hHeld
       clear hK K hKeep
       try simp only [Act.put, setIfInBounds_toArray, set_cons_zero, set_cons_succ, getElem_toArray, getElem_cons_zero, getElem_cons_succ]
       refine AnyT.takeA (i := 18) (v := ?_) rfl (by kernel_rfl) (by kernel_rfl) (by kernel_rfl) (fun _ _ _ h => h) (Or.inl ⟨by rfl, ?_⟩) ?_
       rotate_left 1
       ·(intro w0 _; go_simp; try with_reducible rfl)
       try simp only [Act.put, setIfInBounds_toArray, set_cons_zero, set_cons_succ, getElem_toArray, getElem_cons_zero, getElem_cons_succ]
       refine AnyT.call (i := 19) (by kernel_rfl) rfl (fun K hK => ?_)
       try simp only [Act.put, setIfInBounds_toArray, set_cons_zero, set_cons_succ, getElem_toArray, getElem_cons_zero, getElem_cons_succ]
       rw [if_pos (by rfl)]
       go_simp
       refine hK.out _ _ (fun _ _ => ?_) (fun hKeep => ?_)
       ·exact ⟨keep_alloc d0, keep_alloc d1, keep_alloc d2, keep_alloc d3, keep_alloc d4⟩
       replace hHeld := hKeep (by first | rfl | trivial) hHeld
       clear hK K hKeep
       try simp only [Act.put, setIfInBounds_toArray, set_cons_zero, set_cons_succ, getElem_toArray, getElem_cons_zero, getElem_cons_succ]
       refine AnyT.call (i := 20) (by kernel_rfl) rfl (fun K hK => ?_)
       try simp only [Act.put, setIfInBounds_toArray, set_cons_zero, set_cons_succ, getElem_toArray, getElem_cons_zero, getElem_cons_succ]
       rw [if_pos (by rfl)]
       have b3 : Below w5.heap.size w5 (w5.alloc (.cells #[.int .i64 mv, .int .i64 xr, .slice U2 un2 uc2] 71)) := (Below.refl _ _).alloc (Nat.le_refl _) _
       have HAPP := hid (show OwnL (w5.alloc (.cells #[.int .i64 mv, .int .i64 xr, .slice U2 un2 uc2] 71)) (B + 1) wr.heap.size 71 sStep O on oc (undL (givesL ss) (k.2.take i)) ∧ OwnL (w5.alloc (.cells #[.int .i64 mv, .int .i64 xr, .slice U2 un2 uc2] 71)) wr.heap.size (w5.heap.size + 1) 71 sStep (some ⟨w5.heap.size, 0, none⟩) 1 1 [(mv, xr, fillL (givesL ss) ys)] from ⟨(OL.out.next bb5).next b3, OwnL.single (e := 71) (s := sStep) (Row.new w5 71 #[.int .i64 mv, .int .i64 xr, .slice U2 un2 uc2]) ((((owned_step OU.out mv xr).next bb5).next b3).wider (by omega) (Nat.le_refl _)) (by simpa using z5) (by omega)⟩)
       refine wp_appL _ _ 37 71 sStep _ _ Tryz.underlying37 info_StepS rfl (by decide) rfl (B + 1) wr.heap.size wr.heap.size (w5.heap.size + 1) O on oc w5.heap.size 1 1 _ _ rfl HAPP.out.1 rfl HAPP.out.2 (Nat.le_refl _) zB1 (by omega) (by omega) (by simp; omega) ?_
       intro A4 oc' w4 oL4 hg4 hat4 b4 hf4
       obtain ⟨O', rfl⟩ := hf4 (.inr (by omega))
       refine hK.out _ _ (fun _ _ => ?_) (fun hKeep => ?_)
       ·exact ⟨(b4.cell (p := ⟨B, 1, none⟩) (show B < B + 1 by omega)).trans (keep_alloc d0), (b4.cell (p := ⟨w.heap.size + 1 + 1, 0, none⟩) (show w.heap.size + 1 + 1 < B + 1 by have := HZ.out; omega)).trans (keep_alloc d1), (b4.cell (p := ⟨w.heap.size + 1, 1, none⟩) (show w.heap.size + 1 < B + 1 by have := HZ.out; omega)).trans (keep_alloc d2), (b4.cell (p := ⟨b, off + i * 3, none⟩) (show b < B + 1 from bB)).trans (keep_alloc d3), (b4.cell (p := ⟨b, off + i * 3 + 1, none⟩) (show b < B + 1 from bB)).trans (keep_alloc d4)⟩
       replace hHeld := hKeep (by first | rfl | trivial) hHeld
       clear hK K hKeep
       try simp only [Act.put, setIfInBounds_toArray, set_cons_zero, set_cons_succ, getElem_toArray, getElem_cons_zero, getElem_cons_succ]
       refine AnyT.takeA (i := 21) (v := ?_) rfl (by kernel_rfl) (by kernel_rfl) (by kernel_rfl) (fun _ _ _ h => h) (Or.inl ⟨by rfl, ?_⟩) ?_
       rotate_left 1
       ·(intro w0 _; go_simp; try with_reducible rfl)
       try simp only [Act.put, setIfInBounds_toArray, set_cons_zero, set_cons_succ, getElem_toArray, getElem_cons_zero, getElem_cons_succ]
       have rB4 := ((RB.out.next bb5).next b3).below b4 (show B < B + 1 by omega)
       have y1 : w4.cell? ⟨B, 1, none⟩ = some (.slice O on oc) := rB4.cell 1
       have g1 := rB4.free 1
       refine AnyT.call (i := 22) (by kernel_rfl) rfl (fun K hK => ?_)
       try simp only [Act.put, setIfInBounds_toArray, set_cons_zero, set_cons_succ, getElem_toArray, getElem_cons_zero, getElem_cons_succ]
       rw [if_pos (by rfl)]
       go_simp
       refine hK.out _ _ (fun h => by cases h) (fun _ => ?_)
       clear hK K
       try simp only [Act.put, setIfInBounds_toArray, set_cons_zero, set_cons_succ, getElem_toArray, getElem_cons_zero, getElem_cons_succ]
       refine AnyT.done (by kernel_rfl) ?_ _
       have hJ := J2H.out.next (next_trans ((drew_below w2).trans bb5) b3)
       have F := hid (show Wu w (.slice A n cs) (.slice V q cv) (.slice F fn fc) (.slice (some ⟨b, off, none⟩) sn sc) (.slice T m c) B X (some ⟨O', 0, none⟩) xn xc (on + 1) oc' (fillL (givesL ss) k.1) (undL (givesL ss) (k.2.take (i + 1))) (w4.setCell ⟨B, 1, none⟩ (.slice (some ⟨O', 0, none⟩) (on + 1) oc')) from by
        have z := HZ.out
        have h9 : w5.heap.size + 1 ≤ w4.heap.size := by have := b4.size; simpa using this
        refine ⟨(hJ.r0.below b4 (by omega)).far (show w.heap.size ≠ B by omega) _, (hJ.r1.below b4 (by omega)).far (show w.heap.size + 1 ≠ B by omega) _, (hJ.rs.below b4 (by omega)).far (show w.heap.size + 1 + 1 ≠ B by omega) _, (hJ.r2.below b4 (by omega)).far (show w.heap.size + 1 + 1 + 1 ≠ B by omega) _, rB4.put 1 _, ?_, ?_, ?_, z⟩
        ·exact (hJ.x.btw (lo' := B + 1) (hi' := w4.heap.size) (Btw.of_grown hg4 (fun q hq => by have h8 := OL.out.ge q hq; have h7 : q < w2.heap.size := h8.2; omega)) (.inl (by omega))).btw (lo' := B) (hi' := B + 1) ⟨rfl, rfl, rfl, by simp, fun k hk ho => Below.heap_setCell w4 _ _ k (by show k ≠ B; omega)⟩ (.inl (Nat.le_refl _))
        ·rw [← und_take hil EX.out, ← HMV2.out]
         have o5 : OwnL (w4.setCell ⟨B, 1, none⟩ (.slice (some ⟨O', 0, none⟩) (on + 1) oc')) (B + 1) w4.heap.size 71 sStep (some ⟨O', 0, none⟩) (on + 1) oc' (undL (givesL ss) (k.2.take i) ++ [(mv, xr, fillL (givesL ss) ys)]) := oL4.btw (lo' := B) (hi' := B + 1) ⟨rfl, rfl, rfl, by simp, fun k hk ho => Below.heap_setCell w4 _ _ k (by show k ≠ B; omega)⟩ (.inr (Nat.le_refl _))
         exact o5.wider (Nat.le_refl _) (by simp)
        ·exact (hJ.b.trans (b4.mono (by omega))).setCell (show w.heap.size ≤ B by omega) _)
       have HL2 := hid (show ∀ j, j < i + 1 → fitsB ss (k.2.getD j (0, 0, [])).2.2 = true from fun j hj => by
        by_cases e : j = i
        ·subst e; rw [EX.out]; exact HB2.out
        ·exact HLOW.out j (by omega))
       have HNW := hid (show Seg w w.heap.size U un (nowT k.1 k.2 (i + 1)) from by
        show Seg w w.heap.size U un (k.2.getD i (0, 0, [])).2.2
        rw [EX.out]
        exact HC.out.2)
       clear hJ rB4 oL4 hg4 hat4 b4 hf4 HAPP b3 OL OU RB J2H c0 c1 c3 k0 k1
       have kk1 : (w4.setCell ⟨B, 1, none⟩ (.slice (some ⟨O', 0, none⟩) (on + 1) oc')).cell? ⟨w.heap.size + 1, 1, none⟩ = some (.slice (some ⟨b, off, none⟩) sn sc) := F.out.r1.cell 1
       have kk2 : (w4.setCell ⟨B, 1, none⟩ (.slice (some ⟨O', 0, none⟩) (on + 1) oc')).cell? ⟨b, off + i * 3 + 2, none⟩ = some (.slice U un uc) := (F.out.b.cell (p := ⟨b, off + i * 3 + 2, none⟩) hb).trans HC.out.1
       go_wp2
       go_roundg (gk - 1)
       case measure => have := HG.out; omega
       case rel => exact ⟨i + 1, on + 1, oc', un, uc, some ⟨O', 0, none⟩, U, by simp, rfl, HNW.out, by have := HG.out; omega, HL2.out, F.out⟩
     ·have e1 : i = sn := by have := HG.out; omega
      subst e1
      have HI := hid (und_yes HO.out HK.out HB1.out (fun j hj => HLOW.out j (by rw [← HSN.out]; exact hj)))
      have HZ := J.z
      have ow : Owned wr (w.heap.size + 1 + 1 + 1 + 1) wr.heap.size sWalk [.slice X xn xc, .slice O on oc] (fillL (givesL ss) k.1, undL (givesL ss) k.2) := by
       have o2 := J.o
       rw [List.take_of_length_le (by rw [HSN.out]; exact Nat.le_refl _)] at o2
       exact owned_walk (J.x.wider (Nat.le_refl _) (Nat.le_succ _)) o2 (by omega) J.r3.lt
      have jb := J.b
      have j2 := J.r2
      have K2 : wr.cell? ⟨B, 0, none⟩ = some (.slice X xn xc) := J.r3.cell 0
      have K3 : wr.cell? ⟨B, 1, none⟩ = some (.slice O on oc) := J.r3.cell 1
      clear J K4 HLOW
      have y0 : wr.cell? ⟨w.heap.size + 1 + 1 + 1, 0, none⟩ = some (.slice none 0 0) := j2.cell 0
      have y1 : wr.cell? ⟨w.heap.size + 1 + 1 + 1, 1, none⟩ = some (.slice none 0 0) := j2.cell 1
      have g0 := j2.free 0
      have g1 := j2.free 1
      have ra := j2.put 0 (.slice X xn xc)
      have y2 : (wr.setCell ⟨w.heap.size + 1 + 1 + 1, 0, none⟩ (.slice X xn xc)).cell? ⟨w.heap.size + 1 + 1 + 1, 1, none⟩ = some (.slice none 0 0) := ra.cell 1
      have g2 := ra.free 1
      have rb := ra.put 1 (.slice O on oc)
      have u0 : ((wr.setCell ⟨w.heap.size + 1 + 1 + 1, 0, none⟩ (.slice X xn xc)).setCell ⟨w.heap.size + 1 + 1 + 1, 1, none⟩ (.slice O on oc)).cell? ⟨w.heap.size + 1 + 1 + 1, 0, none⟩ = some (.slice X xn xc) := rb.cell 0
      have u1 : ((wr.setCell ⟨w.heap.size + 1 + 1 + 1, 0, none⟩ (.slice X xn xc)).setCell ⟨w.heap.size + 1 + 1 + 1, 1, none⟩ (.slice O on oc)).cell? ⟨w.heap.size + 1 + 1 + 1, 1, none⟩ = some (.slice O on oc) := rb.cell 1
      have FZ : AnsWalk w (undW d.1 d.2 k ss) (undB d.1 d.2 k ss) (.returned (.tuple #[.agg #[.slice X xn xc, .slice O on oc], .bool true])) ((wr.setCell ⟨w.heap.size + 1 + 1 + 1, 0, none⟩ (.slice X xn xc)).setCell ⟨w.heap.size + 1 + 1 + 1, 1, none⟩ (.slice O on oc)) := ⟨_, _, _, _, _, _, by rw [HI.out.2], by rw [HI.out.1]; exact ((ow.put (g := w.heap.size + 1 + 1 + 1) (i := 0) (by omega)).put (g := w.heap.size + 1 + 1 + 1) (i := 1) (by omega)).wider (by omega) (by simp), (jb.setCell (show w.heap.size ≤ w.heap.size + 1 + 1 + 1 by omega) _).setCell (show w.heap.size ≤ w.heap.size + 1 + 1 + 1 by omega) _⟩
      have HFZ := hid FZ
      clear FZ ra rb ow jb j2
      go_wp2
      exact bodyPost_ret (v := .tuple #[.agg #[.slice X xn xc, .slice O on oc], .bool true]) (by simp [results, Tryz.results8, go_sem, u0, u1]) rfl HFZ.out
end und
end
section
open Go.Lib (hid)
open List (setIfInBounds_toArray set_cons_zero set_cons_succ getElem_toArray getElem_cons_zero getElem_cons_succ)
namespace und
open Go.RowKit base ints sig term termOk endAt endOf marks app sym sub segs segsHelp kinds termFacts same shifted substOk fillMath Go.Proofs.YtblhmplpcdcejaaGreat.look gives filled shape kindsR kindsW kindsT varsOf ruleMath ruleSpec stepMath walkMath stepSpec walkSpec walkImpl ownL heldT
set_option maxRecDepth 100000
theorem unFill (B0 B2 : Nat) (A S : Option Addr) (n cs m c : Nat) (V : Value) (sg : List Int) (ss : List (List Int)) (w : World) (r0 : Row w B0 45 #[.slice A n cs, V]) (r2 : Row w B2 48 #[.slice S m c])
  (hA : Seg w w.heap.size A n sg) (hS : Segs w w.heap.size S m ss) (hn : n ≤ 1048576) (ht : tot ss ≤ 1048576) :
  Changes 39 #[.pointer (some ⟨B0, 0, none⟩), .pointer (some ⟨B2, 0, none⟩)] w (fun y => y.length ≤ 60) (fun y => fillL (givesL ss) y) (fun y => filledB sg ss y) := by
 intro W U un uc y hb hy h60
 have h60 : y.length ≤ 60 := h60
 obtain ⟨U', un', uc', e, hU, hcU⟩ := rd_ints.1 hy
 injection e with e1 e2 e3
 subst e1 e2 e3
 have K0 : W.cell? ⟨B0, 0, none⟩ = some (.slice A n cs) := (r0.next hb).cell 0
 have K2 : W.cell? ⟨B2, 0, none⟩ = some (.slice S m c) := (r2.next hb).cell 0
 have L := hid (filled.implFilled A S U n cs m c un uc sg ss y W (hA.next hb) (hS.next hb) hU hn ht (by have := hU.1; omega))
 clear r0 r2 hA hS hy hU hcU hb
 refine Calls.mono (R := AnsPairO W (filledL sg ss y) (filledB sg ss y)) ?_ (fun _ _ h => h)
 go_enter Tryz.func39, Tryz.ntmps39
 go_wp2_with fail
 refine L.out.mono ?_
 rintro e w1 ⟨X, xn, xc, rfl, oX, bb⟩
 have F := hid (show AnsPairO W (filledL sg ss y) (filledB sg ss y) (.returned (.tuple #[.slice X xn xc, .bool (filledB sg ss y)])) w1 from ⟨X, xn, xc, rfl, oX, bb⟩)
 clear oX bb K0 K2
 go_wp2
 go_ret2
 exact F.out
def Plc (sg : List Int) (ss : List (List Int)) (s : St) : Prop := substOkB sg ss = true ∧ (0 ≤ s.1 ∧ s.1.toNat ≤ s.2.2.length) ∧ (1 ≤ s.2.2.length ∧ s.2.2.length ≤ 60) ∧ ∀ x ∈ s.2.2, -24 ≤ x
set_option maxHeartbeats 2000000 in
theorem unPlace (B2 : Nat) (S : Option Addr) (m c : Nat) (sg : List Int) (ss : List (List Int)) (w : World) (r2 : Row w B2 48 #[.slice S m c]) (hS : Segs w w.heap.size S m ss) (hm : m ≤ 1048576) :
  Places 41 #[.pointer (some ⟨B2, 0, none⟩)] w (Plc sg ss) (mvd (givesL ss)) := by
 intro W xa xr U un uc ys hb hy hT
 obtain ⟨hok, hx, hl, hv⟩ := hT
 have hx : 0 ≤ xa ∧ xa.toNat ≤ ys.length := hx
 have hl : 1 ≤ ys.length ∧ ys.length ≤ 60 := hl
 have hv : ∀ x ∈ ys, -24 ≤ x := hv
 obtain ⟨p, hp⟩ := Int.eq_ofNat_of_zero_le hx.1
 subst hp
 obtain ⟨U', un', uc', e, hU, hcU⟩ := rd_ints.1 hy
 injection e with e1 e2 e3
 subst e1 e2 e3
 obtain ⟨b, off, x, rfl, -, -, -⟩ := hU.spot (k := 0) (by have := hU.1; omega)
 have hpn : p ≤ un := by have := hU.1; omega
 have i0 : (0 : Int) ≤ (p : Int) := by omega
 have i1 : (p : Int) ≤ (uc : Int) := by have := hcU.1; omega
 obtain ⟨W1, hW1, rX, b1⟩ := box1 W 71 #[.int .i64 (p : Int), .int .i64 xr, .slice (some ⟨b, off, none⟩) un uc]
 have rS := (r2.next hb).next b1
 have c0 : W1.cell? ⟨B2, 0, none⟩ = some (.slice S m c) := rS.cell 0
 have c1 : W1.cell? ⟨W.heap.size, 2, none⟩ = some (.slice (some ⟨b, off, none⟩) un uc) := rX.cell 2
 have c2 : W1.cell? ⟨W.heap.size, 0, none⟩ = some (.int .i64 (p : Int)) := rX.cell 0
 have LI := hid (lookupIn S m c W1.drew)
 have b2 : Below W1.drew.heap.size W1.drew (W1.drew.alloc (.cells #[.slice S m c] 48)) := (Below.refl _ _).alloc (Nat.le_refl _) _
 have b13 := next_trans (next_trans b1 (drew_below W1)) b2
 have LF := hid (look.fill 78 #[.pointer (some ⟨W1.drew.heap.size, 0, none⟩)] (enters_of Tryz.func78 (by kernel_rfl) rfl) (some ⟨b, off, none⟩) p uc (ys.take p) (givesL ss) (W1.drew.alloc (.cells #[.slice S m c] 48))
  (lookSubst W1.drew.heap.size S m c ss _ (Row.new _ _ _) (hS.next (next_trans hb b13)) hm) (put.Seg.front (hU.next b13) hpn) (by have := hU.1; omega) (fun z hz => hv z (List.mem_of_mem_take hz)) (fun i => Nat.le_trans (gives_len hok i) (by omega)))
 have HW1 := hid hW1
 have B13 := hid b13
 have z0 : B2 < W1.heap.size := rS.lt
 have z1 : W.heap.size < W1.heap.size := rX.lt
 clear r2 hS hb hy hx hl hv hok hU hcU hW1 rX rS b1 b2 b13
 go_enter Tryz.func41, Tryz.ntmps41
 go_upto_region 1 with fail
 rw [← HW1.out]
 refine AnyT.start (S := (fun w' => w'.cell? ⟨B2, 0, none⟩ = some (.slice S m c) ∧ w'.cell? ⟨W.heap.size, 2, none⟩ = some (.slice (some ⟨b, off, none⟩) un uc) ∧ w'.cell? ⟨W.heap.size, 0, none⟩ = some (.int .i64 (p : Int)))) (fun _ => false) (by kernel_rfl) ⟨c0, c1, c2⟩ (fun hHeld => ?_)
 refine AnyT.take (i := 0) (v := ?_) rfl (by kernel_rfl) (by kernel_rfl) (by kernel_rfl) (by kernel_rfl) (fun _ _ _ h => h) (Or.inl ⟨by rfl, ?_⟩) (by assumption) ?_
 rotate_left 1
 ·(intro w0 hSw; (try dsimp only at hSw); go_simp; try with_reducible rfl)
 try simp only [Act.put, setIfInBounds_toArray, set_cons_zero, set_cons_succ, getElem_toArray, getElem_cons_zero, getElem_cons_succ]
 refine AnyT.takeA (i := 2) (v := ?_) rfl (by kernel_rfl) (by kernel_rfl) (by kernel_rfl) (fun _ _ _ h => h) (Or.inl ⟨by rfl, ?_⟩) ?_
 rotate_left 1
 ·(intro w0 _; go_simp; try with_reducible rfl)
 try simp only [Act.put, setIfInBounds_toArray, set_cons_zero, set_cons_succ, getElem_toArray, getElem_cons_zero, getElem_cons_succ]
 refine AnyT.take (i := 3) (v := ?_) rfl (by kernel_rfl) (by kernel_rfl) (by kernel_rfl) (by kernel_rfl) (fun _ _ _ h => h) (Or.inl ⟨by rfl, ?_⟩) (by assumption) ?_
 rotate_left 1
 ·(intro w0 hSw; (try dsimp only at hSw); go_simp; try with_reducible rfl)
 try simp only [Act.put, setIfInBounds_toArray, set_cons_zero, set_cons_succ, getElem_toArray, getElem_cons_zero, getElem_cons_succ]
 refine AnyT.takeA (i := 4) (v := ?_) rfl (by kernel_rfl) (by kernel_rfl) (by kernel_rfl) (fun _ _ _ h => h) (Or.inl ⟨by rfl, ?_⟩) ?_
 rotate_left 1
 ·(intro w0 _; go_simp; try with_reducible rfl)
 try simp only [Act.put, setIfInBounds_toArray, set_cons_zero, set_cons_succ, getElem_toArray, getElem_cons_zero, getElem_cons_succ]
 refine AnyT.take (i := 5) (v := ?_) rfl (by kernel_rfl) (by kernel_rfl) (by kernel_rfl) (by kernel_rfl) (fun _ _ _ h => h) (Or.inl ⟨by rfl, ?_⟩) (by assumption) ?_
 rotate_left 1
 ·(intro w0 hSw; (try dsimp only at hSw); go_simp; try with_reducible rfl)
 try simp only [Act.put, setIfInBounds_toArray, set_cons_zero, set_cons_succ, getElem_toArray, getElem_cons_zero, getElem_cons_succ]
 refine AnyT.takeA (i := 6) (v := ?_) rfl (by kernel_rfl) (by kernel_rfl) (by kernel_rfl) (fun _ _ _ h => h) (Or.inl ⟨by rfl, ?_⟩) ?_
 rotate_left 1
 ·(intro w0 _; go_simp; try with_reducible rfl)
 try simp only [Act.put, setIfInBounds_toArray, set_cons_zero, set_cons_succ, getElem_toArray, getElem_cons_zero, getElem_cons_succ]
 refine AnyT.call (i := 1) (by kernel_rfl) rfl (fun K hK => ?_)
 try simp only [Act.put, setIfInBounds_toArray, set_cons_zero, set_cons_succ, getElem_toArray, getElem_cons_zero, getElem_cons_succ]
 rw [if_pos (by rfl)]
 go_simp
 (go_at_call 42; refine LI.out.mono ?_; rintro e w2 ⟨rfl, hw2⟩; subst hw2; have d0 := keep_alloc (o := .cells #[.slice S m c] 48) c0; have d1 := keep_alloc (o := .cells #[.slice S m c] 48) c1; have d2 := keep_alloc (o := .cells #[.slice S m c] 48) c2; go_wp2_with fail)
 refine hK.out _ _ (fun _ _ => ?_) (fun hKeep => ?_)
 ·exact ⟨d0, d1, d2⟩
 replace hHeld := hKeep (by first | rfl | trivial) hHeld
 clear hK K hKeep
 try simp only [Act.put, setIfInBounds_toArray, set_cons_zero, set_cons_succ, getElem_toArray, getElem_cons_zero, getElem_cons_succ]
 refine AnyT.call (i := 7) (by kernel_rfl) rfl (fun K hK => ?_)
 try simp only [Act.put, setIfInBounds_toArray, set_cons_zero, set_cons_succ, getElem_toArray, getElem_cons_zero, getElem_cons_succ]
 rw [if_pos (by rfl)]
 go_simp
 (go_at_call 43; refine LF.out.mono ?_; rintro e w3 ⟨Q, qn, qc, rfl, oQ, bb⟩; have f0 : w3.cell? ⟨B2, 0, none⟩ = some (.slice S m c) := (bb.cell (p := ⟨B2, 0, none⟩) (show B2 < (W1.drew.alloc (.cells #[.slice S m c] 48)).heap.size by simp; exact Nat.lt_succ_of_lt z0)).trans d0; have f1 : w3.cell? ⟨W.heap.size, 2, none⟩ = some (.slice (some ⟨b, off, none⟩) un uc) := (bb.cell (p := ⟨W.heap.size, 2, none⟩) (show W.heap.size < (W1.drew.alloc (.cells #[.slice S m c] 48)).heap.size by simp; exact Nat.lt_succ_of_lt z1)).trans d1; have f2 : w3.cell? ⟨W.heap.size, 0, none⟩ = some (.int .i64 (p : Int)) := (bb.cell (p := ⟨W.heap.size, 0, none⟩) (show W.heap.size < (W1.drew.alloc (.cells #[.slice S m c] 48)).heap.size by simp; exact Nat.lt_succ_of_lt z1)).trans d2; go_wp2_with fail)
 refine hK.out _ _ (fun _ _ => ?_) (fun hKeep => ?_)
 ·exact ⟨f0, f1, f2⟩
 replace hHeld := hKeep (by first | rfl | trivial) hHeld
 clear hK K hKeep
 try simp only [Act.put, setIfInBounds_toArray, set_cons_zero, set_cons_succ, getElem_toArray, getElem_cons_zero, getElem_cons_succ]
 refine AnyT.takeA (i := 8) (v := ?_) rfl (by kernel_rfl) (by kernel_rfl) (by kernel_rfl) (fun _ _ _ h => h) (Or.inl ⟨by rfl, ?_⟩) ?_
 rotate_left 1
 ·(intro w0 _; go_simp; try with_reducible rfl)
 try simp only [Act.put, setIfInBounds_toArray, set_cons_zero, set_cons_succ, getElem_toArray, getElem_cons_zero, getElem_cons_succ]
 refine AnyT.takeA (i := 9) (v := ?_) rfl (by kernel_rfl) (by kernel_rfl) (by kernel_rfl) (fun _ _ _ h => h) (Or.inl ⟨by rfl, ?_⟩) ?_
 rotate_left 1
 ·(intro w0 _; go_simp; try with_reducible rfl)
 try simp only [Act.put, setIfInBounds_toArray, set_cons_zero, set_cons_succ, getElem_toArray, getElem_cons_zero, getElem_cons_succ]
 refine AnyT.done (by kernel_rfl) ?_ _
 have F := hid (show (Ending.returned (.int .i64 (qn : Int)) = .returned (.int .i64 (mvd (givesL ss) ((p : Int), xr, ys)))) ∧ Below W.heap.size W w3 from ⟨by
  have e : qn = (fillL (givesL ss) (ys.take p)).length := Own.len oQ
  rw [e]
  rfl, next_trans B13.out bb⟩)
 clear oQ bb c0 c1 c2
 go_wp2
 go_ret
 exact F.out
theorem all_mem2 {p q : St → Bool} : ∀ {L : List St}, (∀ s ∈ L, p s = q s) → L.all p = L.all q
 | [], _ => rfl
 | x :: L, h => by rw [List.all_cons, List.all_cons, h x (List.mem_cons_self ..), all_mem2 fun s hs => h s (List.mem_cons_of_mem _ hs)]
theorem car_under {sg : List Int} {rs : List Rl} {k : Wk} {ss : List (List Int)} (h : walkB sg rs k = true) :
  carW (fun y => fillL (givesL ss) y) (fun y => filledB sg ss y) (mvd (givesL ss)) k = undW sg rs k ss ∧ carB (fun y => filledB sg ss y) k = undB sg rs k ss := by
 obtain ⟨q1, q2, q3, q4⟩ := walk_parts h
 have hall := (go_ok q2 q4).2
 have hB : carB (fun y => filledB sg ss y) k = undB sg rs k ss := by
  unfold carB undB filledB
  dsimp only
  rw [h, q2]
  have e1 : (k.2.all fun s => (substOkB sg ss && (termOkB sg s.2.2 && fitsB ss s.2.2))) = (k.2.all fun s => (substOkB sg ss && fitsB ss s.2.2)) := by
   refine all_mem2 (fun s hs => ?_)
   rw [hall s hs, Bool.true_and]
  rw [e1]
  cases substOkB sg ss
  ·simp
  ·simp only [Bool.true_and, Bool.and_true]
 refine ⟨?_, hB⟩
 unfold carW undW
 rw [hB]
 rfl
set_option maxHeartbeats 8000000 in
theorem implWalkUnder (a v f s u : Value) (d : Dat sSystem) (k : Dat sWalk) (ss : Dat sSubst) (w : World) (h : Rd w w.heap.size sSystem [a, v] d) (h1 : Rd w w.heap.size sWalk [f, s] k) (h2 : Rd w w.heap.size sSubst [u] ss) (hz : sz sSystem d ≤ 1048576) (hz1 : sz sWalk k ≤ 1048576) (hz2 : sz sSubst ss ≤ 1048576) :
  Calls Tryz.prog 12 #[.agg #[a, v], .agg #[f, s], .agg #[u]] w (AnsWalk w (undW d.1 d.2 k ss) (undB d.1 d.2 k ss)) := by
 obtain ⟨W, hW, J⟩ := wv_new w a v f s u
 have HW := hid hW
 have L1 := hid (implWalkOk a v f s d k W (h.next J.b) (h1.next J.b) hz hz1)
 obtain ⟨F, fn, fc, S, sn, sc, rfl, rfl, hF, hcF, hfn, hsn0, hsn, hcS, hrF, hrS, hzF, hzS⟩ := rd_walk h1 hz1
 obtain ⟨T, m, c, rfl, hT, htot, hm⟩ := rd_subst h2 hz2
 obtain ⟨A, n, cs, V, q, cv, rfl, rfl, hs, hc, hcv, hq, hn, hq1, hrs, hsg, hE⟩ := rd_sys h hz
 have HST := hid (show Seg w w.heap.size A n d.1 ∧ Segs w w.heap.size T m ss ∧ Rd w w.heap.size sWalk [.slice F fn fc, .slice S sn sc] k ∧ sz sWalk k ≤ 1048576 from ⟨hs, hT, h1, hz1⟩)
 clear hW h h1 h2 hz hz1 hz2 hF hcF hcS hrF hrS hzF hzS hT hs hc hcv hq hrs hsg hE hsn0
 cases okw : walkB d.1 d.2 k with
 | false =>
  have HO := hid okw
  clear okw
  go_enter Tryz.func12, Tryz.ntmps12
  have K0 : W.cell? ⟨w.heap.size, 0, none⟩ = some (.slice A n cs) := J.r0.cell 0
  have K1 : W.cell? ⟨w.heap.size, 1, none⟩ = some (.slice V q cv) := J.r0.cell 1
  have K2 : W.cell? ⟨w.heap.size + 1, 0, none⟩ = some (.slice F fn fc) := J.r1.cell 0
  have K3 : W.cell? ⟨w.heap.size + 1, 1, none⟩ = some (.slice S sn sc) := J.r1.cell 1
  go_wp2_with fail
  rw [← HW.out]
  go_wp2_with fail
  refine L1.out.mono ?_
  rintro e w1 ⟨he, bb⟩
  rw [HO.out] at he
  subst he
  have J1 := J.next bb
  have j4 := J1.r2
  have jb := J1.b
  clear K0 K1 K2 K3 J J1
  have y0 : w1.cell? ⟨w.heap.size + 1 + 1 + 1, 0, none⟩ = some (.slice none 0 0) := j4.cell 0
  have y1 : w1.cell? ⟨w.heap.size + 1 + 1 + 1, 1, none⟩ = some (.slice none 0 0) := j4.cell 1
  have g0 := j4.free 0
  have g1 := j4.free 1
  have ra := j4.put 0 (.slice none 0 0)
  have y2 : (w1.setCell ⟨w.heap.size + 1 + 1 + 1, 0, none⟩ (.slice none 0 0)).cell? ⟨w.heap.size + 1 + 1 + 1, 1, none⟩ = some (.slice none 0 0) := ra.cell 1
  have g2 := ra.free 1
  have rb := ra.put 1 (.slice none 0 0)
  have u0 : ((w1.setCell ⟨w.heap.size + 1 + 1 + 1, 0, none⟩ (.slice none 0 0)).setCell ⟨w.heap.size + 1 + 1 + 1, 1, none⟩ (.slice none 0 0)).cell? ⟨w.heap.size + 1 + 1 + 1, 0, none⟩ = some (.slice none 0 0) := rb.cell 0
  have u1 : ((w1.setCell ⟨w.heap.size + 1 + 1 + 1, 0, none⟩ (.slice none 0 0)).setCell ⟨w.heap.size + 1 + 1 + 1, 1, none⟩ (.slice none 0 0)).cell? ⟨w.heap.size + 1 + 1 + 1, 1, none⟩ = some (.slice none 0 0) := rb.cell 1
  have FZ : AnsWalk w (undW d.1 d.2 k ss) (undB d.1 d.2 k ss) (.returned (.tuple #[.agg #[.slice none 0 0, .slice none 0 0], .bool false])) ((w1.setCell ⟨w.heap.size + 1 + 1 + 1, 0, none⟩ (.slice none 0 0)).setCell ⟨w.heap.size + 1 + 1 + 1, 1, none⟩ (.slice none 0 0)) := ansWalk_no (und_no1 HO.out) (((jb).setCell (show w.heap.size ≤ w.heap.size + 1 + 1 + 1 by omega) _).setCell (show w.heap.size ≤ w.heap.size + 1 + 1 + 1 by omega) _)
  have HFZ := hid FZ
  clear FZ ra rb bb jb j4
  go_wp2
  exact bodyPost_ret (v := .tuple #[.agg #[.slice none 0 0, .slice none 0 0], .bool false]) (by simp [results, Tryz.results12, go_sem, u0, u1]) rfl HFZ.out
 | true =>
  have HO := hid okw
  clear okw
  have hwp := walk_parts HO.out
  have hEQ := car_under (sg := d.1) (rs := d.2) (k := k) (ss := ss) HO.out
  have h60s : ∀ i, i < List.length k.2 → (k.2.getD i (0, 0, [])).2.2.length ≤ 60 := fun i hi => (term_len (walk_at HO.out hi rfl).2).2
  have hpl : filledB d.1 ss k.1 = true → ∀ i, i < List.length k.2 → Plc d.1 ss (k.2.getD i (0, 0, [])) := fun hf i hi => by
   have hok : substOkB d.1 ss = true := by
    unfold filledB at hf
    rw [Bool.and_eq_true] at hf
    exact hf.1
   have h7 := walk_at HO.out hi rfl
   have h8 := now_pre hwp.2.2.2 hwp.2.1 hi rfl
   exact ⟨hok, ⟨h7.1.1, h8.2.2.1⟩, term_len h7.2, vars24 h7.2⟩
  have hCAR := hid (fun (w1 : World) (j : Wv w (.slice A n cs) (.slice V q cv) (.slice F fn fc) (.slice S sn sc) (.slice T m c) w1) =>
   carried 39 #[.pointer (some ⟨w.heap.size, 0, none⟩), .pointer (some ⟨w.heap.size + 1 + 1, 0, none⟩)] (enters_of Tryz.func39 (by kernel_rfl) rfl) 41 #[.pointer (some ⟨w.heap.size + 1 + 1, 0, none⟩)] (enters_of Tryz.func41 (by kernel_rfl) rfl)
    (fun y => y.length ≤ 60) (Plc d.1 ss) (fun y => fillL (givesL ss) y) (fun y => filledB d.1 ss y) (mvd (givesL ss)) (.slice F fn fc) (.slice S sn sc) k w1 (HST.out.2.2.1.next j.b) HST.out.2.2.2 hwp.2.2.1
    (unFill w.heap.size (w.heap.size + 1 + 1) A T n cs m c _ d.1 ss w1 j.r0 j.rs (HST.out.1.next j.b) (HST.out.2.1.next j.b) hn htot)
    (unPlace (w.heap.size + 1 + 1) T m c d.1 ss w1 j.rs (HST.out.2.1.next j.b) hm) (term_len hwp.2.1).2 (fun hf i hi => ⟨h60s i hi, hpl hf i hi⟩))
  rw [hEQ.1, hEQ.2] at hCAR
  clear hwp hEQ h60s hpl htot
  go_enter Tryz.func12, Tryz.ntmps12
  have K0 : W.cell? ⟨w.heap.size, 0, none⟩ = some (.slice A n cs) := J.r0.cell 0
  have K1 : W.cell? ⟨w.heap.size, 1, none⟩ = some (.slice V q cv) := J.r0.cell 1
  have K2 : W.cell? ⟨w.heap.size + 1, 0, none⟩ = some (.slice F fn fc) := J.r1.cell 0
  have K3 : W.cell? ⟨w.heap.size + 1, 1, none⟩ = some (.slice S sn sc) := J.r1.cell 1
  go_wp2_with fail
  rw [← HW.out]
  go_wp2_with fail
  refine L1.out.mono ?_
  rintro e w1 ⟨he, bb⟩
  rw [HO.out] at he
  subst he
  have J1 := J.next bb
  clear K0 K1 K2 K3
  have K2 : w1.cell? ⟨w.heap.size + 1, 0, none⟩ = some (.slice F fn fc) := J1.r1.cell 0
  have K3 : w1.cell? ⟨w.heap.size + 1, 1, none⟩ = some (.slice S sn sc) := J1.r1.cell 1
  have LC := hid (hCAR.out w1 J1)
  clear bb J
  go_wp2_with fail
  refine LC.out.mono ?_
  rintro e w2 ⟨X, xn, xc, O, on, oc, rfl, ow, bb⟩
  have J2 := J1.next bb
  have zz := J1.r2.lt
  have j4 := J2.r2
  have jb := J2.b
  clear K2 K3 J1 J2 hCAR LC
  have y0 : w2.cell? ⟨w.heap.size + 1 + 1 + 1, 0, none⟩ = some (.slice none 0 0) := j4.cell 0
  have y1 : w2.cell? ⟨w.heap.size + 1 + 1 + 1, 1, none⟩ = some (.slice none 0 0) := j4.cell 1
  have g0 := j4.free 0
  have g1 := j4.free 1
  have ra := j4.put 0 (.slice X xn xc)
  have y2 : (w2.setCell ⟨w.heap.size + 1 + 1 + 1, 0, none⟩ (.slice X xn xc)).cell? ⟨w.heap.size + 1 + 1 + 1, 1, none⟩ = some (.slice none 0 0) := ra.cell 1
  have g2 := ra.free 1
  have rb := ra.put 1 (.slice O on oc)
  have u0 : ((w2.setCell ⟨w.heap.size + 1 + 1 + 1, 0, none⟩ (.slice X xn xc)).setCell ⟨w.heap.size + 1 + 1 + 1, 1, none⟩ (.slice O on oc)).cell? ⟨w.heap.size + 1 + 1 + 1, 0, none⟩ = some (.slice X xn xc) := rb.cell 0
  have u1 : ((w2.setCell ⟨w.heap.size + 1 + 1 + 1, 0, none⟩ (.slice X xn xc)).setCell ⟨w.heap.size + 1 + 1 + 1, 1, none⟩ (.slice O on oc)).cell? ⟨w.heap.size + 1 + 1 + 1, 1, none⟩ = some (.slice O on oc) := rb.cell 1
  have FZ : AnsWalk w (undW d.1 d.2 k ss) (undB d.1 d.2 k ss) (.returned (.tuple #[.agg #[.slice X xn xc, .slice O on oc], .bool (undB d.1 d.2 k ss)])) ((w2.setCell ⟨w.heap.size + 1 + 1 + 1, 0, none⟩ (.slice X xn xc)).setCell ⟨w.heap.size + 1 + 1 + 1, 1, none⟩ (.slice O on oc)) := ⟨_, _, _, _, _, _, rfl, ((ow.put (g := w.heap.size + 1 + 1 + 1) (i := 0) (by omega)).put (g := w.heap.size + 1 + 1 + 1) (i := 1) (by omega)).wider (by omega) (by simp), (jb.setCell (show w.heap.size ≤ w.heap.size + 1 + 1 + 1 by omega) _).setCell (show w.heap.size ≤ w.heap.size + 1 + 1 + 1 by omega) _⟩
  have HFZ := hid FZ
  clear FZ ra rb ow jb j4
  go_wp2
  exact bodyPost_ret (v := .tuple #[.agg #[.slice X xn xc, .slice O on oc], .bool (undB d.1 d.2 k ss)]) (by simp [results, Tryz.results12, go_sem, u0, u1]) rfl HFZ.out
end und
end
end Go.Proofs.YtblhmplpcdcejaaGreat
