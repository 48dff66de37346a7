/-
  MERGED: my texts StepImplC, WalkImpl, ConcatS, WalkImplB, WalkX3, LawW, DrawL9, Roll, Roll9, OrderMath, ByMath, ReachMath, Known, HeldU, FindW, one behind the other, as they are. By an AI agent.
-/
import Derived.Test.YtlaloakegajheaaGreatMFnReached6
import Derived.Lib.AppendZeros
import Derived.Deep.LoopGhost
import Derived.Laws.BytesArg
import Derived.StringKeys
import Derived.Maps.Own
import Derived.Maps.OwnOps
import Derived.Maps.OwnSet
import Derived.Maps.Views
namespace Go.Proofs.YtlaloakegajheaaGreat
section
open Go.Lib (hid)
namespace stepImpl
open Go.RowKit base ints sig term termOk endAt inside marks app sym sub segs segsHelp kinds termFacts matchMath whole takeMath take extended varsOf shape kindsR ruleMath ruleSpec ruleImpl stepMath walkMath stepSpec
set_option maxRecDepth 100000
theorem right_of {sg : List Int} {rs : List Rl} {t : List Int} (h : sysOkB sg rs = true) : rightB sg rs t = termOkB sg t := by unfold rightB; rw [h]; rfl
theorem there_eq {sg : List Int} {rs : List Rl} {t : List Int} {a r : Int} (h : sysOkB sg rs = true) : thereR sg rs t a r = (thereB sg t a && walkMath.inB r rs.length) := by
 unfold thereR thereB walkMath.inB endAt.inB
 rw [right_of h, Bool.and_assoc]
theorem hasRule (a : Value) (V : Option Addr) (q cv : Nat) (r : Int) (w : World) (hq : q ≤ 1048576) :
  Calls Tryz.prog 134 #[.agg #[a, .slice V q cv], .int .i64 r] w (AnsB w (walkMath.inB r q)) := by
 obtain ⟨W, hW, rA, bel⟩ := box1 w 100 #[a, .slice V q cv]
 have HW := hid hW
 have R := hid rA
 have FF := hid (fun (b : Bool) (h : walkMath.inB r q = b) => (ansB (b := walkMath.inB r q) (a := b) h.symm bel))
 clear hW rA bel
 by_cases h0 : r < 0
 ·have F := hid (FF.out false (by unfold walkMath.inB; exact decide_eq_false (by omega)))
  go_enter Tryz.func134, Tryz.ntmps134
  go_wp2_with fail
  try rw [← HW.out]
  go_wp2
  go_ret
  exact F.out
 ·by_cases h1 : r < (q : Int)
  ·have F := hid (FF.out true (by unfold walkMath.inB; exact decide_eq_true (by omega)))
   have h0' : (0 : Int) ≤ r := by omega
   have K1 : (w.alloc (.cells #[a, .slice V q cv] 100)).cell? ⟨w.heap.size, 1, none⟩ = some (.slice V q cv) := by rw [← HW.out]; exact R.out.cell 1
   go_enter Tryz.func134, Tryz.ntmps134
   go_wp2
   rw [← HW.out]
   go_ret
   exact F.out
  ·have F := hid (FF.out false (by unfold walkMath.inB; exact decide_eq_false (by omega)))
   have h0' : (0 : Int) ≤ r := by omega
   have K1 : (w.alloc (.cells #[a, .slice V q cv] 100)).cell? ⟨w.heap.size, 1, none⟩ = some (.slice V q cv) := by rw [← HW.out]; exact R.out.cell 1
   go_enter Tryz.func134, Tryz.ntmps134
   go_wp2
   rw [← HW.out]
   go_ret
   exact F.out
set_option maxHeartbeats 4000000 in
theorem hasRedex (a v u : Value) (d : Dat sSystem) (t : List Int) (x r : Int) (w : World) (h : Rd w w.heap.size sSystem [a, v] d) (ht : Rd w w.heap.size sI [u] t) (hz : sz sSystem d ≤ 1048576) (hz' : sz sI t ≤ 1048576) (oks : sysOkB d.1 d.2 = true) :
  Calls Tryz.prog 185 #[.agg #[a, v], u, .int .i64 x, .int .i64 r] w (AnsB w (redexB d.1 d.2 t x r)) := by
 have h0 := h
 have ht0 := ht
 obtain ⟨T, m, c, rfl, hT, hcT⟩ := rd_ints.1 ht
 have hm := len_ints hT.1 hz'
 obtain ⟨A, n, cs, V, q, cv, rfl, rfl, hs, hc, hcv, hq, hn, hq1, hrs, hsg, hE⟩ := rd_sys h hz
 obtain ⟨W, hW, rA, bel⟩ := box1 w 100 #[.slice A n cs, .slice V q cv]
 have HW := hid hW
 have LP := hid (placeIn A T n cs m c d.1 t x W (hs.next bel) (hT.next bel) hn hm)
 have HQ := hid hq
 have LHR := hid (fun (w1 : World) => hasRule (.slice A n cs) V q cv r w1 hq1)
 have LMA := hid (fun (w1 : World) (bb : Below w.heap.size w w1) (x k : Nat) hok hx hk => matchAt _ _ _ d t x k w1 (h0.next bb) (ht0.next bb) hz hok hx hk)
 have OKS := hid oks
 clear hW h h0 ht ht0 hz hz' hs hc hcv hq hrs hsg hE hT hcT oks
 obtain ⟨bp, hbp⟩ : ∃ bp, thereB d.1 t x = bp := ⟨_, rfl⟩
 have HP := hid hbp
 have HTH := hid (show thereR d.1 d.2 t x r = (bp && walkMath.inB r d.2.length) by rw [there_eq OKS.out, hbp])
 rw [hbp] at LP
 clear hbp
 cases bp with
 | false =>
  go_enter Tryz.func185, Tryz.ntmps185
  go_wp2_with fail
  rw [← HW.out]
  refine LP.out.mono ?_
  rintro e w1 ⟨rfl, bb⟩
  have F := hid (ansB (b := redexB d.1 d.2 t x r) (a := false) (by rw [redex_no (by rw [HTH.out]; rfl)]) (next_trans bel bb))
  clear bb bel rA LMA
  go_wp2
  go_ret
  exact F.out
 | true =>
  go_enter Tryz.func185, Tryz.ntmps185
  go_wp2_with fail
  rw [← HW.out]
  refine LP.out.mono ?_
  rintro e w1 ⟨rfl, bb⟩
  replace rA := rA.next bb
  replace bel := next_trans bel bb
  have K0 : w1.cell? ⟨w.heap.size, 0, none⟩ = some (.slice A n cs) := rA.cell 0
  have K1 : w1.cell? ⟨w.heap.size, 1, none⟩ = some (.slice V q cv) := rA.cell 1
  have LH1 := hid (LHR.out w1)
  clear bb LP LHR
  obtain ⟨bi, hbi⟩ : ∃ bi, walkMath.inB r q = bi := ⟨_, rfl⟩
  have HBI := hid hbi
  rw [hbi] at LH1
  clear hbi
  go_wp2_with fail
  refine LH1.out.mono ?_
  rintro e w2 ⟨rfl, bb⟩
  cases bi with
  | false =>
   have F := hid (ansB (b := redexB d.1 d.2 t x r) (a := false) (by rw [redex_no (by rw [HTH.out, HQ.out, HBI.out]; rfl)]) (next_trans bel bb))
   clear bb bel rA LMA K0 K1 LH1
   go_wp2
   go_ret
   exact F.out
  | true =>
   have hkk : 0 ≤ r ∧ r < (q : Int) := of_decide_eq_true HBI.out
   obtain ⟨k, rfl⟩ := Int.eq_ofNat_of_zero_le hkk.1
   have hkq : k < q := by omega
   have hx := endAt.there_parts HP.out
   obtain ⟨i, rfl⟩ := Int.eq_ofNat_of_zero_le hx.2.1
   have hix : i < t.length := by omega
   have okR : rightB d.1 d.2 t = true := by rw [right_of OKS.out]; exact hx.1
   have hkl : k < d.2.length := by rw [HQ.out]; exact hkq
   have HRE := hid (show redexB d.1 d.2 t (i : Int) (k : Int) = (mst d.1 t (d.2.getD k ([], [])).1 i s0).isSome by
    rw [redex_yes (by rw [HTH.out]; unfold walkMath.inB; rw [decide_eq_true (by omega)]; rfl), red_at (sys_rule OKS.out hkl) hx.1 hix]
    unfold rl
    rw [Int.toNat_natCast, Int.toNat_natCast])
   replace rA := rA.next bb
   replace bel := next_trans bel bb
   have LM1 := hid (LMA.out w2 bel i k okR hix hkl)
   clear K0 K1
   have K0 : w2.cell? ⟨w.heap.size, 0, none⟩ = some (.slice A n cs) := rA.cell 0
   have K1 : w2.cell? ⟨w.heap.size, 1, none⟩ = some (.slice V q cv) := rA.cell 1
   clear hx okR LMA HTH hkk hix hkl bb rA LH1
   obtain ⟨R, hR⟩ : ∃ R, mst d.1 t (d.2.getD k ([], [])).1 i s0 = R := ⟨_, rfl⟩
   rw [hR] at LM1 HRE
   clear hR
   go_wp2_with fail
   refine LM1.out.mono ?_
   rintro e w3 ⟨rs, rfl, tab, hsz, bb⟩
   have one := hid tab.one
   have h24 := hid tab.1
   obtain ⟨bo, hbo⟩ : ∃ bo, R.isSome = bo := ⟨_, rfl⟩
   rw [hbo]
   have F := hid (show AnsB w (redexB d.1 d.2 t (i : Int) (k : Int)) (.returned (.bool bo)) (w3.alloc (.cells rs 240)) from ⟨by rw [HRE.out, hbo], (next_trans bel bb).alloc (next_trans bel bb).size _⟩)
   clear tab hsz bb bel K0 K1 hbo LM1 HRE
   go_wp2_with (first
    | (refine rowAlloc rfl 240 rfl z24 zero_b ?_)
    | (refine rowStore rfl 240 _ _ rfl w3.heap.size rs z24 240 rfl rfl (heap_alloc_new w3 _) (by rw [h24.out]; exact size_b) (by rw [h24.out]; rfl) one.out ?_; rw [World.setRow_alloc_new]))
   go_ret
   exact F.out
set_option maxHeartbeats 4000000 in
theorem stepAt (a v u : Value) (d : Dat sSystem) (t : List Int) (x r : Int) (w : World) (h : Rd w w.heap.size sSystem [a, v] d) (ht : Rd w w.heap.size sI [u] t) (hz : sz sSystem d ≤ 1048576) (hz' : sz sI t ≤ 1048576) (oks : sysOkB d.1 d.2 = true) :
  Calls Tryz.prog 141 #[.agg #[a, v], u, .int .i64 x, .int .i64 r] w (AnsStep w (stepAtO d.1 d.2 t x r)) := by
 obtain ⟨W, hW, rA, bel⟩ := box1 w 100 #[a, v]
 have HW := hid hW
 have LH := hid (hasRedex a v u d t x r W (h.next bel) (ht.next bel) hz hz' oks)
 have LR := hid (fun (w1 : World) (bb : Below w.heap.size w w1) (x k : Nat) hok hx hk hred => reduced a v u d t x k w1 (h.next bb) (ht.next bb) hz hok hx hk hred)
 clear hW h ht hz hz'
 obtain ⟨bp, hbp⟩ : ∃ bp, redexB d.1 d.2 t x r = bp := ⟨_, rfl⟩
 rw [hbp] at LH
 cases bp with
 | false =>
  have HN := hid (show stepAtO d.1 d.2 t x r = none by
   cases e : stepAtO d.1 d.2 t x r with
   | none => rfl
   | some y => rw [stepAt_redex e] at hbp; cases hbp)
  clear hbp
  go_enter Tryz.func141, Tryz.ntmps141
  go_wp2_with fail
  rw [← HW.out]
  refine LH.out.mono ?_
  rintro e w1 ⟨rfl, bb⟩
  have F := hid (ansStep_nil (o := stepAtO d.1 d.2 t x r) HN.out (next_trans bel bb))
  clear bb bel rA LR
  go_wp2
  go_ret2
  exact F.out
 | true =>
  have hth : thereR d.1 d.2 t x r = true := by
   unfold redexB at hbp
   rw [Bool.and_eq_true] at hbp
   exact hbp.1
  obtain ⟨p1, p2, p3, p4⟩ := walkMath.there_parts hth
  obtain ⟨i, rfl⟩ := Int.eq_ofNat_of_zero_le p3.1
  obtain ⟨k, rfl⟩ := Int.eq_ofNat_of_zero_le p4.1
  rw [redex_yes hth] at hbp
  unfold rl at hbp
  rw [Int.toNat_natCast, Int.toNat_natCast] at hbp
  have LR1 := hid (fun w1 bb => LR.out w1 bb i k (right_yes p1 p2) (by omega) (by omega) hbp)
  have HE := hid (show stepAtO d.1 d.2 t (i : Int) (k : Int) = stepO d.1 (d.2.getD k ([], [])) t i by rw [at_yes hth]; unfold rl; rw [Int.toNat_natCast, Int.toNat_natCast])
  clear hth p1 p2 p3 p4 hbp LR oks
  go_enter Tryz.func141, Tryz.ntmps141
  go_wp2_with fail
  rw [← HW.out]
  refine LH.out.mono ?_
  rintro e w1 ⟨rfl, bb⟩
  replace rA := rA.next bb
  replace bel := next_trans bel bb
  have K0 : w1.cell? ⟨w.heap.size, 0, none⟩ = some a := rA.cell 0
  have K1 : w1.cell? ⟨w.heap.size, 1, none⟩ = some v := rA.cell 1
  have LR2 := hid (LR1.out w1 bel)
  clear bb LH LR1 rA
  go_wp2_with fail
  refine LR2.out.mono ?_
  rintro e w2 ⟨X, xn, xc, rfl, oX, bb⟩
  have F : AnsStep w (stepAtO d.1 d.2 t (i : Int) (k : Int)) (.returned (.tuple #[.slice X xn xc, .bool (stepO d.1 (d.2.getD k ([], [])) t i).isSome])) w2 := ⟨X, xn, xc, by rw [HE.out], by rw [HE.out]; exact Own.lower oX bel.size, next_trans bel bb⟩
  have HF := hid F
  clear F oX bb bel K0 K1 LR2
  generalize (stepO d.1 (d.2.getD k ([], [])) t i).isSome = bz at *
  go_wp2
  go_ret2
  exact HF.out
end stepImpl
end
section
open Go.Lib (hid)
namespace walkImpl
open Go.RowKit base ints sig term termOk endAt endOf marks app sym sub segs segsHelp kinds termFacts same shifted shape kindsR kindsW varsOf ruleMath ruleSpec ruleImpl stepMath walkMath stepSpec stepImpl walkSpec
set_option maxRecDepth 100000
structure Wm (w : World) (a v f s : Value) (d : Dat sSystem) (k : Dat sWalk) (i : Nat) (now : Value) (wr : World) : Prop where
 r : Row wr w.heap.size 100 #[a, v]
 q : Row wr (w.heap.size + 1) 86 #[f, s]
 b : Below w.heap.size w wr
 n : ∃ N nn nc, now = .slice N nn nc
 t : ∃ t, Rd wr wr.heap.size sI [now] t ∧ sz sI t ≤ 1048576 ∧ goOn d.1 d.2 k.1 k.2 = goOn d.1 d.2 t (k.2.drop i)
set_option maxHeartbeats 4000000 in
theorem leads (a v u : Value) (U : Option Addr) (un uc : Nat) (d : Dat sSystem) (t y : List Int) (x r : Int) (w : World) (h : Rd w w.heap.size sSystem [a, v] d) (ht : Rd w w.heap.size sI [u] t) (hU : Seg w w.heap.size U un y) (hz : sz sSystem d ≤ 1048576) (hz' : sz sI t ≤ 1048576) (hun : un ≤ 1048576) (oks : sysOkB d.1 d.2 = true) :
  Calls Tryz.prog 78 #[.agg #[a, v], u, .agg #[.int .i64 x, .int .i64 r, .slice U un uc]] w (AnsB w (decide (stepAtO d.1 d.2 t x r = some y))) := by
 obtain ⟨W, hW, rA, rX, bel⟩ := box2 w 100 124 #[a, v] #[.int .i64 x, .int .i64 r, .slice U un uc]
 have HW := hid hW
 have LS := hid (stepAt a v u d t x r W (h.next bel) (ht.next bel) hz hz' oks)
 have HU := hid (hU.next bel)
 have K0 : ((w.alloc (.cells #[a, v] 100)).alloc (.cells #[.int .i64 x, .int .i64 r, .slice U un uc] 124)).cell? ⟨w.heap.size, 0, none⟩ = some a := by rw [← hW]; exact rA.cell 0
 have K1 : ((w.alloc (.cells #[a, v] 100)).alloc (.cells #[.int .i64 x, .int .i64 r, .slice U un uc] 124)).cell? ⟨w.heap.size, 1, none⟩ = some v := by rw [← hW]; exact rA.cell 1
 clear hW h ht hU hz hz'
 obtain ⟨o, ho⟩ : ∃ o, stepAtO d.1 d.2 t x r = o := ⟨_, rfl⟩
 rw [ho] at LS
 rw [ho]
 have HL := hid (show ∀ z, o = some z → z.length ≤ 60 from fun z hz => by subst hz; exact step_len (stepAt_parts ho).2)
 clear ho
 go_enter Tryz.func78, Tryz.ntmps78
 go_wp2_with fail
 rw [← HW.out]
 refine LS.out.mono ?_
 rintro e w2 ⟨X, xn, xc, rfl, oX, bb⟩
 replace rX := rX.next bb
 have b2 := next_trans bel bb
 have k2 : w2.cell? ⟨w.heap.size + 1, 2, none⟩ = some (.slice U un uc) := rX.cell 2
 cases o with
 | none =>
  have F := hid (show AnsB w (decide ((none : Option (List Int)) = some y)) (.returned (.bool false)) w2 from ⟨rfl, b2⟩)
  clear oX bb rA rX bel b2 HL HU LS K0 K1 k2
  go_wp2
  go_ret
  exact F.out
 | some z =>
  have oY : Own w2 W.heap.size (.slice X xn xc) z := oX
  have hxn : xn ≤ 1048576 := by have := HL.out z rfl; have := Own.len oY; omega
  have LE := hid (implSame X U xn un xc uc z y w2 (Own.seg oY) (HU.out.next bb) hxn hun)
  clear oX oY HU bb rX rA bel LS K0 K1 HL
  go_wp2_with fail
  refine LE.out.mono ?_
  rintro e w3 ⟨rfl, dd, rfl⟩
  have F := hid (show AnsB w (decide (some z = some y)) (.returned (.bool (decide (z = y)))) (w2.drewN dd) from ⟨by congr 2; simp, below_drewN b2 dd⟩)
  clear b2 k2 LE
  generalize decide (z = y) = bz at *
  go_wp2
  go_ret
  exact F.out
set_option maxHeartbeats 4000000 in
theorem makes (a v f s : Value) (d : Dat sSystem) (k : Dat sWalk) (w : World) (h : Rd w w.heap.size sSystem [a, v] d) (h' : Rd w w.heap.size sWalk [f, s] k) (hz : sz sSystem d ≤ 1048576) (hz' : sz sWalk k ≤ 1048576) (oks : sysOkB d.1 d.2 = true) :
  Calls Tryz.prog 110 #[.agg #[a, v], .agg #[f, s]] w (AnsB w (goOn d.1 d.2 k.1 k.2).isSome) := by
 obtain ⟨F, fn, fc, S, sn, sc, rfl, rfl, hF, hcF, hfn, hsn, hsn1, hcS, hrF, hrS, hzF, hzS⟩ := rd_walk h' hz'
 obtain ⟨W, hW, rA, rW, bel⟩ := box2 w 100 86 #[a, v] #[.slice F fn fc, .slice S sn sc]
 have HW := hid hW
 have LST := hid (fun (w1 : World) (bb : Below w.heap.size w w1) (u : Value) (U : Option Addr) (un uc : Nat) (t y : List Int) (x r : Int) ht hU hzt hun => leads a v u U un uc d t y x r w1 (h.next bb) ht hU hz hzt hun oks)
 have HRS := hid hrS
 have HSN := hid hsn
 have HZS := hid hzS
 have H0 := hid (show Wm w a v (.slice F fn fc) (.slice S sn sc) d k 0 (.slice F fn fc) W from ⟨rA, rW, bel, ⟨_, _, _, rfl⟩, k.1, hrF.next bel, hzF, rfl⟩)
 clear hW h h' hz hz' hF hcF hsn hcS hrF hrS hzF hzS rA rW bel oks
 go_enter Tryz.func110, Tryz.ntmps110
 go_wp2_with fail
 rw [← HW.out]
 clear HW
 go_loopg [5, 13] sn (fun g now i_ wr => ∃ i : Nat, i_ = .int .i64 i ∧ i + g = sn ∧ Wm w a v (.slice F fn fc) (.slice S sn sc) d k i now wr)
 case atStart => exact ⟨0, rfl, by omega, H0.out⟩
 case round =>
  clear H0
  obtain ⟨i, rfl, hg, T⟩ := hrel
  obtain ⟨N, nn, nc, rfl⟩ := T.n
  obtain ⟨t, ht, hzt, hgo⟩ := T.t
  have HG := hid hg
  have HGO := hid hgo
  clear hg hgo
  by_cases hi : i < sn
  ·obtain ⟨b, off, u, x, hA, hb, ex, c0, c1, c2, hx2⟩ := rd_step HRS.out T.b HSN.out hi
   subst hA
   obtain ⟨U, un, uc, rfl, hU, hcU⟩ := rd_ints.1 hx2
   have hzx : sz sI x.2.2 ≤ 1048576 := by rw [← ex.out]; exact HZS.out i hi
   have hun : un ≤ 1048576 := len_ints hU.1 hzx
   obtain ⟨xa, hxa⟩ : ∃ z, x.1 = z := ⟨_, rfl⟩
   obtain ⟨xr, hxr⟩ : ∃ z, x.2.1 = z := ⟨_, rfl⟩
   rw [hxa] at c0
   rw [hxr] at c1
   have b1 : Below wr.heap.size wr (wr.alloc (.cells #[.int .i64 xa, .int .i64 xr, .slice U un uc] 124)) := (Below.refl _ _).alloc (Nat.le_refl _) _
   have K0 : wr.cell? ⟨w.heap.size, 0, none⟩ = some a := T.r.cell 0
   have K1 : wr.cell? ⟨w.heap.size, 1, none⟩ = some v := T.r.cell 1
   obtain ⟨w1, hw1⟩ : ∃ w1, w1 = wr.alloc (.cells #[.int .i64 xa, .int .i64 xr, .slice U un uc] 124) := ⟨_, rfl⟩
   rw [← hw1] at b1
   have r1 := T.r.next b1
   have q1 := T.q.next b1
   have bel1 := T.b.trans (b1.mono T.b.size)
   have rX : Row w1 wr.heap.size 124 #[.int .i64 xa, .int .i64 xr, .slice U un uc] := by rw [hw1]; exact Row.new _ _ _
   have hU1 := (hU.more T.b.size).next b1
   have hx3 := (hx2.more T.b.size).next b1
   have LS := hid (LST.out w1 bel1 (.slice N nn nc) U un uc t x.2.2 xa xr (ht.next b1) hU1 hzt hun)
   obtain ⟨o, ho⟩ : ∃ o, stepAtO d.1 d.2 t xa xr = o := ⟨_, rfl⟩
   rw [ho] at LS
   have HO := hid (show stepAtO d.1 d.2 t x.1 x.2.1 = o by rw [hxa, hxr]; exact ho)
   have hil : i < k.2.length := by rw [HSN.out]; exact hi
   have EX := hid (show k.2.getD i (0, 0, []) = x from ex.out)
   have i0 : (0 : Int) ≤ (i : Int) := by omega
   have i1 : (i : Int) < (sn : Int) := by omega
   have R0 : (wr.alloc (.cells #[.int .i64 xa, .int .i64 xr, .slice U un uc] 124)).cell? ⟨w.heap.size, 0, none⟩ = some a := by rw [← hw1]; exact r1.cell 0
   have R1 : (wr.alloc (.cells #[.int .i64 xa, .int .i64 xr, .slice U un uc] 124)).cell? ⟨w.heap.size, 1, none⟩ = some v := by rw [← hw1]; exact r1.cell 1
   have X0 : (wr.alloc (.cells #[.int .i64 xa, .int .i64 xr, .slice U un uc] 124)).cell? ⟨wr.heap.size, 0, none⟩ = some (.int .i64 xa) := by rw [← hw1]; exact rX.cell 0
   have X1 : (wr.alloc (.cells #[.int .i64 xa, .int .i64 xr, .slice U un uc] 124)).cell? ⟨wr.heap.size, 1, none⟩ = some (.int .i64 xr) := by rw [← hw1]; exact rX.cell 1
   have X2 : (wr.alloc (.cells #[.int .i64 xa, .int .i64 xr, .slice U un uc] 124)).cell? ⟨wr.heap.size, 2, none⟩ = some (.slice U un uc) := by rw [← hw1]; exact rX.cell 2
   have HW1 := hid hw1
   clear ho hxa hxr hx2 hU hcU T ht hzt ex b1 hw1 hU1
   go_wp2_with fail
   rw [← HW1.out]
   refine LS.out.mono ?_
   rintro e w2 ⟨rfl, bb⟩
   have r2 := r1.next bb
   have q2 := q1.next bb
   have b2 := next_trans bel1 bb
   have rX2 := rX.next bb
   have RY := hid (hx3.next bb)
   have k2 : w2.cell? ⟨wr.heap.size, 2, none⟩ = some (.slice U un uc) := rX2.cell 2
   clear r1 q1 bel1 rX hx3 c0 c1 c2 K0 K1 R0 R1 X0 X1 X2 LS HW1
   by_cases hoy : o = some x.2.2
   ·have HGN := hid (go_step hil EX.out (HO.out.trans hoy) rfl)
    have F := hid (show Wm w a v (.slice F fn fc) (.slice (some ⟨b, off, none⟩) sn sc) d k (i + 1) (.slice U un uc) w2 from ⟨r2, q2, b2, ⟨_, _, _, rfl⟩, x.2.2, RY.out, hzx, by rw [HGO.out, HGN.out]⟩)
    rw [decide_eq_true hoy]
    clear r2 q2 b2 bb rX2 RY HO hoy
    go_wp2
    go_roundg (gk - 1)
    case measure => have := HG.out; omega
    case rel => exact ⟨i + 1, by simp, by have := HG.out; omega, F.out⟩
   ·have F := hid (ansB (b := (goOn d.1 d.2 k.1 k.2).isSome) (a := false) (by
     rw [HGO.out]
     cases o with
     | none => rw [go_none hil EX.out HO.out]; rfl
     | some y => rw [go_differ hil EX.out HO.out (fun q => hoy (by rw [q]))]; rfl) b2)
    rw [decide_eq_false hoy]
    clear r2 q2 b2 bb rX2 RY HO hoy k2
    go_wp2
    go_ret
    exact F.out
  ·have F := hid (ansB (b := (goOn d.1 d.2 k.1 k.2).isSome) (a := true) (by rw [HGO.out, go_all (by rw [HSN.out]; have := HG.out; omega)]; rfl) T.b)
   clear T ht hzt
   go_wp2
   go_ret
   exact F.out
theorem walk_sys {sg : List Int} {rs : List Rl} {k : Wk} (h : sysOkB sg rs = false) : walkB sg rs k = false := walk_noR (right_sys h)
theorem walk_term {sg : List Int} {rs : List Rl} {k : Wk} (h : termOkB sg k.1 = false) : walkB sg rs k = false := walk_noR (right_term h)
set_option maxHeartbeats 4000000 in
theorem implWalkOk (a v f s : Value) (d : Dat sSystem) (k : Dat sWalk) (w : World) (h : Rd w w.heap.size sSystem [a, v] d) (h' : Rd w w.heap.size sWalk [f, s] k) (hz : sz sSystem d ≤ 1048576) (hz' : sz sWalk k ≤ 1048576) :
  Calls Tryz.prog 47 #[.agg #[a, v], .agg #[f, s]] w (AnsB w (walkB d.1 d.2 k)) := by
 obtain ⟨F, fn, fc, S, sn, sc, rfl, rfl, hF, hcF, hfn, hsn, hsn1, hcS, hrF, hrS, hzF, hzS⟩ := rd_walk h' hz'
 have h0 := h
 obtain ⟨A, n, cs, V, q, cv, rfl, rfl, hs, hc, hcv, hq, hn, hq1, hrs, hsg, hE⟩ := rd_sys h hz
 obtain ⟨W, hW, rA, rW, bel⟩ := box2 w 32 86 #[.slice A n cs, .slice V q cv] #[.slice F fn fc, .slice S sn sc]
 have HW := hid hW
 have LS := hid (systemOf _ _ d W (h0.next bel) hz)
 have LT := hid (fun (w1 : World) (bb : Below w.heap.size w w1) => implTermOk A F n cs fn fc d.1 k.1 w1 (hs.next bb) (hF.next bb) hn hfn)
 have LM := hid (fun (w1 : World) (bb : Below w.heap.size w w1) oks => makes _ _ _ _ d k w1 (h0.next bb) (h'.next bb) hz hz' oks)
 have HSN := hid hsn
 clear hW h h0 h' hz hz' hs hc hcv hq hrs hsg hE hF hcF hsn hcS hrF hrS hzF hzS
 cases ok : sysOkB d.1 d.2 with
 | false =>
  have HS := hid ok
  clear ok
  go_enter Tryz.func47, Tryz.ntmps47
  go_wp2_with fail
  rw [← HW.out]
  refine LS.out.mono ?_
  rintro e w1 ⟨he, bb⟩
  rw [HS.out] at he
  have he : e = .returned (.tuple #[.agg #[.slice none 0 0, .slice none 0 0], .bool false]) := he
  subst he
  have F := hid (fun o => ansB (b := walkB d.1 d.2 k) (a := false) (by rw [walk_sys HS.out]) ((next_trans bel bb).alloc (next_trans bel bb).size o))
  clear bb bel rA rW LT LM
  go_wp2
  go_ret
  exact F.out _
 | true =>
  have HS := hid ok
  clear ok
  cases okt : termOkB d.1 k.1 with
  | false =>
   have HT := hid okt
   clear okt
   go_enter Tryz.func47, Tryz.ntmps47
   go_wp2_with fail
   rw [← HW.out]
   refine LS.out.mono ?_
   rintro e w1 ⟨he, bb⟩
   rw [HS.out] at he
   have he : e = .returned (.tuple #[.agg #[.slice A n cs, .slice V q cv], .bool true]) := he
   subst he
   have b2 := (Below.refl w1.heap.size w1).alloc (Nat.le_refl _) (.cells #[.slice A n cs, .slice V q cv] 100)
   have r2 := (rW.next bb).next b2
   have bel2 := next_trans (next_trans bel bb) b2
   have k0 : (w1.alloc (.cells #[.slice A n cs, .slice V q cv] 100)).cell? ⟨w.heap.size + 1, 0, none⟩ = some (.slice F fn fc) := r2.cell 0
   have LT1 := hid (LT.out _ bel2)
   have B2 := hid bel2
   clear bb bel rA rW LT LM b2 r2 bel2
   go_wp2_with fail
   refine LT1.out.mono ?_
   rintro e w3 ⟨he, bb⟩
   rw [HT.out] at he
   subst he
   have F := hid (ansB (b := walkB d.1 d.2 k) (a := false) (by rw [walk_term HT.out]) (next_trans B2.out bb))
   clear bb k0 LT1 B2
   go_wp2
   go_ret
   exact F.out
  | true =>
   have HT := hid okt
   clear okt
   by_cases h60 : sn ≤ 60
   ·have HYES := hid (walk_yes (k := k) (right_yes HS.out HT.out) HSN.out h60)
    have hle : (sn : Int) ≤ 60 := by omega
    go_enter Tryz.func47, Tryz.ntmps47
    go_wp2_with fail
    rw [← HW.out]
    refine LS.out.mono ?_
    rintro e w1 ⟨he, bb⟩
    rw [HS.out] at he
    have he : e = .returned (.tuple #[.agg #[.slice A n cs, .slice V q cv], .bool true]) := he
    subst he
    obtain ⟨w2, hw2⟩ : ∃ w2, w2 = w1.alloc (.cells #[.slice A n cs, .slice V q cv] 100) := ⟨_, rfl⟩
    have b2 : Below w1.heap.size w1 w2 := by rw [hw2]; exact (Below.refl w1.heap.size w1).alloc (Nat.le_refl _) (.cells #[.slice A n cs, .slice V q cv] 100)
    have r2 := (rW.next bb).next b2
    have rS : Row w2 w1.heap.size 100 #[.slice A n cs, .slice V q cv] := by rw [hw2]; exact Row.new _ _ _
    have bel2 := next_trans (next_trans bel bb) b2
    have k0 : (w1.alloc (.cells #[.slice A n cs, .slice V q cv] 100)).cell? ⟨w.heap.size + 1, 0, none⟩ = some (.slice F fn fc) := by rw [← hw2]; exact r2.cell 0
    have LT1 := hid (LT.out _ bel2)
    have HW2 := hid hw2
    clear bb bel rA rW LT b2 hw2
    go_wp2_with fail
    rw [← HW2.out]
    refine LT1.out.mono ?_
    rintro e w3 ⟨he, bb⟩
    rw [HT.out] at he
    subst he
    replace r2 := r2.next bb
    replace rS := rS.next bb
    replace bel2 := next_trans bel2 bb
    have k1 : w3.cell? ⟨w.heap.size + 1, 1, none⟩ = some (.slice S sn sc) := r2.cell 1
    have k2 : w3.cell? ⟨w.heap.size + 1, 0, none⟩ = some (.slice F fn fc) := r2.cell 0
    have k3 : w3.cell? ⟨w1.heap.size, 0, none⟩ = some (.slice A n cs) := rS.cell 0
    have k4 : w3.cell? ⟨w1.heap.size, 1, none⟩ = some (.slice V q cv) := rS.cell 1
    have LM1 := hid (LM.out w3 bel2 HS.out)
    clear bb k0 LT1 HW2 LM r2 rS
    go_wp2_with fail
    refine LM1.out.mono ?_
    rintro e w4 ⟨rfl, bb⟩
    have F := hid (show AnsB w (walkB d.1 d.2 k) (.returned (.bool (goOn d.1 d.2 k.1 k.2).isSome)) w4 from ⟨by rw [HYES.out], next_trans bel2 bb⟩)
    clear bb bel2 k1 k2 k3 k4 LM1 HYES
    generalize (goOn d.1 d.2 k.1 k.2).isSome = bz at *
    go_wp2
    go_ret
    exact F.out
   ·have hle : ¬ (sn : Int) ≤ 60 := by omega
    go_enter Tryz.func47, Tryz.ntmps47
    go_wp2_with fail
    rw [← HW.out]
    refine LS.out.mono ?_
    rintro e w1 ⟨he, bb⟩
    rw [HS.out] at he
    have he : e = .returned (.tuple #[.agg #[.slice A n cs, .slice V q cv], .bool true]) := he
    subst he
    have b2 := (Below.refl w1.heap.size w1).alloc (Nat.le_refl _) (.cells #[.slice A n cs, .slice V q cv] 100)
    have r2 := (rW.next bb).next b2
    have bel2 := next_trans (next_trans bel bb) b2
    have k0 : (w1.alloc (.cells #[.slice A n cs, .slice V q cv] 100)).cell? ⟨w.heap.size + 1, 0, none⟩ = some (.slice F fn fc) := r2.cell 0
    have LT1 := hid (LT.out _ bel2)
    have B2 := hid bel2
    have R2 := hid r2
    clear bb bel rA rW LT LM b2 r2 bel2
    go_wp2_with fail
    refine LT1.out.mono ?_
    rintro e w3 ⟨he, bb⟩
    rw [HT.out] at he
    subst he
    have k1 : w3.cell? ⟨w.heap.size + 1, 1, none⟩ = some (.slice S sn sc) := (R2.out.next bb).cell 1
    have F := hid (ansB (b := walkB d.1 d.2 k) (a := false) (by rw [walk_long HSN.out h60]) (next_trans B2.out bb))
    clear bb k0 LT1 B2
    go_wp2
    go_ret
    exact F.out
set_option maxHeartbeats 2000000 in
theorem endImpl (f s : Value) (k : Dat sWalk) (w : World) (h : Rd w w.heap.size sWalk [f, s] k) (hz : sz sWalk k ≤ 1048576) :
  Calls Tryz.prog 112 #[.agg #[f, s]] w fun e w' => ∃ A n c, e = .returned (.slice A n c) ∧ Rd w' w.heap.size sI [.slice A n c] (endL k) ∧ Below w.heap.size w w' := by
 obtain ⟨F, fn, fc, S, sn, sc, rfl, rfl, hF, hcF, hfn, hsn, hsn1, hcS, hrF, hrS, hzF, hzS⟩ := rd_walk h hz
 obtain ⟨W, hW, rW, bel⟩ := box1 w 86 #[.slice F fn fc, .slice S sn sc]
 have HW := hid hW
 by_cases h0 : sn = 0
 ·subst h0
  have F1 := hid (show ∃ A n c, Ending.returned (.slice F fn fc) = .returned (.slice A n c) ∧ Rd W w.heap.size sI [.slice A n c] (endL k) ∧ Below w.heap.size w W from ⟨_, _, _, rfl, by rw [end_none hsn]; exact hrF.below bel, bel⟩)
  clear hW h hz hF hcF hsn hcS hrF hrS hzF hzS bel rW
  go_enter Tryz.func112, Tryz.ntmps112
  go_wp2
  rw [← HW.out]
  go_ret
  exact F1.out
 ·obtain ⟨n, rfl⟩ : ∃ n, sn = n + 1 := ⟨sn - 1, by omega⟩
  obtain ⟨b, off, u, x, rfl, hb, ex, c0, c1, c2, hx2⟩ := rd_step hrS bel hsn (Nat.lt_succ_self n)
  obtain ⟨U, un, uc, rfl, hU, hcU⟩ := rd_ints.1 hx2
  have F1 := hid (show ∃ A n c, Ending.returned (.slice U un uc) = .returned (.slice A n c) ∧ Rd W w.heap.size sI [.slice A n c] (endL k) ∧ Below w.heap.size w W from ⟨_, _, _, rfl, by rw [end_last hsn ex.out]; exact hx2, bel⟩)
  have c2' : (w.alloc (.cells #[.slice F fn fc, .slice (some ⟨b, off, none⟩) (n + 1) sc] 86)).cell? ⟨b, off + n * 3 + 2, none⟩ = some (.slice U un uc) := by rw [← hW]; exact c2
  have i1 : ¬ ((n : Int) + 1 = 0) := by omega
  have i2 : ((n : Int) + 1) - 1 = (n : Int) := by omega
  have i3 : (0 : Int) ≤ (n : Int) := by omega
  have i4 : (n : Int) < (n : Int) + 1 := by omega
  clear hW h hz hF hcF hsn hcS hrF hrS hzF hzS ex hx2 hU hcU c0 c1 c2 h0 bel rW
  go_enter Tryz.func112, Tryz.ntmps112
  go_wp2
  rw [← HW.out]
  go_ret
  exact F1.out
set_option maxHeartbeats 2000000 in
theorem implEndTerm (a v f s : Value) (d : Dat sSystem) (k : Dat sWalk) (w : World) (h : Rd w w.heap.size sSystem [a, v] d) (h' : Rd w w.heap.size sWalk [f, s] k) (hz : sz sSystem d ≤ 1048576) (hz' : sz sWalk k ≤ 1048576) :
  Calls Tryz.prog 48 #[.agg #[a, v], .agg #[f, s]] w (AnsList w (endW d.1 d.2 k)) := by
 obtain ⟨W, hW, rA, rW, bel⟩ := box2 w 32 86 #[a, v] #[f, s]
 have HW := hid hW
 have L1 := hid (implWalkOk a v f s d k W (h.next bel) (h'.next bel) hz hz')
 have L2 := hid (fun (w1 : World) (bb : Below w.heap.size w w1) => endImpl f s k w1 (h'.next bb) hz')
 clear hW h h' hz hz'
 cases ok : walkB d.1 d.2 k with
 | false =>
  have HR := hid ok
  clear ok
  go_enter Tryz.func48, Tryz.ntmps48
  go_wp2_with fail
  rw [← HW.out]
  refine L1.out.mono ?_
  rintro e w1 ⟨he, bb⟩
  rw [HR.out] at he
  subst he
  have F := hid (show AnsList w (endW d.1 d.2 k) (.returned (.slice none 0 0)) w1 from ⟨_, 0, 0, rfl, by unfold endW; rw [if_neg (by rw [HR.out]; simp)]; exact Own.nil _ _, next_trans bel bb⟩)
  clear bb bel rA rW L2
  go_wp2
  go_ret
  exact F.out
 | true =>
  have HR := hid ok
  clear ok
  go_enter Tryz.func48, Tryz.ntmps48
  go_wp2_with fail
  rw [← HW.out]
  refine L1.out.mono ?_
  rintro e w1 ⟨he, bb⟩
  rw [HR.out] at he
  subst he
  replace rW := rW.next bb
  replace bel := next_trans bel bb
  have K0 : w1.cell? ⟨w.heap.size + 1, 0, none⟩ = some f := rW.cell 0
  have K1 : w1.cell? ⟨w.heap.size + 1, 1, none⟩ = some s := rW.cell 1
  clear bb L1 rW rA
  go_wp2_with fail
  refine (L2.out w1 bel).mono ?_
  rintro e w2 ⟨X, xn, xc, rfl, hX, bb⟩
  have hend : termOkB d.1 (endL k) = true := by
   obtain ⟨q1, q2, q3, q4⟩ := walk_parts HR.out
   exact (go_ok q2 q4).1
  have hsX := hX.seg
  have hxn : 1 ≤ xn ∧ xn ≤ 60 := by have := term_len hend; have := hsX.1; omega
  obtain ⟨b, off, y, rfl, -, -, -⟩ := hsX.spot (k := 0) (by omega)
  have LC := hid (cloneInts b off xn xc (endL k) w2 (hsX.more bb.size) (by omega))
  replace bel := next_trans bel bb
  clear bb hX hsX hend L2
  go_wp2_with fail
  refine LC.out.mono ?_
  rintro e w3 ⟨Y, yn, yc, rfl, oY, bb⟩
  have F := hid (show AnsList w (endW d.1 d.2 k) (.returned (.slice Y yn yc)) w3 from ⟨Y, yn, yc, rfl, by unfold endW; rw [if_pos HR.out]; exact Own.lower oY bel.size, next_trans bel bb⟩)
  clear oY bb bel LC K0 K1
  go_wp2
  go_ret
  exact F.out
end walkImpl
end
section
namespace concatS
open Go.RowKit base ints sig cursor marks app appAt sym segs shape drawX ownL kindsW
set_option maxRecDepth 100000
theorem Rd.one {w : World} {B : Nat} : ∀ {s : Sh} {cs : List Value} {d : Dat s}, Rd w B s cs d → ∀ u ∈ cs, u.oneCell' = true
 | .num, _, _, h, u, hu => by have h : _ = _ := h; rw [h] at hu; rw [List.mem_singleton.1 hu]; rfl
 | .bit, _, _, h, u, hu => by have h : _ = _ := h; rw [h] at hu; rw [List.mem_singleton.1 hu]; rfl
 | .row _ _, _, _, h, u, hu => by obtain ⟨A, n, c, e, _⟩ := h; rw [e] at hu; rw [List.mem_singleton.1 hu]; rfl
 | .cat a b, _, _, h, u, hu => by
  obtain ⟨ca, cb, e, h1, h2⟩ := h
  rw [e] at hu
  rcases List.mem_append.1 hu with hu | hu
  ·exact Rd.one h1 u hu
  ·exact Rd.one h2 u hu
def Flat (w : World) (B : Nat) (s : Sh) (vs : List Value) (n : Nat) (D : List (Dat s)) : Prop := D.length = n ∧ vs.length = n * nc s ∧ ∀ j, j < n → Rd w B s (cellsOf (nc s) vs j) (D.getD j (dft s))
section
variable {w w' : World} {B n m : Nat} {s : Sh} {vs us : List Value} {D E : List (Dat s)}
theorem Flat.nil (w : World) (B : Nat) (s : Sh) : Flat w B s [] 0 [] := ⟨rfl, by simp, fun j hj => absurd hj (Nat.not_lt_zero _)⟩
theorem Flat.below (h : Flat w B s vs n D) (hb : Below B w w') : Flat w' B s vs n D := ⟨h.1, h.2.1, fun j hj => (h.2.2 j hj).below hb⟩
end
end concatS
end
section
namespace walkImpl
open Go.RowKit base ints sig term termOk endAt endOf marks app sym sub segs segsHelp kinds termFacts same shifted shape drawX kindsR kindsW varsOf ruleMath ruleSpec stepMath walkMath stepSpec walkSpec ownL concatS heldT
set_option maxRecDepth 100000
theorem OwnL.ext {w : World} {lo hi mid hi2 g i c : Nat} {e : TypeId} {s : Sh} {D : List (Dat s)} {es : List Value} {y : Dat s} {cur : Array Value} (h : OwnL w lo hi e s (some ⟨g, 0, none⟩) i c D) (hc : i + 1 ≤ c) (hrow : Row w g e cur) (hcell : ∀ q, q < nc s → cur[i * nc s + q]? = es[q]?) (ho : Owned w mid hi2 s es y) (hmid : hi ≤ mid) (hlo : lo ≤ mid) :
  OwnL w lo w.heap.size e s (some ⟨g, 0, none⟩) (i + 1) c (D ++ [y]) := by
 obtain ⟨h1, h2, vs, G, h3, h4, h5, h6⟩ := h
 obtain ⟨F, hF, hFn, hFb⟩ := ho
 have hel := hF.len
 have c1 : cellsOf (nc s) es 0 = es := by unfold cellsOf; rw [Nat.zero_mul, List.drop_zero, List.take_of_length_le (by omega)]
 refine ownL_app (w' := w) (hi2 := hi2) (mid := mid) (es := es) (E := [y]) (H := fun _ => F) (m := 1) h1 h2 h3 h5 h6 hmid hlo rfl (by simpa using hFn) (fun j hj => ?_) ?_ (World.grownBy.refl _ _) (.inl rfl) (fun e => by cases e)
 ·obtain rfl : j = 0 := by omega
  rw [c1]; exact ⟨hF, fun q hq => hFb q hq⟩
 ·refine ⟨by rw [List.length_append, h3.1, hel, Nat.add_mul, Nat.one_mul], ?_⟩
  rcases h3.2 with ⟨e1, _⟩ | ⟨g', cap, cur', e1, hg, hr, hn, hm, hs, ht⟩
  ·cases e1
  ·injection e1 with a1 a2 a3
   injection a1 with a1
   injection a1 with a1
   subst a1 a3
   have ecur : cur' = cur := by
    unfold Row at hrow
    rw [hr] at hrow
    injection hrow with hrow
    injection hrow
   subst ecur
   refine .inr ⟨g, c, cur', rfl, hg, hr, hc, hm, hs, ?_⟩
   have hvl : vs.length = i * nc s := h3.1
   refine List.ext_getElem? fun z => ?_
   rw [List.getElem?_take, Nat.add_mul, Nat.one_mul]
   by_cases hz : z < i * nc s
   ·rw [if_pos (by omega), List.getElem?_append_left (by omega), ← ht, List.getElem?_take, if_pos hz]
   ·by_cases hz2 : z < i * nc s + nc s
    ·rw [if_pos hz2, List.getElem?_append_right (by omega), hvl, Array.getElem?_toList]
     have := hcell (z - i * nc s) (by omega)
     rwa [show i * nc s + (z - i * nc s) = z by omega] at this
    ·rw [if_neg hz2, List.getElem?_eq_none (by rw [List.length_append]; omega)]
def Suf (wr : World) (A : Option Addr) (n cc B : Nat) (L : List St) (i : Nat) : Prop := ∀ j, i ≤ j → j < n → ∃ g cur U un uc, A = some ⟨g, 0, none⟩ ∧ Row wr g 124 cur ∧ cur.size = cc * 3 ∧ n ≤ cc ∧ cur[j * 3]? = some (.int .i64 (L.getD j (0, 0, [])).1) ∧ cur[j * 3 + 1]? = some (.int .i64 (L.getD j (0, 0, [])).2.1) ∧ cur[j * 3 + 2]? = some (.slice U un uc) ∧ Rd wr B sI [.slice U un uc] (L.getD j (0, 0, [])).2.2
theorem Suf.next {wr w' : World} {A : Option Addr} {n cc B : Nat} {L : List St} {i : Nat} (h : Suf wr A n cc B L i) (hb : Below wr.heap.size wr w') (hB : B ≤ wr.heap.size) : Suf w' A n cc B L i := fun j h1 h2 => by
 obtain ⟨g, cur, U, un, uc, q1, q2, q3, q4, q5, q6, q7, q8⟩ := h j h1 h2
 exact ⟨g, cur, U, un, uc, q1, q2.next hb, q3, q4, q5, q6, q7, q8.below (hb.mono hB)⟩
end walkImpl
end
section
namespace walkX
open Go.RowKit base sig term termOk termFacts segs shape kindsR kindsW ruleMath stepMath walkMath walkSpec walkImpl
end walkX
end
section
namespace lawW
open Go.RowKit base ints sig term termOk termFacts marks app sym segs shape kinds kindsR kindsW fillMath gives filled substOk sub putMath ruleMath stepMath walkMath walkSpec und same matchMath
set_option maxRecDepth 100000
theorem same_yes {w : World} {A A' : Option Addr} {n c m c' : Nat} {xs : List Int} (h : Seg w w.heap.size A n xs) (h' : Seg w w.heap.size A' m xs) (hn : n ≤ 1048576) (hm : m ≤ 1048576) :
  Calls Tryz.prog 46 #[.slice A n c, .slice A' m c'] w (fun e w' => e = .returned (.bool true) ∧ Below w.heap.size w w') :=
 (implSame A A' n m c c' xs xs w h h' hn hm).mono fun _ _ ⟨he, d, hd⟩ => ⟨by rw [he, decide_eq_true rfl], by rw [hd]; exact drewN_below w d⟩
structure Lo (g : Nat) (F Q : Option Addr) (fn fc qn qc : Nat) (k : Wk) (wr : World) : Prop where
 m : Rd wr wr.heap.size sWalk [.slice F fn fc, .slice Q qn qc] k
 r : Row wr g 86 #[.slice F fn fc, .slice Q qn qc]
section
variable {g : Nat} {F Q : Option Addr} {fn fc qn qc : Nat} {k : Wk} {wr w' : World}
theorem Lo.next (h : Lo g F Q fn fc qn qc k wr) (hb : Below wr.heap.size wr w') : Lo g F Q fn fc qn qc k w' := ⟨h.m.next hb, h.r.next hb⟩
theorem Lo.c0 (h : Lo g F Q fn fc qn qc k wr) : wr.cell? ⟨g, 0, none⟩ = some (.slice F fn fc) := h.r.cell 0
theorem Lo.c1 (h : Lo g F Q fn fc qn qc k wr) : wr.cell? ⟨g, 1, none⟩ = some (.slice Q qn qc) := h.r.cell 1
theorem Lo.steps (h : Lo g F Q fn fc qn qc k wr) : Rd wr wr.heap.size sStepS [.slice Q qn qc] k.2 := (parts_Walk h.m).2
theorem Lo.len (h : Lo g F Q fn fc qn qc k wr) : k.2.length = qn := by
 obtain ⟨A, c, e, -⟩ := h.steps.slice
 injection e with _ e
 exact e.symm
theorem Lo.cap (h : Lo g F Q fn fc qn qc k wr) : Cap Q qn qc := by
 obtain ⟨A, c, e, hc⟩ := h.steps.slice
 injection e with e1 e2 e3
 rw [e1, e2, e3]
 exact hc
end
structure Un (g1 g2 g3 : Nat) (S : Option Addr) (sn sc : Nat) (R : Option Addr) (rn rc : Nat) (d : Dat sSystem) (F Q : Option Addr) (fn fc qn qc : Nat) (k : Wk) (B : Option Addr) (m cB : Nat) (ss : Dat Go.Proofs.YtlaloakegajheaaGreat.kindsT.sSubst) (wr : World) : Prop where
 s : Rd wr wr.heap.size sSystem [.slice S sn sc, .slice R rn rc] d
 r : Row wr g1 32 #[.slice S sn sc, .slice R rn rc]
 lo : Lo g2 F Q fn fc qn qc k wr
 x : Rd wr wr.heap.size Go.Proofs.YtlaloakegajheaaGreat.kindsT.sSubst [.slice B m cB] ss
 rx : Row wr g3 52 #[.slice B m cB]
theorem Un.next {g1 g2 g3 : Nat} {S : Option Addr} {sn sc : Nat} {R : Option Addr} {rn rc : Nat} {d : Dat sSystem} {F Q : Option Addr} {fn fc qn qc : Nat} {k : Wk} {B : Option Addr} {m cB : Nat} {ss : Dat Go.Proofs.YtlaloakegajheaaGreat.kindsT.sSubst} {wr w' : World} (h : Un g1 g2 g3 S sn sc R rn rc d F Q fn fc qn qc k B m cB ss wr) (hb : Below wr.heap.size wr w') : Un g1 g2 g3 S sn sc R rn rc d F Q fn fc qn qc k B m cB ss w' :=
 ⟨h.s.next hb, h.r.next hb, h.lo.next hb, h.x.next hb, h.rx.next hb⟩
section
variable {sg : List Int} {rs : List Rl} {k : Wk}
end
end lawW
end
section
open Go.Lib (hid)
open List (setIfInBounds_toArray set_cons_zero set_cons_succ getElem_toArray getElem_cons_zero getElem_cons_succ)
namespace drawL9
open Go.RowKit base ruleMath ruleSpec ints sig term termOk termFacts cursor marks app appAt sym segs segsHelp kinds dice drawTerm drawAny drawSub drawTwo drawX drawRule drawKnown drawSys drawSysD drawL7 heldT
open shape (Sh Dat nc dft sI sz sz_ints rd_ints)
open kindsR (sRule sSystem sRuleS sSig)
set_option maxRecDepth 100000
theorem min20 (w : World) : Calls Tryz.prog 196 #[.int .i64 20, .int .i64 4] w fun e w' => w = w' ∧ e = .returned (.int .i64 4) := by
 go_enter Tryz.func196, Tryz.ntmps196
 go_wp2
 go_ret
 exact ⟨rfl, rfl⟩
set_option maxHeartbeats 1000000 in
theorem num20 (p : Nat) (A : Option Addr) (n c : Nat) (w : World) (hd : Dice w p A n c) :
  Calls Tryz.prog 155 #[.pointer (some ⟨p, 0, none⟩), .int .i64 20] w (AnsAny w p A n c) := by
 have L := hid (once p A n c 10 w hd (by omega) (by omega))
 go_enter Tryz.func155, Tryz.ntmps155
 go_wp2_with fail
 refine L.out.mono ?_
 rintro e w1 ⟨b, rfl, d1, g1⟩
 have HG := hid g1
 clear L g1
 cases b with
 | true =>
  go_wp2_with fail
  refine (odd p A n c w1 d1).mono ?_
  rintro e w2 ⟨y, rfl, d2, g2⟩
  have HG2 := hid (HG.out.trans g2)
  obtain ⟨W, hW⟩ : ∃ W, W = w2.alloc (.cells #[.int .i64 (-1), .int .i64 20, .int .i64 21, .int .i64 y] 2) := ⟨_, rfl⟩
  have r3 : Row W w2.heap.size 2 #[.int .i64 (-1), .int .i64 20, .int .i64 21, .int .i64 y] := by rw [hW]; exact Row.new _ _ _
  have b3 : Below w2.heap.size w2 W := by rw [hW]; exact (Below.refl _ _).alloc (Nat.le_refl _) _
  have d3 := d2.next b3
  have hp2 := d2.lt
  have HW := hid hW
  clear g2 HG d1 d2 hW
  have L4 := hid (below p A n c 4 W d3 (by omega) (by omega))
  go_wp2_with fail
  rw [← HW.out]
  refine L4.out.mono ?_
  rintro e w4 ⟨x, rfl, x0, x1, d4, g4⟩
  have r4 := Row.away r3 g4 (fun e => by injection e with e; omega)
  have HG4 := hid ((HG2.out.trans (grown_of_below b3 (some p))).trans g4)
  have HD4 := hid d4
  have q0 : w4.cell? ⟨w2.heap.size, 0, none⟩ = some (.int .i64 (-1)) := r4.cell 0
  have q1 : w4.cell? ⟨w2.heap.size, 1, none⟩ = some (.int .i64 20) := r4.cell 1
  have q2 : w4.cell? ⟨w2.heap.size, 2, none⟩ = some (.int .i64 21) := r4.cell 2
  have q3 : w4.cell? ⟨w2.heap.size, 3, none⟩ = some (.int .i64 y) := r4.cell 3
  have hx : x = 0 ∨ x = 1 ∨ x = 2 ∨ x = 3 := by omega
  clear x0 x1 d4 g4 r4 r3 b3 d3 HW L4 HG2
  rcases hx with rfl | rfl | rfl | rfl <;> (go_wp2; go_ret; exact ⟨_, rfl, HD4.out, HG4.out⟩)
 | false =>
  go_wp2_with fail
  refine (once p A n c 2 w1 d1 (by omega) (by omega)).mono ?_
  rintro e w2 ⟨b2, rfl, d2, g2⟩
  have HG2 := hid (HG.out.trans g2)
  clear g2 d1 HG
  cases b2 with
  | true =>
   go_wp2_with fail
   refine (min20 w2).mono ?_
   rintro e w3 ⟨rfl, rfl⟩
   go_wp2_with fail
   refine (below p A n c 5 w2 d2 (by omega) (by omega)).mono ?_
   rintro e w4 ⟨x, rfl, -, -, d4, g4⟩
   have F := hid (show AnsAny w p A n c (.returned (.int .i64 x)) w4 from ⟨x, rfl, d4, HG2.out.trans g4⟩)
   clear d4 g4 HG2 d2
   go_wp2
   go_ret
   exact F.out
  | false =>
   go_wp2_with fail
   refine (below p A n c 21 w2 d2 (by omega) (by omega)).mono ?_
   rintro e w4 ⟨x, rfl, -, -, d4, g4⟩
   have F := hid (show AnsAny w p A n c (.returned (.int .i64 x)) w4 from ⟨x, rfl, d4, HG2.out.trans g4⟩)
   clear d4 g4 HG2 d2
   go_wp2
   go_ret
   exact F.out
set_option maxHeartbeats 1000000 in
theorem drawSteps9 (p : Nat) (A : Option Addr) (n c : Nat) (w : World) (hd : Dice w p A n c) :
  Calls Tryz.prog 101 #[.pointer (some ⟨p, 0, none⟩)] w (AnsAny w p A n c) := by
 have L := hid (once p A n c 12 w hd (by omega) (by omega))
 go_enter Tryz.func101, Tryz.ntmps101
 go_wp2_with fail
 refine L.out.mono ?_
 rintro e w1 ⟨b, rfl, d1, g1⟩
 have HG := hid g1
 clear L g1
 cases b with
 | true =>
  go_wp2_with fail
  refine (num20 p A n c w1 d1).mono ?_
  rintro e w2 ⟨x, rfl, d2, g2⟩
  have F := hid (show AnsAny w p A n c (.returned (.int .i64 x)) w2 from ⟨x, rfl, d2, HG.out.trans g2⟩)
  clear d2 g2 HG d1
  go_wp2
  go_ret
  exact F.out
 | false =>
  go_wp2_with fail
  refine (below p A n c 5 w1 d1 (by omega) (by omega)).mono ?_
  rintro e w2 ⟨x, rfl, x0, x1, d2, g2⟩
  have F := hid (show AnsAny w p A n c (.returned (.int .i64 x)) w2 from ⟨x, rfl, d2, HG.out.trans g2⟩)
  clear x0 x1 d2 g2 HG d1
  go_wp2
  go_ret
  exact F.out
def AnsST5 (w : World) (e : Ending) (w' : World) : Prop :=
 ∃ S sn sc R rn rc d O on oc t f, e = .returned (.tuple #[.agg #[.slice S sn sc, .slice R rn rc], .slice O on oc, .int .i64 f]) ∧ Go.Proofs.YtlaloakegajheaaGreat.shape.Rd w' w'.heap.size sSystem [.slice S sn sc, .slice R rn rc] d ∧ Go.Proofs.YtlaloakegajheaaGreat.shape.sz sSystem d ≤ 2000 ∧ Go.Proofs.YtlaloakegajheaaGreat.shape.Rd w' w'.heap.size sI [.slice O on oc] t ∧ List.length t ≤ 65 ∧ Below w.heap.size w w'
set_option maxHeartbeats 4000000 in
theorem drawReachOf (A : Option Addr) (n c : Nat) (w : World) (h : SegB w w.heap.size A n) (hn : n ≤ 4096) :
  Calls Tryz.prog 42 #[.slice A n c] w (AnsST5 w) := by
 obtain ⟨W, hW, rN, b0⟩ := box1 w 32 #[.slice none 0 0, .slice none 0 0]
 have h0 : SegB W W.heap.size A n := fun hp => by
  obtain ⟨b, off, e, hb, hc⟩ := h hp
  refine ⟨b, off, e, Nat.lt_of_lt_of_le hb b0.size, fun j hj => ?_⟩
  obtain ⟨x, x0, x1, hx⟩ := hc j hj
  exact ⟨x, x0, x1, (b0.cell (p := ⟨b, off + j, none⟩) hb).trans hx⟩
 have L := hid (new_ A n c W h0 hn)
 have HW := hid hW
 clear h h0 hW
 go_enter Tryz.func42, Tryz.ntmps42
 go_wp2_with fail
 rw [← HW.out]
 refine L.out.mono ?_
 rintro e w1 ⟨p, rfl, hp, d1, bb⟩
 have hNp : w.heap.size < p := Nat.lt_of_lt_of_le rN.lt hp
 replace rN := rN.next bb
 have bel := next_trans b0 bb
 have L2 := hid (l7Draw p A n c w1 d1)
 have hp1 := d1.lt
 clear d1 bb b0 L HW
 go_wp2_with fail
 refine L2.out.mono ?_
 rintro e w2 ⟨S, sn, sc, sg, R, rn, rc, D, O, on, oc, t, rfl, T⟩
 have hz := rN.lt
 have rN1 := Row.away rN T.g (fun e => by injection e with e; omega)
 have zW1 : w1.heap.size ≤ w2.heap.size := T.g.size
 have bel2 : Below w.heap.size w w2 := bel.grown T.g bel.size (fun k hk => by injection hk with hk; omega)
 obtain ⟨W2, hW2, r2, b2⟩ := box1 w2 32 #[.slice S sn sc, .slice R rn rc]
 have zo : w2.heap.size < W2.heap.size := r2.lt
 have HW2 := hid hW2
 have BD := drew_below W2
 have HQ := hid (show St w1 p w1.heap.size A n c S sn sc sg R rn rc D O on oc t W2.drew ∧ Row W2.drew w.heap.size 32 #[.slice none 0 0, .slice none 0 0] ∧ Row W2.drew w2.heap.size 32 #[.slice S sn sc, .slice R rn rc] ∧ Below w.heap.size w W2.drew from ⟨(T.next b2).next BD, (rN1.next b2).next BD, r2.next BD, next_trans (next_trans bel2 b2) BD⟩)
 have LF := hid (drawSteps9 p A n c W2.drew HQ.out.1.di)
 have c0 : W2.drew.cell? ⟨w2.heap.size, 0, none⟩ = some (.slice S sn sc) := HQ.out.2.2.1.cell 0
 have c1 : W2.drew.cell? ⟨w2.heap.size, 1, none⟩ = some (.slice R rn rc) := HQ.out.2.2.1.cell 1
 clear T rN rN1 b2 r2 hW2 L2 bel bel2 BD
 go_upto_region 3 with fail
 rw [← HW2.out]
 generalize w2.heap.size = o at *
 refine AnyT.start (S := (fun w' => w'.cell? ⟨o, 0, none⟩ = some (.slice S sn sc) ∧ w'.cell? ⟨o, 1, none⟩ = some (.slice R rn rc))) (fun _ => false) (by kernel_rfl) ⟨c0, c1⟩ (fun hHeld => ?_)
 refine AnyT.take (i := 0) (v := ?_) rfl (by kernel_rfl) (by kernel_rfl) (by kernel_rfl) (by kernel_rfl) (fun _ _ _ h => h) (Or.inl ⟨by rfl, ?_⟩) (by assumption) ?_
 rotate_left 1
 ·(intro w0 hSw; (try dsimp only at hSw); go_simp; try with_reducible rfl)
 try simp only [Act.put, setIfInBounds_toArray, set_cons_zero, set_cons_succ, getElem_toArray, getElem_cons_zero, getElem_cons_succ]
 refine AnyT.takeA (i := 1) (v := ?_) rfl (by kernel_rfl) (by kernel_rfl) (by kernel_rfl) (fun _ _ _ h => h) (Or.inl ⟨by rfl, ?_⟩) ?_
 rotate_left 1
 ·(intro w0 _; go_simp; try with_reducible rfl)
 try simp only [Act.put, setIfInBounds_toArray, set_cons_zero, set_cons_succ, getElem_toArray, getElem_cons_zero, getElem_cons_succ]
 refine AnyT.takeA (i := 2) (v := ?_) rfl (by kernel_rfl) (by kernel_rfl) (by kernel_rfl) (fun _ _ _ h => h) (Or.inl ⟨by rfl, ?_⟩) ?_
 rotate_left 1
 ·(intro w0 _; go_simp; try with_reducible rfl)
 try simp only [Act.put, setIfInBounds_toArray, set_cons_zero, set_cons_succ, getElem_toArray, getElem_cons_zero, getElem_cons_succ]
 refine AnyT.call (i := 3) (by kernel_rfl) rfl (fun K hK => ?_)
 try simp only [Act.put, setIfInBounds_toArray, set_cons_zero, set_cons_succ, getElem_toArray, getElem_cons_zero, getElem_cons_succ]
 rw [if_pos (by rfl)]
 go_simp
 (go_at_call 101; refine LF.out.mono ?_; rintro e w3 ⟨f, rfl, d3, g3⟩; have rM := Row.away HQ.out.2.1 g3 (fun e => by injection e with e; omega); have rO := Row.away HQ.out.2.2.1 g3 (fun e => by injection e with e; omega); have e0 : w3.cell? ⟨o, 0, none⟩ = some (.slice S sn sc) := rO.cell 0; have e1 : w3.cell? ⟨o, 1, none⟩ = some (.slice R rn rc) := rO.cell 1; go_wp2_with fail)
 refine hK.out _ _ (fun _ _ => ?_) (fun hKeep => ?_)
 ·exact ⟨e0, e1⟩
 replace hHeld := hKeep (by first | rfl | trivial) hHeld
 clear hK K hKeep
 try simp only [Act.put, setIfInBounds_toArray, set_cons_zero, set_cons_succ, getElem_toArray, getElem_cons_zero, getElem_cons_succ]
 have y0 : w3.cell? ⟨w.heap.size, 0, none⟩ = some (.slice none 0 0) := rM.cell 0
 have y1 : w3.cell? ⟨w.heap.size, 1, none⟩ = some (.slice none 0 0) := rM.cell 1
 have g0 := rM.free 0
 have g1 := rM.free 1
 have ra := rM.put 0 (.slice S sn sc)
 have y2 : (w3.setCell ⟨w.heap.size, 0, none⟩ (.slice S sn sc)).cell? ⟨w.heap.size, 1, none⟩ = some (.slice none 0 0) := ra.cell 1
 have g2 := ra.free 1
 have rb := ra.put 1 (.slice R rn rc)
 have u0 : ((w3.setCell ⟨w.heap.size, 0, none⟩ (.slice S sn sc)).setCell ⟨w.heap.size, 1, none⟩ (.slice R rn rc)).cell? ⟨w.heap.size, 0, none⟩ = some (.slice S sn sc) := rb.cell 0
 have u1 : ((w3.setCell ⟨w.heap.size, 0, none⟩ (.slice S sn sc)).setCell ⟨w.heap.size, 1, none⟩ (.slice R rn rc)).cell? ⟨w.heap.size, 1, none⟩ = some (.slice R rn rc) := rb.cell 1
 have T3 : St w1 p w1.heap.size A n c S sn sc sg R rn rc D O on oc t w3 := HQ.out.1.dice d3 g3 (by omega)
 have s2 := ints_put (ints_put T3.s rM 0 (.slice S sn sc)) ra 1 (.slice R rn rc)
 have hne : blk R ≠ some w.heap.size := fun e => by have := (T3.own.ge _ e).1; omega
 have o2 := ownQ_put (ownQ_put T3.own rM hne 0 (.slice S sn sc)) ra hne 1 (.slice R rn rc)
 have t2 := rdT_put (i := 1) (u := .slice R rn rc) (rdT_put (i := 0) (u := .slice S sn sc) T3.t rM) ra
 have bel3 : Below w.heap.size w w3 := HQ.out.2.2.2.grown g3 HQ.out.2.2.2.size (fun k hk => by injection hk with hk; omega)
 have F := hid (show AnsST5 w (.returned (.tuple #[.agg #[.slice S sn sc, .slice R rn rc], .slice O on oc, .int .i64 f])) ((w3.setCell ⟨w.heap.size, 0, none⟩ (.slice S sn sc)).setCell ⟨w.heap.size, 1, none⟩ (.slice R rn rc)) from
  ⟨_, _, _, _, _, _, ((sg, D) : List Int × List (Dat sRule)), _, _, _, t, f, rfl, RdQ.rd (Q := Out _ p) (fun b hb => hb.1) (RdQ.cat (ca := [_]) (cb := [_]) (s2.mono fun b hb => ⟨hb.1, hb.2.1⟩) (o2.rdq hp1)), T3.sz, rd_ints.2 ⟨O, on, oc, rfl, t2.seg, T3.ct⟩, by have := T3.t.1; have := T3.h65; omega, (bel3.setCell (p := ⟨w.heap.size, 0, none⟩) (Nat.le_refl _) _).setCell (p := ⟨w.heap.size, 1, none⟩) (Nat.le_refl _) _⟩)
 have a0 := (rO.far (show o ≠ w.heap.size by omega) (p := ⟨w.heap.size, 0, none⟩) (.slice S sn sc)).far (show o ≠ w.heap.size by omega) (p := ⟨w.heap.size, 1, none⟩) (.slice R rn rc)
 have HA0 := hid a0
 clear T3 s2 hne o2 t2 ra rb rM rO a0 d3 g3 HQ bel3
 refine AnyT.call (i := 4) (by kernel_rfl) rfl (fun K hK => ?_)
 try simp only [Act.put, setIfInBounds_toArray, set_cons_zero, set_cons_succ, getElem_toArray, getElem_cons_zero, getElem_cons_succ]
 rw [if_pos (by rfl)]
 go_simp
 refine hK.out _ _ (fun _ _ => ?_) (fun hKeep => ?_)
 ·exact ⟨HA0.out.cell 0, HA0.out.cell 1⟩
 replace hHeld := hKeep (by first | rfl | trivial) hHeld
 clear hK K hKeep
 try simp only [Act.put, setIfInBounds_toArray, set_cons_zero, set_cons_succ, getElem_toArray, getElem_cons_zero, getElem_cons_succ]
 refine AnyT.takeA (i := 5) (v := ?_) rfl (by kernel_rfl) (by kernel_rfl) (by kernel_rfl) (fun _ _ _ h => h) (Or.inl ⟨by rfl, ?_⟩) ?_
 rotate_left 1
 ·(intro w0 _; go_simp; try with_reducible rfl)
 try simp only [Act.put, setIfInBounds_toArray, set_cons_zero, set_cons_succ, getElem_toArray, getElem_cons_zero, getElem_cons_succ]
 refine AnyT.takeA (i := 6) (v := ?_) rfl (by kernel_rfl) (by kernel_rfl) (by kernel_rfl) (fun _ _ _ h => h) (Or.inl ⟨by rfl, ?_⟩) ?_
 rotate_left 1
 ·(intro w0 _; go_simp; try with_reducible rfl)
 try simp only [Act.put, setIfInBounds_toArray, set_cons_zero, set_cons_succ, getElem_toArray, getElem_cons_zero, getElem_cons_succ]
 refine AnyT.done (by kernel_rfl) ?_ _
 clear e0 e1 c0 c1
 go_wp2
 exact bodyPost_ret (v := .tuple #[.agg #[.slice S sn sc, .slice R rn rc], .slice O on oc, .int .i64 f]) (by simp [results, Tryz.results42, go_sem, u0, u1]) rfl F.out
end drawL9
end
section
namespace rolls
open Go.RowKit base ints cursor dice
structure RollAt (w : World) (p : Nat) (A : Option Addr) (n c i : Nat) (h : Int) : Prop where
 row : Row w p 95 #[.slice A n c, .int .i64 i, .int .u64 h]
 le : i ≤ n
 s : SegB w p A n
 hn : n ≤ 4096
section
variable {w w' : World} {p : Nat} {A : Option Addr} {n c i : Nat} {h : Int}
theorem RollAt.drewN (d : RollAt w p A n c i h) (k : Nat) : RollAt (w.drewN k) p A n c i h := ⟨d.row, d.le, d.s, d.hn⟩
theorem RollAt.drew (d : RollAt w p A n c i h) : RollAt w.drew p A n c i h := ⟨d.row, d.le, d.s, d.hn⟩
theorem RollAt.setH (d : RollAt w p A n c i h) (h' : Int) : RollAt (w.setCell ⟨p, 2, none⟩ (.int .u64 h')) p A n c i h' :=
 ⟨d.row.put 2 _, d.le, d.s.keep fun q hq => World.cell?_setCell_other w _ q _ (fun e => by subst e; exact Nat.lt_irrefl _ hq), d.hn⟩
end
theorem and24 (n : Int) : 0 ≤ bits .and .u64 n 16777215 ∧ bits .and .u64 n 16777215 ≤ 16777215 := by
 have h255 : (BitVec.ofInt 64 16777215).toNat = 2 ^ 24 - 1 := by decide
 have key : (BitVec.ofInt 64 n &&& BitVec.ofInt 64 16777215).toNat = (n % ((2 ^ 64 : Nat) : Int)).toNat % 2 ^ 24 := by
  rw [BitVec.toNat_and, BitVec.toNat_ofInt, h255, Nat.and_two_pow_sub_one_eq_mod]
 have e : bits .and .u64 n 16777215 = IntKind.u64.wrap ((BitVec.ofInt 64 n &&& BitVec.ofInt 64 16777215).toNat : Nat) := rfl
 rw [e, key, IntKind.wrap_u64]
 omega
def AnsRoll (w : World) (A : Option Addr) (n c : Nat) (e : Ending) (w' : World) : Prop := ∃ p h, e = .returned (.pointer (some ⟨p, 0, none⟩)) ∧ w.heap.size ≤ p ∧ RollAt w' p A n c 0 h ∧ Below w.heap.size w w'
set_option maxHeartbeats 2000000 in
theorem roll (A : Option Addr) (n c : Nat) (w : World) (hs : SegB w w.heap.size A n) (hn : n ≤ 4096) :
  Calls Tryz.prog 8 #[.slice A n c, .int .u64 701] w (AnsRoll w A n c) := by
 go_enter Tryz.func8, Tryz.ntmps8
 go_wp2_with fail
 go_loopw [6] (fun i wr => ∃ (k : Nat) (h : Int), k ≤ n ∧ i = .int .i64 k ∧ RollAt wr w.heap.size A n c 0 h ∧ Below w.heap.size w wr) (fun i _ => n - (intOf i).toNat)
 case atStart => exact ⟨0, _, Nat.zero_le _, rfl, ⟨Row.new _ _ _, Nat.zero_le _, hs.keep (fun q hq => World.cell?_alloc_lt w _ q hq), hn⟩, (Below.refl _ _).alloc (Nat.le_refl _) _⟩
 case round =>
  obtain ⟨k, h, hk, rfl, R, B⟩ := hrel
  have c0 : wr.cell? ⟨w.heap.size, 0, none⟩ = some (.slice A n c) := R.row.cell 0
  have c1 : wr.cell? ⟨w.heap.size, 1, none⟩ = some (.int .i64 0) := R.row.cell 1
  have c2 : wr.cell? ⟨w.heap.size, 2, none⟩ = some (.int .u64 h) := R.row.cell 2
  have f2 : wr.frozen? ⟨w.heap.size, 2, none⟩ = false := R.row.free 2
  by_cases hlt : k < n
  ·obtain ⟨b, off, rfl, hb, hc⟩ := R.s (by omega)
   obtain ⟨y, hy0, hy1, hy⟩ := hc k hlt
   have hne : b ≠ w.heap.size := by omega
   have i0 : (0 : Int) ≤ (k : Int) := by omega
   have i1 : (k : Int) < (n : Int) := by omega
   have HR := Lib.hid R
   have HB := Lib.hid B
   clear hc R B
   go_wp2_with fail
   go_region
   all_goals
    go_wp2
    go_roundw
    case rel =>
     first
      | exact ⟨k + 1, _, hlt, by go_num, (HR.out.setH _).drew, (HB.out.setCell (p := ⟨w.heap.size, 2, none⟩) (Nat.le_refl _) _).drew⟩
      | exact ⟨k + 1, _, hlt, by go_num, HR.out.drew.setH _, HB.out.drew.setCell (p := ⟨w.heap.size, 2, none⟩) (Nat.le_refl _) _⟩
    case measure => simp [intOf]; omega
  ·have F : AnsRoll w A n c (.returned (.pointer (some ⟨w.heap.size, 0, none⟩))) wr := ⟨_, h, rfl, Nat.le_refl _, R, B⟩
   have HF := Lib.hid F
   clear F R B c0 c1 c2 f2
   go_wp2
   go_ret
   exact HF.out
end rolls
end
section
namespace rolls9
open Go.RowKit base ints cursor dice rolls
set_option maxHeartbeats 2000000 in
theorem roll (A : Option Addr) (n c : Nat) (w : World) (hs : SegB w w.heap.size A n) (hn : n ≤ 4096) :
  Calls Tryz.prog 8 #[.slice A n c, .int .u64 702] w (AnsRoll w A n c) := by
 go_enter Tryz.func8, Tryz.ntmps8
 go_wp2_with fail
 go_loopw [6] (fun i wr => ∃ (k : Nat) (h : Int), k ≤ n ∧ i = .int .i64 k ∧ RollAt wr w.heap.size A n c 0 h ∧ Below w.heap.size w wr) (fun i _ => n - (intOf i).toNat)
 case atStart => exact ⟨0, _, Nat.zero_le _, rfl, ⟨Row.new _ _ _, Nat.zero_le _, hs.keep (fun q hq => World.cell?_alloc_lt w _ q hq), hn⟩, (Below.refl _ _).alloc (Nat.le_refl _) _⟩
 case round =>
  obtain ⟨k, h, hk, rfl, R, B⟩ := hrel
  have c0 : wr.cell? ⟨w.heap.size, 0, none⟩ = some (.slice A n c) := R.row.cell 0
  have c1 : wr.cell? ⟨w.heap.size, 1, none⟩ = some (.int .i64 0) := R.row.cell 1
  have c2 : wr.cell? ⟨w.heap.size, 2, none⟩ = some (.int .u64 h) := R.row.cell 2
  have f2 : wr.frozen? ⟨w.heap.size, 2, none⟩ = false := R.row.free 2
  by_cases hlt : k < n
  ·obtain ⟨b, off, rfl, hb, hc⟩ := R.s (by omega)
   obtain ⟨y, hy0, hy1, hy⟩ := hc k hlt
   have hne : b ≠ w.heap.size := by omega
   have i0 : (0 : Int) ≤ (k : Int) := by omega
   have i1 : (k : Int) < (n : Int) := by omega
   have HR := Lib.hid R
   have HB := Lib.hid B
   clear hc R B
   go_wp2_with fail
   go_region
   all_goals
    go_wp2
    go_roundw
    case rel =>
     first
      | exact ⟨k + 1, _, hlt, by go_num, (HR.out.setH _).drew, (HB.out.setCell (p := ⟨w.heap.size, 2, none⟩) (Nat.le_refl _) _).drew⟩
      | exact ⟨k + 1, _, hlt, by go_num, HR.out.drew.setH _, HB.out.drew.setCell (p := ⟨w.heap.size, 2, none⟩) (Nat.le_refl _) _⟩
    case measure => simp [intOf]; omega
  ·have F : AnsRoll w A n c (.returned (.pointer (some ⟨w.heap.size, 0, none⟩))) wr := ⟨_, h, rfl, Nat.le_refl _, R, B⟩
   have HF := Lib.hid F
   clear F R B c0 c1 c2 f2
   go_wp2
   go_ret
   exact HF.out
theorem setI {w : World} {p : Nat} {A : Option Addr} {n c i : Nat} {h : Int} (d : RollAt w p A n c i h) (hi : i < n) : RollAt (w.setCell ⟨p, 1, none⟩ (.int .i64 ((i : Int) + 1))) p A n c (i + 1) h :=
 ⟨by have := d.row.put 1 (.int .i64 ((i : Int) + 1)); simpa using this, hi, d.s.keep fun q hq => World.cell?_setCell_other w _ q _ (fun e => by subst e; exact Nat.lt_irrefl _ hq), d.hn⟩
def AnsBelow9 (w : World) (p : Nat) (A : Option Addr) (n c : Nat) (N : Int) (e : Ending) (w' : World) : Prop := ∃ (x : Int) (i : Nat) (h : Int), e = .returned (.int .i64 x) ∧ 0 ≤ x ∧ x < N ∧ RollAt w' p A n c i h ∧ w.grownBy w' (some p)
set_option maxHeartbeats 2000000 in
theorem rollBelow9 (p : Nat) (A : Option Addr) (n c i : Nat) (h N : Int) (w : World) (R : RollAt w p A n c i h) (h1 : 1 ≤ N) (h2 : N ≤ 256) :
  Calls Tryz.prog 18 #[.pointer (some ⟨p, 0, none⟩), .int .i64 N] w (AnsBelow9 w p A n c N) := by
 have c0 : w.cell? ⟨p, 0, none⟩ = some (.slice A n c) := R.row.cell 0
 have c1 : w.cell? ⟨p, 1, none⟩ = some (.int .i64 i) := R.row.cell 1
 have c2 : w.cell? ⟨p, 2, none⟩ = some (.int .u64 h) := R.row.cell 2
 have f1 : w.frozen? ⟨p, 1, none⟩ = false := R.row.free 1
 have f2 : w.frozen? ⟨p, 2, none⟩ = false := R.row.free 2
 have HG := Lib.hid (World.grownBy.refl w (some p))
 have hn := R.hn
 have HR := Lib.hid R
 by_cases hlt : i < n
 ·obtain ⟨b, off, rfl, hb, hc⟩ := R.s (by omega)
  obtain ⟨y, hy0, hy1, hy⟩ := hc i hlt
  have hne : b ≠ p := by omega
  have i0 : (0 : Int) ≤ (i : Int) := by omega
  have i1 : (i : Int) < (n : Int) := by omega
  clear hc R
  go_enter Tryz.func18, Tryz.ntmps18
  go_wp2_with fail
  have hz := and24 (IntKind.u64.wrap (IntKind.u64.wrap (h * 6364136223846793005) + 1442695040888963407) / 8589934592)
  generalize bits .and .u64 (IntKind.u64.wrap (IntKind.u64.wrap (h * 6364136223846793005) + 1442695040888963407) / 8589934592) 16777215 = Z at *
  rw [IntWalk.wrap64_in Z (by omega)]
  have hz0 := hz.1
  have hz1 := hz.2
  have HM := Lib.hid (fun d : Int => (show 0 ≤ d % N ∧ d % N < N from ⟨Int.emod_nonneg _ (by omega), Int.emod_lt_of_pos _ (by omega)⟩))
  clear hz
  go_quiet (fail)
  go_wp2_with fail
  go_quiet (fail)
  go_wp2
  go_ret
  exact ⟨_, i + 1, _, rfl, (HM.out _).1, (HM.out _).2, setI (((HR.out.setH _).drewN _)) hlt, grown_put (grown_drewN (grown_put HG.out _ _) _) _ _⟩
 ·have i2 : decide (i < n) = false := by simp; omega
  clear R
  go_enter Tryz.func18, Tryz.ntmps18
  go_wp2_with fail
  have hz := and24 (IntKind.u64.wrap (IntKind.u64.wrap (h * 6364136223846793005) + 1442695040888963407) / 8589934592)
  generalize bits .and .u64 (IntKind.u64.wrap (IntKind.u64.wrap (h * 6364136223846793005) + 1442695040888963407) / 8589934592) 16777215 = Z at *
  rw [IntWalk.wrap64_in Z (by omega)]
  have hz0 := hz.1
  have hz1 := hz.2
  have HM := Lib.hid (fun d : Int => (show 0 ≤ d % N ∧ d % N < N from ⟨Int.emod_nonneg _ (by omega), Int.emod_lt_of_pos _ (by omega)⟩))
  clear hz
  go_quiet (fail)
  go_wp2
  go_ret
  exact ⟨_, i, _, rfl, (HM.out _).1, (HM.out _).2, (HR.out.setH _).drewN _, grown_drewN (grown_put HG.out _ _) _⟩
end rolls9
end
section
namespace orderMath
open sig term termOk termFacts ruleMath stepMath walkMath stepsMath
def hasR (sg : List Int) (rs : List Rl) (t : List Int) (a : Nat) : Bool := rs.any fun x => redB sg x t a
def ruleF (sg : List Int) (rs : List Rl) (t : List Int) (a : Nat) : Int := match rs.findIdx? (fun x => redB sg x t a) with
 | some r => (r : Int)
 | none => -1
def plN (sg : List Int) (rs : List Rl) (t : List Int) (n : Nat) : List Int := ((List.range n).filter (hasR sg rs t)).map fun a : Nat => (a : Int)
def placesL (sg : List Int) (rs : List Rl) (t : List Int) : List Int := plN sg rs t t.length
def inN (E : Int → Int) (l : List Int) (i : Nat) : List Int := ((List.range i).filter fun k => decide (k + 1 = l.length ∨ E (l.getD k 0) ≤ l.getD (k + 1) 0)).map fun k => l.getD k 0
def inL (E : Int → Int) (l : List Int) : List Int := inN E l l.length
def endR (sg t : List Int) (a : Int) : Int := endI sg t a.toNat
def selL (sg : List Int) (rs : List Rl) (t : List Int) (s : Int) : List Int := if s = 1 then inL (endR sg t) (placesL sg rs t) else if s = 2 then placesL sg rs t else (placesL sg rs t).reverse
def stratB (s : Int) : Bool := decide (1 ≤ s ∧ s ≤ 3)
def fuelB (f : Int) : Bool := decide (0 ≤ f ∧ f ≤ 60)
def pickL (sg : List Int) (rs : List Rl) (t : List Int) (s : Int) : Option (Int × Int) := (selL sg rs t s).head?.map fun a => (a, ruleF sg rs t a.toNat)
def runS (sg : List Int) (rs : List Rl) (s : Int) : Nat → List Int → List St
 | 0, _ => []
 | f + 1, t => match pickL sg rs t s with
  | none => []
  | some p => match stepAtO sg rs t p.1 p.2 with
   | none => []
   | some v => (p.1, p.2, v) :: runS sg rs s f v
def byB (sg : List Int) (rs : List Rl) (t : List Int) (s f : Int) : Bool := rightB sg rs t && (stratB s && fuelB f)
def byD (sg : List Int) (rs : List Rl) (t : List Int) (s f : Int) : Bool := byB sg rs t s f && normalB sg rs (endL (t, runS sg rs s f.toNat t))
section
variable {sg : List Int} {rs : List Rl} {t : List Int}
end
end orderMath
end
section
namespace orderMath
open sig term termOk termFacts ruleMath stepMath walkMath stepsMath
section
variable {E : Int → Int} {l : List Int}
end
section
variable {sg : List Int} {rs : List Rl} {t : List Int}
end
section
variable {sg : List Int} {rs : List Rl} {s : Int} {F i : Nat} {t u v : List Int} {L : List St}
end
section
variable {sg : List Int} {rs : List Rl} {t : List Int}
end
end orderMath
end
section
namespace reachMath
open sig term termOk termFacts ruleMath stepMath walkMath stepsMath orderMath
abbrev Fi := St × Nat × Nat
abbrev Fs := List Fi × Bool
def termF (f : Fi) : List Int := f.1.2.2
def termsF (L : List Fi) : List (List Int) := L.map termF
def addF (p d : Nat) (S : Fs) (x : St) : Fs := if S.2 = false then S else if x.2.2 ∈ termsF S.1 then S else if S.1.length = 60 then (S.1, false) else (S.1 ++ [(x, p, d)], true)
def goF (sg : List Int) (rs : List Rl) (n : Nat) (S : Fs) (i : Nat) : Fs := match S.1[i]? with
 | none => S
 | some f => if f.2.2 = n then S else (stepsL sg rs (termF f)).foldl (addF i (f.2.2 + 1)) S
def startF (t : List Int) : Fi := ((0, 0, t), 0, 0)
def fdN (sg : List Int) (rs : List Rl) (t : List Int) (n : Nat) : Nat → Fs
 | 0 => ([startF t], true)
 | i + 1 => goF sg rs n (fdN sg rs t n i) i
def fdA (sg : List Int) (rs : List Rl) (t : List Int) (n : Nat) : Fs := fdN sg rs t n 60
theorem add_off {p d : Nat} {S : Fs} {x : St} (h : S.2 = false) : addF p d S x = S := if_pos h
theorem add_in {p d : Nat} {S : Fs} {x : St} (h : x.2.2 ∈ termsF S.1) : addF p d S x = S := by
 unfold addF
 by_cases h0 : S.2 = false
 ·rw [if_pos h0]
 ·rw [if_neg h0, if_pos h]
theorem add_full {p d : Nat} {S : Fs} {x : St} (h0 : S.2 = true) (h : x.2.2 ∉ termsF S.1) (h1 : S.1.length = 60) : addF p d S x = (S.1, false) := by unfold addF; rw [if_neg (by rw [h0]; simp), if_neg h, if_pos h1]
theorem add_new {p d : Nat} {S : Fs} {x : St} (h0 : S.2 = true) (h : x.2.2 ∉ termsF S.1) (h1 : S.1.length ≠ 60) : addF p d S x = (S.1 ++ [(x, p, d)], true) := by unfold addF; rw [if_neg (by rw [h0]; simp), if_neg h, if_neg h1]
theorem fold_off {p d : Nat} : ∀ {xs : List St} {S : Fs}, S.2 = false → xs.foldl (addF p d) S = S
 | [], _, _ => rfl
 | x :: r, S, h => by rw [List.foldl_cons, add_off h]; exact fold_off h
theorem fold_snoc {p d : Nat} {xs : List St} {S : Fs} {x : St} : (xs ++ [x]).foldl (addF p d) S = addF p d (xs.foldl (addF p d) S) x := by rw [List.foldl_append]; rfl
theorem fold_take {p d k : Nat} {xs : List St} {S : Fs} (h : k < xs.length) : (xs.take (k + 1)).foldl (addF p d) S = addF p d ((xs.take k).foldl (addF p d) S) (xs.getD k (0, 0, [])) := by
 rw [List.take_succ_eq_append_getElem h, fold_snoc]
 simp [List.getD, h]
structure Inv (sg : List Int) (rs : List Rl) (t : List Int) (n : Nat) (S : Fs) (i : Nat) : Prop where
 len1 : 1 ≤ S.1.length
 len60 : S.1.length ≤ 60
 head : S.1[0]? = some (startF t)
 par : ∀ j f, 0 < j → S.1[j]? = some f → ∃ g, f.2.1 < j ∧ S.1[f.2.1]? = some g ∧ f.1 ∈ stepsL sg rs (termF g) ∧ f.2.2 = g.2.2 + 1
 dn : ∀ f ∈ S.1, f.2.2 ≤ n
 sorted : S.1.Pairwise fun f g => f.2.2 ≤ g.2.2
 nodup : (termsF S.1).Nodup
 top : ∀ g, S.1[i]? = some g → ∀ f ∈ S.1, f.2.2 ≤ g.2.2 + 1
section
variable {sg : List Int} {rs : List Rl} {t : List Int} {n i : Nat} {S : Fs}
theorem inv_zero : Inv sg rs t n ([startF t], true) 0 where
 len1 := Nat.le_refl _
 len60 := by simp
 head := rfl
 par := fun j f h0 hj => by
  obtain ⟨k, rfl⟩ : ∃ k, j = k + 1 := ⟨j - 1, by omega⟩
  simp at hj
 dn := fun f hf => by rw [List.mem_singleton.1 hf]; exact Nat.zero_le _
 sorted := by simp
 nodup := by simp [termsF]
 top := fun g hg f hf => by rw [List.mem_singleton.1 hf]; exact Nat.zero_le _
theorem get_left {α : Type} {L M : List α} {j : Nat} {f : α} (h : L[j]? = some f) : (L ++ M)[j]? = some f := by
 have := (List.getElem?_eq_some_iff.1 h).1
 rw [List.getElem?_append_left this]; exact h
theorem inv_add {f : Fi} (h : Inv sg rs t n S i) (hf : S.1[i]? = some f) (hn : f.2.2 ≠ n) {x : St} (hx : x ∈ stepsL sg rs (termF f)) : Inv sg rs t n (addF i (f.2.2 + 1) S x) i ∧ (addF i (f.2.2 + 1) S x).1[i]? = some f := by
 cases h0 : S.2 with
 | false => rw [add_off h0]; exact ⟨h, hf⟩
 | true =>
  by_cases h1 : x.2.2 ∈ termsF S.1
  ·rw [add_in h1]; exact ⟨h, hf⟩
  ·by_cases h2 : S.1.length = 60
   ·rw [add_full h0 h1 h2]; exact ⟨⟨h.len1, h.len60, h.head, h.par, h.dn, h.sorted, h.nodup, h.top⟩, hf⟩
   ·rw [add_new h0 h1 h2]
    have hl := h.len60
    have hi := (List.getElem?_eq_some_iff.1 hf).1
    have hfm : f ∈ S.1 := List.mem_of_getElem? hf
    have hd := h.dn f hfm
    refine ⟨⟨by simp, by simp; omega, get_left h.head, fun j g hj hg => ?_, fun g hg => ?_, ?_, ?_, fun g hg e he => ?_⟩, get_left hf⟩
    ·by_cases hjl : j < S.1.length
     ·rw [List.getElem?_append_left hjl] at hg
      obtain ⟨e, e1, e2, e3, e4⟩ := h.par j g hj hg
      exact ⟨e, e1, get_left e2, e3, e4⟩
     ·rw [List.getElem?_append_right (by omega)] at hg
      have hj0 : j - S.1.length = 0 := by
       have := (List.getElem?_eq_some_iff.1 hg).1
       simp at this; omega
      rw [hj0] at hg
      simp at hg
      subst hg
      exact ⟨f, by show i < j; omega, get_left hf, hx, rfl⟩
    ·rcases List.mem_append.1 hg with hg | hg
     ·exact h.dn g hg
     ·rw [List.mem_singleton.1 hg]; show f.2.2 + 1 ≤ n; omega
    ·refine List.pairwise_append.2 ⟨h.sorted, by simp, fun a ha b hb => ?_⟩
     rw [List.mem_singleton.1 hb]
     exact h.top f hf a ha
    ·unfold termsF
     rw [List.map_append]
     refine List.nodup_append.2 ⟨h.nodup, by simp, fun a ha b hb e => ?_⟩
     have hb : b = termF (x, i, f.2.2 + 1) := by simpa using hb
     rw [e, hb] at ha
     exact h1 ha
    ·have hg : (S.1 ++ [(x, i, f.2.2 + 1)])[i]? = some g := hg
     rw [get_left hf] at hg
     injection hg with hg
     subst hg
     rcases List.mem_append.1 he with he | he
     ·exact h.top f hf e he
     ·rw [List.mem_singleton.1 he]; exact Nat.le_refl _
theorem inv_fold {f : Fi} (hn : f.2.2 ≠ n) : ∀ (xs : List St) (S : Fs), Inv sg rs t n S i → S.1[i]? = some f → (∀ x ∈ xs, x ∈ stepsL sg rs (termF f)) → Inv sg rs t n (xs.foldl (addF i (f.2.2 + 1)) S) i ∧ (xs.foldl (addF i (f.2.2 + 1)) S).1[i]? = some f
 | [], _, h, hf, _ => ⟨h, hf⟩
 | x :: r, S, h, hf, hx => by
  obtain ⟨h1, h2⟩ := inv_add h hf hn (hx x (List.mem_cons_self ..))
  exact inv_fold hn r _ h1 h2 fun y hy => hx y (List.mem_cons_of_mem _ hy)
theorem inv_next (h : Inv sg rs t n S i) : Inv sg rs t n S (i + 1) := ⟨h.len1, h.len60, h.head, h.par, h.dn, h.sorted, h.nodup, fun g hg f hf => by
 have hi1 := (List.getElem?_eq_some_iff.1 hg).1
 have hi : S.1[i]? = some (S.1[i]'(by omega)) := List.getElem?_eq_getElem _
 have h1 := h.top _ hi f hf
 have h2 := List.pairwise_iff_getElem.1 h.sorted i (i + 1) (by omega) hi1 (by omega)
 have h3 : S.1[i + 1] = g := (List.getElem?_eq_some_iff.1 hg).2
 rw [h3] at h2
 omega⟩
theorem inv_go (h : Inv sg rs t n S i) : Inv sg rs t n (goF sg rs n S i) (i + 1) := by
 refine inv_next ?_
 unfold goF
 cases hf : S.1[i]? with
 | none => exact h
 | some f =>
  dsimp only
  split
  ·exact h
  ·rename_i hn
   exact (inv_fold hn _ _ h hf fun _ hx => hx).1
theorem inv_fd : ∀ i, Inv sg rs t n (fdN sg rs t n i) i
 | 0 => inv_zero
 | i + 1 => inv_go (inv_fd i)
theorem fd_same {j : Nat} (hij : i ≤ j) (h : (fdN sg rs t n i).1.length ≤ i ∨ (fdN sg rs t n i).2 = false ∨ ∃ f, (fdN sg rs t n i).1[i]? = some f ∧ f.2.2 = n) : fdN sg rs t n j = fdN sg rs t n i := by
 induction j with
 | zero => rw [show i = 0 by omega]
 | succ j ih =>
  by_cases e : i = j + 1
  ·rw [e]
  ·have ih := ih (by omega)
   show goF sg rs n (fdN sg rs t n j) j = _
   rw [ih]
   have hI := inv_fd (sg := sg) (rs := rs) (t := t) (n := n) i
   unfold goF
   cases hg : (fdN sg rs t n i).1[j]? with
   | none => rfl
   | some g =>
    have hjl := (List.getElem?_eq_some_iff.1 hg).1
    dsimp only
    rcases h with h | h | ⟨f, hf, hd⟩
    ·omega
    ·split
     ·rfl
     ·exact fold_off h
    ·rw [if_pos]
     have h1 := hI.dn g (List.mem_of_getElem? hg)
     by_cases e2 : i = j
     ·subst e2
      rw [hf] at hg
      injection hg with hg
      rw [← hg]; exact hd
     ·have h2 := List.pairwise_iff_getElem.1 hI.sorted i j (by omega) hjl (by omega)
      have h3 := (List.getElem?_eq_some_iff.1 hg).2
      obtain ⟨h5, h4⟩ := List.getElem?_eq_some_iff.1 hf
      rw [h3, h4] at h2
      omega
theorem fd_end (hi : i ≤ 60) (h : (fdN sg rs t n i).1.length ≤ i ∨ (fdN sg rs t n i).2 = false ∨ ∃ f, (fdN sg rs t n i).1[i]? = some f ∧ f.2.2 = n) : fdA sg rs t n = fdN sg rs t n i := fd_same hi h
theorem fd_step {f : Fi} (hf : (fdN sg rs t n i).1[i]? = some f) (hn : f.2.2 ≠ n) : fdN sg rs t n (i + 1) = (stepsL sg rs (termF f)).foldl (addF i (f.2.2 + 1)) (fdN sg rs t n i) := by
 show goF sg rs n _ i = _
 unfold goF
 rw [hf]
 exact if_neg hn
theorem fd_skip {f : Fi} (hf : (fdN sg rs t n i).1[i]? = some f) (hn : f.2.2 = n) : fdN sg rs t n (i + 1) = fdN sg rs t n i := by
 show goF sg rs n _ i = _
 unfold goF
 rw [hf]
 exact if_pos hn
theorem fd_inv : Inv sg rs t n (fdA sg rs t n) 60 := inv_fd 60
def bkK (L : List Fi) : Nat → Nat → List St
 | 0, _ => []
 | k + 1, at_ => if at_ = 0 then [] else (L.getD at_ (startF [])).1 :: bkK L k (L.getD at_ (startF [])).2.1
def bk (L : List Fi) (j : Nat) : List St := bkK L j j
def wkF (L : List Fi) (j : Nat) : Wk := (termF (L.getD 0 (startF [])), (bk L j).reverse)
theorem bk_zero (L : List Fi) : bk L 0 = [] := rfl
theorem bkK_more (h : Inv sg rs t n S i) : ∀ {k j : Nat}, j ≤ k → j < S.1.length → bkK S.1 k j = bk S.1 j := by
 intro k
 induction k with
 | zero => intro j hj _; rw [show j = 0 by omega]; rfl
 | succ k ih =>
  intro j hj hl
  cases j with
  | zero => rw [bk_zero, bkK, if_pos rfl]
  | succ j =>
   have hg : S.1[j + 1]? = some S.1[j + 1] := List.getElem?_eq_getElem hl
   obtain ⟨g, h1, h2, -, -⟩ := h.par (j + 1) _ (by omega) hg
   have e : S.1.getD (j + 1) (startF []) = S.1[j + 1] := by simp [List.getD, hl]
   have hgl := (List.getElem?_eq_some_iff.1 h2).1
   unfold bk
   rw [bkK, bkK, if_neg (by omega), if_neg (by omega), e, ih (by omega) hgl]
   by_cases e2 : j = k
   ·subst e2; rw [ih (by omega) hgl]
   ·by_cases e3 : S.1[j + 1].2.1 ≤ j
    ·-- both are the whole way
     have : ∀ {m : Nat}, m ≤ j → m < S.1.length → bkK S.1 j m = bk S.1 m := by
      clear ih e2
      intro m hm hml
      revert m
      have gen : ∀ q m, m ≤ q → m < S.1.length → bkK S.1 q m = bk S.1 m := by
       intro q
       induction q using Nat.strongRecOn with
       | _ q ihq =>
        intro m hm hml
        cases q with
        | zero => rw [show m = 0 by omega]; rfl
        | succ q =>
         cases m with
         | zero => rw [bk_zero, bkK, if_pos rfl]
         | succ m =>
          have hg' : S.1[m + 1]? = some S.1[m + 1] := List.getElem?_eq_getElem hml
          obtain ⟨g', p1, p2, -, -⟩ := h.par (m + 1) _ (by omega) hg'
          have e' : S.1.getD (m + 1) (startF []) = S.1[m + 1] := by simp [List.getD, hml]
          have hgl' := (List.getElem?_eq_some_iff.1 p2).1
          unfold bk
          rw [bkK, bkK, if_neg (by omega), if_neg (by omega), e', ihq q (by omega) _ (by omega) hgl', ihq m (by omega) _ (by omega) hgl']
      intro m hm hml
      exact gen j m hm hml
     rw [this e3 hgl]
    ·omega
theorem bk_succ (h : Inv sg rs t n S i) {j : Nat} {f : Fi} (h0 : 0 < j) (hf : S.1[j]? = some f) : bk S.1 j = f.1 :: bk S.1 f.2.1 := by
 obtain ⟨g, h1, h2, -, -⟩ := h.par j f h0 hf
 have hgl := (List.getElem?_eq_some_iff.1 h2).1
 obtain ⟨k, rfl⟩ : ∃ k, j = k + 1 := ⟨j - 1, by omega⟩
 have e : S.1.getD (k + 1) (startF []) = f := by simp [List.getD, hf]
 unfold bk
 rw [bkK, if_neg (by omega), e, bkK_more h (by omega) hgl]
 rfl
theorem bk_len (h : Inv sg rs t n S i) : ∀ (j : Nat) (f : Fi), S.1[j]? = some f → (bk S.1 j).length = f.2.2 := by
 intro j
 induction j using Nat.strongRecOn with
 | _ j ih =>
  intro f hf
  by_cases h0 : j = 0
  ·subst h0
   rw [h.head] at hf
   injection hf with hf
   rw [← hf]; rfl
  ·obtain ⟨g, h1, h2, -, h4⟩ := h.par j f (by omega) hf
   rw [bk_succ h (by omega) hf, List.length_cons, ih _ h1 g h2, h4]
theorem bk_walk (hr : sysOkB sg rs = true) (ht : termOkB sg t = true) (h : Inv sg rs t n S i) : ∀ (j : Nat) (f : Fi), S.1[j]? = some f → termOkB sg (termF f) = true ∧ goOn sg rs t (bk S.1 j).reverse = some (termF f) := by
 intro j
 induction j using Nat.strongRecOn with
 | _ j ih =>
  intro f hf
  by_cases h0 : j = 0
  ·subst h0
   rw [h.head] at hf
   injection hf with hf
   rw [← hf]; exact ⟨ht, rfl⟩
  ·obtain ⟨g, h1, h2, h3, h4⟩ := h.par j f (by omega) hf
   obtain ⟨q1, q2⟩ := ih _ h1 g h2
   have q3 := steps_at hr q1 h3
   refine ⟨stepAt_ok q3, ?_⟩
   rw [bk_succ h (by omega) hf, List.reverse_cons, go_append, q2]
   exact go_cons.2 ⟨q3, rfl⟩
theorem find_ok (hr : sysOkB sg rs = true) (ht : termOkB sg t = true) (h : Inv sg rs t n S i) {f : Fi} (hf : f ∈ S.1) : termOkB sg (termF f) = true := by
 obtain ⟨j, hj⟩ := List.mem_iff_getElem?.1 hf
 exact (bk_walk hr ht h j f hj).1
theorem wk_first (h : Inv sg rs t n S i) (j : Nat) : (wkF S.1 j).1 = t := by
 have e : S.1.getD 0 (startF []) = startF t := by simp [List.getD, h.head]
 unfold wkF
 rw [e]
 rfl
theorem wk_walk (hr : rightB sg rs t = true) (h : Inv sg rs t n S i) (hn : n ≤ 60) {j : Nat} {f : Fi} (hf : S.1[j]? = some f) : walkB sg rs (wkF S.1 j) = true ∧ endL (wkF S.1 j) = termF f ∧ (wkF S.1 j).2.length = f.2.2 ∧ f.2.2 ≤ n := by
 unfold rightB at hr
 rw [Bool.and_eq_true] at hr
 obtain ⟨h1, h2⟩ := hr
 obtain ⟨q1, q2⟩ := bk_walk h1 h2 h j f hf
 have q3 := bk_len h j f hf
 have q4 := h.dn f (List.mem_of_getElem? hf)
 have e : wkF S.1 j = (t, (bk S.1 j).reverse) := by
  have e2 := wk_first h j
  show ((wkF S.1 j).1, (bk S.1 j).reverse) = _
  rw [e2]
 rw [e]
 refine ⟨walk_mk h1 h2 (by rw [List.length_reverse]; omega) q2, (go_end q2).symm, by rw [List.length_reverse]; exact q3, q4⟩
end
def stepsB (n : Int) : Bool := decide (0 ≤ n ∧ n ≤ 20)
def right9 (sg : List Int) (rs : List Rl) (t : List Int) (n : Int) : Bool := rightB sg rs t && stepsB n
def reachI (sg : List Int) (rs : List Rl) (t : List Int) (n : Int) : List (List Int) := if right9 sg rs t n = true then termsF (fdA sg rs t n.toNat).1 else []
def allI (sg : List Int) (rs : List Rl) (t : List Int) (n : Int) : Bool := right9 sg rs t n && (fdA sg rs t n.toNat).2
def numF (L : List Fi) (u : List Int) : Option Nat := (termsF L).findIdx? (fun x => decide (x = u))
def toO (sg : List Int) (rs : List Rl) (t u : List Int) (n : Int) : Option Wk := if (right9 sg rs t n && right9 sg rs u n) = true then (numF (fdA sg rs t n.toNat).1 u).map (wkF (fdA sg rs t n.toNat).1) else none
def firstJ (L M : List Fi) : Option (Nat × Nat) := (List.range L.length).findSome? fun i => (numF M (termF (L.getD i (startF [])))).map fun j => (i, j)
def joinO (sg : List Int) (rs : List Rl) (a b : List Int) (n : Int) : Option (Wk × Wk) := if (right9 sg rs a n && right9 sg rs b n) = true then (firstJ (fdA sg rs a n.toNat).1 (fdA sg rs b n.toNat).1).map fun p => (wkF (fdA sg rs a n.toNat).1 p.1, wkF (fdA sg rs b n.toNat).1 p.2) else none
def addT (out : List (List Int)) (x : List Int) : List (List Int) := if x ∈ out then out else out ++ [x]
def tosL (sg : List Int) (rs : List Rl) (t : List Int) : List (List Int) := (stepsL sg rs t).map fun s => s.2.2
def nxN (sg : List Int) (rs : List Rl) (lv : List (List Int)) (i : Nat) : List (List Int) := ((lv.take i).flatMap (tosL sg rs)).foldl addT []
def longB (sg : List Int) (rs : List Rl) (t : List Int) : Bool := decide ((stepsL sg rs t).length < rdN sg rs t t.length 0)
def nextO (sg : List Int) (rs : List Rl) (lv : List (List Int)) : Option (List (List Int)) := if (lv.any (longB sg rs)) = true ∨ 60 < (nxN sg rs lv lv.length).length then none else some (nxN sg rs lv lv.length)
section
variable {sg : List Int} {rs : List Rl} {t : List Int}
end
end reachMath
end
section
open Go.Lib (hid)
namespace known
open Go.RowKit Go.Maps base ints sig term termOk termFacts marks app sym segs segsHelp varsOf reachMath
set_option maxRecDepth 100000
def keyN (t : List Int) : List Int := t.map (· + 24)
def klit (t : List Int) : Lit := .string (strOfNums (keyN t)).data.toList
def Small (t : List Int) : Prop := t.length ≤ 60 ∧ ∀ x ∈ t, -24 ≤ x ∧ x < 8
theorem small_term {sg t : List Int} (h : termOkB sg t = true) : Small t := ⟨(term_len h).2, fun _ hx => term_mem h hx⟩
theorem str_data (xs : List Int) : (strOfNums xs).data.toList = xs.map fun n => UInt8.ofNat n.toNat := by simp [strOfNums]
theorem klit_inj {t u : List Int} (ht : Small t) (hu : Small u) (h : klit t = klit u) : t = u := by
 unfold klit at h
 injection h with h
 rw [str_data, str_data] at h
 unfold keyN at h
 rw [List.map_map, List.map_map] at h
 have hl : t.length = u.length := by have := congrArg List.length h; simpa using this
 refine List.ext_getElem hl fun i h1 h2 => ?_
 have h3 : (t.map ((fun n : Int => UInt8.ofNat n.toNat) ∘ (· + 24)))[i]'(by simpa using h1) = (u.map ((fun n : Int => UInt8.ofNat n.toNat) ∘ (· + 24)))[i]'(by simpa using h2) := by simp only [h]
 simp only [List.getElem_map, Function.comp_apply] at h3
 have b1 := ht.2 _ (List.getElem_mem h1)
 have b2 := hu.2 _ (List.getElem_mem h2)
 have h4 := congrArg UInt8.toNat h3
 rw [UInt8.toNat_ofNat', UInt8.toNat_ofNat'] at h4
 omega
theorem str_size (xs : List Int) : (strOfNums xs).size = xs.length := by
 show (strOfNums xs).data.size = _
 rw [← Array.length_toList, str_data, List.length_map]
theorem info_byte : (Tryz.prog.info? 5).map (fun i => (i.zero, i.size, i.bytes)) = some (some (.int .u8 0), 1, 1) := by kernel_rfl
theorem run_make_bytes (n : Nat) (hn : n ≤ 1048576) (W : World) : (Instr.makeSlice 22 (.int .i64 (n : Int)) (.int .i64 (n : Int))).run Tryz.prog W =
  .ok (.slice (some ⟨W.heap.size, 0, none⟩) n n) (W.alloc (.cells (madeCells #[.int .u8 0] n) 5)) := by
 obtain ⟨i0, hi, hz0, hz1, hz2⟩ := info_parts info_byte
 have hr := run_make (P := Tryz.prog) W 22 5 i0 _ Tryz.underlying22 hi hz0 .i64 .i64 n n (by omega) (by omega) (by rw [hz2]; omega) (by omega)
 simpa [hz1, Value.cells] using hr
theorem made_size (n : Nat) (v : Value) : (madeCells #[v] n).size = n := by simp [madeCells]
def AnsKey (w : World) (t : List Int) (e : Ending) (w' : World) : Prop := e = .returned (.string (strOfNums (keyN t))) ∧ Below w.heap.size w w'
set_option maxHeartbeats 1000000 in
theorem implKeyOf (T : Option Addr) (m c : Nat) (t : List Int) (w : World) (h : Seg w w.heap.size T m t) (ht : Small t) :
  Calls Tryz.prog 162 #[.slice T m c] w (AnsKey w t) := by
 have hm : m ≤ 60 := by rw [← h.1]; exact ht.1
 have hmk := run_make_bytes m (by omega) w
 have HT := hid h.1
 have H := hid h
 have HS := hid ht
 obtain ⟨W, hW, rW, bW⟩ : ∃ W, W = w.alloc (.cells (madeCells #[.int .u8 0] m) 5) ∧ Row W w.heap.size 5 (madeCells #[.int .u8 0] m) ∧ Below w.heap.size w W := ⟨_, rfl, Row.new _ _ _, (Below.refl _ _).alloc (Nat.le_refl _) _⟩
 rw [← hW] at hmk
 clear hW h ht
 go_enter Tryz.func162, Tryz.ntmps162
 go_wp2_with fail
 go_loopg [11] m (fun g i_ wr => ∃ (i : Nat) (cs : Array Value), i_ = .int .i64 i ∧ i + g = m ∧ Row wr w.heap.size 5 cs ∧ cs.size = m ∧ (∀ j, j < i → cs[j]? = some (.int .u8 ((keyN t).getD j 0))) ∧ Below w.heap.size w wr)
 case atStart => exact ⟨0, _, rfl, by omega, rW, made_size _ _, fun j hj => absurd hj (Nat.not_lt_zero _), bW⟩
 case round =>
  obtain ⟨i, cs, rfl, hg, rC, hcs, hin, bel⟩ := hrel
  by_cases hi : i < m
  ·obtain ⟨b, off, x, rfl, hb, c0, hx⟩ := Seg.spot H.out hi
   have c0 := (bel.cell (p := ⟨b, off + i, none⟩) hb).trans c0
   have hxb : -24 ≤ x ∧ x < 8 := by
    rw [← hx.out]
    have hil : i < t.length := by rw [HT.out]; exact hi
    have := HS.out.2 t[i] (List.getElem_mem hil)
    simpa [List.getD, hil] using this
   have hk : (keyN t).getD i 0 = x + 24 := by
    rw [← hx.out]
    have hil : i < t.length := by rw [HT.out]; exact hi
    simp [keyN, List.getD, hil]
   obtain ⟨v0, hv0⟩ : ∃ v0, cs[i]? = some v0 := ⟨_, Array.getElem?_eq_getElem (by omega)⟩
   have c1 : wr.cell? ⟨w.heap.size, i, none⟩ = some v0 := by rw [rC.cell]; exact hv0
   have f1 := rC.free i
   have HG := hid hg
   have i0 : (0 : Int) ≤ (i : Int) := by omega
   have i1 : (i : Int) < (m : Int) := by omega
   have w8 : IntKind.u8.wrap (x + 24) = x + 24 := by unfold IntKind.wrap; simp [IntKind.bits, IntKind.signed]; omega
   have F := hid (show Row (wr.setCell ⟨w.heap.size, i, none⟩ (.int .u8 (x + 24))) w.heap.size 5 (cs.setIfInBounds i (.int .u8 (x + 24))) ∧ (cs.setIfInBounds i (.int .u8 (x + 24))).size = m ∧ (∀ j, j < i + 1 → (cs.setIfInBounds i (.int .u8 (x + 24)))[j]? = some (.int .u8 ((keyN t).getD j 0))) ∧ Below w.heap.size w (wr.setCell ⟨w.heap.size, i, none⟩ (.int .u8 (x + 24))) from ⟨Row.put rC i _, by simp [hcs], fun j hj => by
    by_cases e : j = i
    ·subst e; rw [Array.getElem?_setIfInBounds, if_pos rfl, if_pos (by omega), hk]
    ·rw [Array.getElem?_setIfInBounds, if_neg (fun e' => e e'.symm)]; exact hin j (by omega), bel.setCell (Nat.le_refl _) _⟩)
   clear hg rC hcs hin bel hv0 hk hx
   go_wp2
   go_roundg (gk - 1)
   case measure => have := HG.out; omega
   case rel => exact ⟨i + 1, _, by simp, by have := HG.out; omega, F.out.1, F.out.2.1, F.out.2.2.1, F.out.2.2.2⟩
  ·obtain rfl : i = m := by omega
   have hc := run_convert_bytes_arg (P := Tryz.prog) wr 22 5 Tryz.underlying22 Tryz.underlying5 w.heap.size 0 i i (keyN t) (by rw [← HT.out]; simp [keyN]) (fun j hj => by rw [Nat.zero_add, rC.cell]; exact hin j hj) 9 Tryz.underlying9
   have F := hid (show AnsKey w t (.returned (.string (strOfNums (keyN t)))) wr from ⟨rfl, bel⟩)
   clear rC hcs hin bel
   go_wp2
   go_ret
   exact F.out
def Kn (w : World) (b n : Nat) (L : List (List Int)) : Prop := ∃ D : DataW Unit, w.ownsMap Tryz.prog 9 (plainElem Tryz.prog 3) b n D ∧ (∀ t ∈ L, Small t) ∧ (∀ t, Small t → Maps.has D (klit t) = decide (t ∈ L)) ∧ ∀ i, i < L.length → D.atKey (klit (L.getD i [])) (.lit (.int .i64 0)) = .lit (.int .i64 (i : Int))
section
variable {w w' : World} {b n : Nat} {L : List (List Int)} {t : List Int} {row : Option Nat}
theorem Kn.kept (h : Kn w b n L) (hg : w.grownBy w' row) (hne : some b ≠ row) : Kn w' b n L := by
 obtain ⟨D, h1, h2⟩ := h
 exact ⟨D, h1.kept hg hne, h2⟩
theorem Kn.lt (h : Kn w b n L) : b < w.heap.size := by
 obtain ⟨D, h1, h2⟩ := h
 exact h1.lt
theorem Kn.below (h : Kn w b n L) (hb : Below w.heap.size w w') : Kn w' b n L := h.kept (row := none) ⟨hb.os, hb.tape, hb.output, hb.size, fun k hk _ => hb.block k hk⟩ (fun e => by cases e)
theorem Kn.drew (h : Kn w b n L) : Kn w.drew b n L := h
theorem Kn.small (h : Kn w b n L) : ∀ t ∈ L, Small t := by
 obtain ⟨D, h1, h2, h3⟩ := h
 exact h2
theorem kn_made (w : World) : Kn (w.alloc (.map #[] 0)) w.heap.size 0 [] := ⟨.map [], World.ownsMap_made _ _ _ _, (fun t h => by cases h), (fun t _ => by simp [Maps.has]), fun i h => absurd h (Nat.not_lt_zero _)⟩
theorem key_lit (t : List Int) : WideAt.IsKeyLit (klit t) := by unfold klit; simp [WideAt.IsKeyLit]
theorem key_of (t : List Int) (h : Small t) : keyOf Tryz.prog 9 (.string (strOfNums (keyN t))) = some (klit t) := Go.WideMaps.keyOf_string_mk Tryz.underlying9 (by rw [str_size]; unfold keyN maxLen; have := h.1; simp; omega)
theorem kn_put {D : DataW Unit} (hD : Maps.IsMap D) (h2 : ∀ t ∈ L, Small t) (h3 : ∀ t, Small t → Maps.has D (klit t) = decide (t ∈ L)) (h4 : ∀ i, i < L.length → D.atKey (klit (L.getD i [])) (.lit (.int .i64 0)) = .lit (.int .i64 (i : Int))) (ht : Small t) (hn : t ∉ L) :
  (∀ u ∈ L ++ [t], Small u) ∧ (∀ u, Small u → Maps.has (D.put (klit t) (.lit (.int .i64 (L.length : Int)))) (klit u) = decide (u ∈ L ++ [t])) ∧ ∀ i, i < (L ++ [t]).length → (D.put (klit t) (.lit (.int .i64 (L.length : Int)))).atKey (klit ((L ++ [t]).getD i [])) (.lit (.int .i64 0)) = .lit (.int .i64 (i : Int)) := by
 refine ⟨fun u hu => ?_, fun u hu => ?_, fun i hi => ?_⟩
 ·rcases List.mem_append.1 hu with hu | hu
  ·exact h2 u hu
  ·rw [List.mem_singleton.1 hu]; exact ht
 ·by_cases e : u = t
  ·subst e; rw [Maps.has_put_same hD (key_lit _)]; simp
  ·rw [Maps.has_put_other (fun q => e (klit_inj hu ht q)), h3 u hu]; simp [e]
 ·rw [List.length_append, List.length_singleton] at hi
  by_cases e : i = L.length
  ·subst e
   rw [show (L ++ [t]).getD L.length [] = t by simp [List.getD], Maps.atKey_put_same hD (key_lit _)]
  ·have hl : i < L.length := by omega
   have e2 : (L ++ [t]).getD i [] = L.getD i [] := by simp [List.getD, List.getElem?_append_left hl]
   have hm : L.getD i [] ∈ L := by simp [List.getD, hl]
   rw [e2, Maps.atKey_put_other (fun q => hn (by rw [← klit_inj (h2 _ hm) ht q]; exact hm)), h4 i hl]
theorem kn_del {D : DataW Unit} (h2 : ∀ u ∈ L ++ [t], Small u) (h3 : ∀ u, Small u → Maps.has D (klit u) = decide (u ∈ L ++ [t])) (h4 : ∀ i, i < (L ++ [t]).length → D.atKey (klit ((L ++ [t]).getD i [])) (.lit (.int .i64 0)) = .lit (.int .i64 (i : Int))) (hn : t ∉ L) :
  (∀ u ∈ L, Small u) ∧ (∀ u, Small u → Maps.has (D.del (klit t)) (klit u) = decide (u ∈ L)) ∧ ∀ i, i < L.length → (D.del (klit t)).atKey (klit (L.getD i [])) (.lit (.int .i64 0)) = .lit (.int .i64 (i : Int)) := by
 have ht : Small t := h2 t (by simp)
 refine ⟨fun u hu => h2 u (by simp [hu]), fun u hu => ?_, fun i hi => ?_⟩
 ·by_cases e : u = t
  ·subst e; rw [Maps.has_del_same]; simp [hn]
  ·rw [Maps.has_del_other (fun q => e (klit_inj hu ht q)), h3 u hu]; simp [e]
 ·have e2 : (L ++ [t]).getD i [] = L.getD i [] := by simp [List.getD, List.getElem?_append_left hi]
  have hm : L.getD i [] ∈ L := by simp [List.getD, hi]
  rw [Maps.atKey_del_other (fun q => hn (by rw [← klit_inj (h2 _ (List.mem_append_left _ hm)) ht q]; exact hm)), ← e2]
  exact h4 i (by simp; omega)
end
theorem zero_int (w : World) : (zeroValue 3).run Tryz.prog w = .ok (.int .i64 0) w := by kernel_rfl
set_option maxHeartbeats 1000000 in
theorem addNew (T : Option Addr) (m c b n : Nat) (t : List Int) (L : List (List Int)) (w : World) (hK : Kn w b n L) (h : Seg w w.heap.size T m t) (ht : Small t) (hnot : t ∉ L) (hn : n ≤ 1048576) (hl : L.length ≤ 1048576) :
  Calls Tryz.prog 198 #[.map (some b), .slice T m c, .int .i64 (L.length : Int)] w fun e w' => e = .returned (.bool true) ∧ Kn w' b (n + 1) (L ++ [t]) ∧ w.grownBy w' (some b) := by
 have LK := hid (implKeyOf T m c t w h ht)
 obtain ⟨D, hown, h2, h3, h4⟩ := hK
 have hhas : Maps.has D (klit t) = false := by rw [h3 t ht]; simp [hnot]
 have hP := hid (kn_put hown.isMap h2 h3 h4 ht hnot)
 have hkey := key_of t ht
 clear h h2 h3 h4
 go_enter Tryz.func198, Tryz.ntmps198
 go_wp2_with fail
 refine LK.out.mono ?_
 rintro e w1 ⟨rfl, bb⟩
 have hown1 := hown.kept (row := none) ⟨bb.os, bb.tape, bb.output, bb.size, fun k hk _ => bb.block k hk⟩ (fun e => by cases e)
 have BB := hid bb
 clear bb hown LK
 go_wp2_with (first
  | (at_lookup; refine wpList_lookup_own_ok_int _ rfl _ _ 148 rfl 9 3 .i64 (string_keyed Tryz.underlying9) Tryz.underlying148 Tryz.underlying3 (zero_int _) b n _ rfl hown1 _ _ rfl hkey ?_; intro c0 hat hwc; rw [hhas])
  | (at_mapUpdate; refine wpList_mapUpdate_own _ rfl _ _ _ 148 rfl 9 3 (string_keyed Tryz.underlying9) Tryz.underlying148 _ b n _ rfl hown1 (by unfold maxLen; omega) _ _ _ rfl rfl hkey _ [] (plainElem_int Tryz.underlying3 (WalkArith.wf_i64 (by omega))) ?_; intro w2 hown2 hgrow2))
 have F := hid (show Kn w2 b (n + 1) (L ++ [t]) ∧ w.grownBy w2 (some b) from ⟨⟨_, hown2, hP.out⟩, ⟨hgrow2.os.trans BB.out.os, hgrow2.tape.trans BB.out.tape, hgrow2.output.trans BB.out.output, Nat.le_trans BB.out.size hgrow2.size, fun k hk hne => (hgrow2.block k (Nat.lt_of_lt_of_le hk BB.out.size) hne).trans (BB.out.block k hk)⟩⟩)
 clear hown2 hgrow2 hown1
 go_wp2
 go_ret
 exact ⟨rfl, F.out⟩
set_option maxHeartbeats 1000000 in
theorem addOld (T : Option Addr) (m c b n : Nat) (t : List Int) (i : Int) (L : List (List Int)) (w : World) (hK : Kn w b n L) (h : Seg w w.heap.size T m t) (ht : Small t) (hin : t ∈ L) :
  Calls Tryz.prog 198 #[.map (some b), .slice T m c, .int .i64 i] w fun e w' => e = .returned (.bool false) ∧ Below w.heap.size w w' := by
 have LK := hid (implKeyOf T m c t w h ht)
 obtain ⟨D, hown, h2, h3, h4⟩ := hK
 have hhas : Maps.has D (klit t) = true := by rw [h3 t ht]; simp [hin]
 have hkey := key_of t ht
 clear h h2 h3 h4
 go_enter Tryz.func198, Tryz.ntmps198
 go_wp2_with fail
 refine LK.out.mono ?_
 rintro e w1 ⟨rfl, bb⟩
 have hown1 := hown.kept (row := none) ⟨bb.os, bb.tape, bb.output, bb.size, fun k hk _ => bb.block k hk⟩ (fun e => by cases e)
 have BB := hid bb
 clear bb hown LK
 go_wp2_with (first
  | (at_lookup; refine wpList_lookup_own_ok_int _ rfl _ _ 148 rfl 9 3 .i64 (string_keyed Tryz.underlying9) Tryz.underlying148 Tryz.underlying3 (zero_int _) b n _ rfl hown1 _ _ rfl hkey ?_; intro c0 hat hwc; rw [hhas]))
 go_ret
 exact ⟨rfl, BB.out⟩
set_option maxHeartbeats 1000000 in
theorem forget (T : Option Addr) (m c b n : Nat) (t : List Int) (L : List (List Int)) (w : World) (hK : Kn w b n (L ++ [t])) (h : Seg w w.heap.size T m t) (hnot : t ∉ L) :
  Calls Tryz.prog 199 #[.map (some b), .slice T m c] w fun e w' => (∃ v, e = .returned v) ∧ Kn w' b n L ∧ w.grownBy w' (some b) := by
 have ht := hK.small t (by simp)
 have LK := hid (implKeyOf T m c t w h ht)
 obtain ⟨D, hown, h2, h3, h4⟩ := hK
 have hP := hid (kn_del h2 h3 h4 hnot)
 have hkey := key_of t ht
 clear h h2 h3 h4
 go_enter Tryz.func199, Tryz.ntmps199
 go_wp2_with fail
 refine LK.out.mono ?_
 rintro e w1 ⟨rfl, bb⟩
 have hown1 := hown.kept (row := none) ⟨bb.os, bb.tape, bb.output, bb.size, fun k hk _ => bb.block k hk⟩ (fun e => by cases e)
 have BB := hid bb
 clear bb hown LK
 go_wp2_with (at_delete; refine wpList_delete_own _ rfl _ _ 148 9 rfl 3 (string_keyed Tryz.underlying9) Tryz.underlying148 _ b n _ rfl hown1 _ _ rfl hkey ?_; intro w2 hown2 hturn2)
 have hgrow2 := hturn2.grown
 have F := hid (show Kn w2 b n L ∧ w.grownBy w2 (some b) from ⟨⟨_, hown2, hP.out⟩, ⟨hgrow2.os.trans BB.out.os, hgrow2.tape.trans BB.out.tape, hgrow2.output.trans BB.out.output, Nat.le_trans BB.out.size hgrow2.size, fun k hk hne => (hgrow2.block k (Nat.lt_of_lt_of_le hk BB.out.size) hne).trans (BB.out.block k hk)⟩⟩)
 clear hown2 hgrow2 hturn2 hown1
 go_wp2
 first | (go_end0; exact ⟨⟨_, rfl⟩, F.out⟩) | (go_ret; exact F.out) | (go_ret; simpa using F.out)
end known
end
section
namespace heldT
section
variable {P : Program} {md : Region.Mode} {ops : Array Oper} {Q : Exit → Act → World → Prop} {S : World → Prop} {late : Nat → Bool}
def reaches (md : Region.Mode) (ops : Array Oper) : Nat → Nat → Nat → Bool
 | 0, _, _ => false
 | k + 1, j, i => ((ops[j]?).map fun o => o.after.any fun e => Region.binds md e && (e.on == i || reaches md ops k e.on i)).getD false
def Closed (md : Region.Mode) (ops : Array Oper) (listed : Array Bool) : Prop := ∀ j o, ops[j]? = some o → listed.getD j false = true → ∀ e ∈ o.after, Region.binds md e = true → listed.getD e.on false = true
def closedB (md : Region.Mode) (ops : Array Oper) (listed : Array Bool) : Bool := (List.range ops.size).all fun j => !listed.getD j false || ((ops[j]?).map fun o => o.after.all fun e => !Region.binds md e || listed.getD e.on false).getD true
theorem lt_of_get {ops : Array Oper} {j : Nat} {o : Oper} (ho : ops[j]? = some o) : j < ops.size := (Array.getElem?_eq_some_iff.1 ho).1
theorem closed_of {listed : Array Bool} (h : closedB md ops listed = true) : Closed md ops listed := by
 intro j o ho hl e he hb
 have h1 := List.all_eq_true.1 h j (List.mem_range.2 (lt_of_get ho))
 rw [hl, ho] at h1
 simp only [Bool.not_true, Bool.false_or, Option.map_some, Option.getD_some, Array.all_eq_true', Bool.or_eq_true, Bool.not_eq_true'] at h1
 rcases h1 e he with h2 | h2
 ·rw [hb] at h2; cases h2
 ·exact h2
theorem reach_listed {listed : Array Bool} (hc : Closed md ops listed) : ∀ {k j i : Nat} {o : Oper}, ops[j]? = some o → (∀ e ∈ o.after, Region.binds md e = true → listed.getD e.on false = true) → reaches md ops k j i = true → listed.getD i false = true
 | 0, _, _, _, _, _, h => by cases h
 | k + 1, j, i, o, ho, hall, h => by
  rw [reaches, ho] at h
  simp only [Option.map_some, Option.getD_some, Array.any_eq_true', Bool.and_eq_true, Bool.or_eq_true, beq_iff_eq] at h
  obtain ⟨e, he, hb, h⟩ := h
  have hl := hall e he hb
  rcases h with h | h
  ·rw [← h]; exact hl
  ·cases hq : ops[e.on]? with
   | none =>
    cases k with
    | zero => cases h
    | succ k => rw [reaches, hq] at h; cases h
   | some o2 => exact reach_listed hc hq (hc _ _ hq hl) h
theorem getD_mono {listed : Array Bool} {j k : Nat} (h : listed.getD k false = true) : (listed.setIfInBounds j true).getD k false = true := by
 by_cases e : j = k
 ·subst e
  have hj : j < listed.size := by
   rcases Nat.lt_or_ge j listed.size with h' | h'
   ·exact h'
   ·simp [Array.getElem?_eq_none h'] at h
  simp [hj]
 ·rw [getD_set_ne false e]; exact h
theorem closed_set {listed : Array Bool} {j : Nat} {o : Oper} (hc : Closed md ops listed) (ho : ops[j]? = some o) (hall : ∀ e ∈ o.after, Region.binds md e = true → listed.getD e.on false = true) : Closed md ops (listed.setIfInBounds j true) := by
 intro k o' ho' hl e he hb
 by_cases ek : j = k
 ·subst ek
  rw [ho] at ho'
  injection ho' with ho'
  subst ho'
  exact getD_mono (hall e he hb)
 ·rw [getD_set_ne false ek] at hl
  exact getD_mono (hc k o' ho' hl e he hb)
theorem unlisted {listed : Array Bool} {i : Nat} (h0 : listed.getD i true = false) : listed.getD i false ≠ true := by
 intro h1
 rcases Nat.lt_or_ge i listed.size with h' | h'
 ·simp [h'] at h0 h1; rw [h0] at h1; cases h1
 ·simp [Array.getElem?_eq_none h'] at h1
theorem AnyT.firstU {i : Nat} {oi : Oper} {v : Value} (hi : ops[i]? = some oi) (hsel : ∀ (j : Nat) (o : Oper) cs b, ops[j]? = some o → o.op ≠ .select cs b) (hQ : ∀ c a w, Q (.panic c) (a.put oi.dst v) w → Q (.panic c) a w) :
  ∀ (fuel : Nat) (listed : Array Bool) (a : Act) (w : World),
   (∀ j oj, ops[j]? = some oj → j ≠ i → listed.getD j true = false → (∀ e ∈ oj.after, Region.binds md e = true → e.on ≠ i) → oi.apart ops oj = true) → (∀ j o, ops[j]? = some o → late j = true → listed.getD j true = false → reaches md ops ops.size j i = true) → Closed md ops listed →
   i ∈ Region.ready md ops listed → YieldsIf P ops S oi v a → S w → AnyT P md ops Q S late fuel (listed.setIfInBounds i true) (a.put oi.dst v) w → AnyT P md ops Q S late (fuel + 1) listed a w := by
 intro fuel
 induction fuel with
 | zero =>
  intro listed a w _ _ _ hr hy hS H
  refine ⟨fun h => (by rw [h] at hr; cases hr), fun j hj => ?_⟩
  rcases Classical.em (j = i) with e | e
  ·subst e; exact hy.wpOp hi hS ⟨fun _ h => h, H⟩
  ·have := ready_mono hj e
   rw [H.1] at this
   cases this
 | succ fuel ih =>
  intro listed a w hfree hwait hclosed hr hy hS H
  refine ⟨fun h => (by rw [h] at hr; cases hr), fun j hj => ?_⟩
  rcases Classical.em (j = i) with e | hji
  ·subst e; exact hy.wpOp hi hS ⟨fun _ h => h, H⟩
  have h1 := H.2 j (ready_mono hj hji)
  obtain ⟨hjun, oj, hoj, hall⟩ := mem_ready.1 hj
  have h0 := (mem_ready.1 hr).1
  have hnot : ∀ e ∈ oj.after, Region.binds md e = true → e.on ≠ i := fun e he hb heq => unlisted h0 (by rw [← heq]; exact hall e he hb)
  have hlj : late j = false := by
   cases e : late j with
   | false => rfl
   | true => exact absurd (reach_listed hclosed hoj hall (hwait j oj hoj e hjun)) (unlisted h0)
  have far : ∀ {k : Nat}, j ≠ k → (listed.setIfInBounds j true).getD k true = false → listed.getD k true = false := fun hjk h => by rwa [getD_set_ne true hjk] at h
  have un : ∀ (k : Nat), (listed.setIfInBounds j true).getD k true = false → listed.getD k true = false := fun k h => by
   rcases Classical.em (k = j) with e | e
   ·rw [e]; exact hjun
   ·exact far (fun e' => e e'.symm) h
  have h2 := wpOp_putIf hoj (hfree j oj hoj hji hjun hnot) (fun cs b => hsel i oi cs b hi) (fun cs b => hsel j oj cs b hoj) hQ hy h1
  refine wpOp_mono (fun a' w' h3 => ⟨h3.2.1, ih (listed.setIfInBounds j true) a' w' (fun k ok hk hki hun hno => hfree k ok hk hki (un k hun) hno) (fun k o hk hl hu => hwait k o hk hl (un k hu)) (closed_set hclosed hoj hall) (ready_mono hr (Ne.symm hji)) h3.1 (h3.2.1 hlj hS) ?_⟩) h2
  rw [Array.setIfInBounds_comm _ _ hji]
  exact h3.2.2
def waitsU (md : Region.Mode) (ops : Array Oper) (late : Nat → Bool) (listed : Array Bool) (i : Nat) : Bool := (List.range ops.size).all fun j => !late j || listed.getD j true || reaches md ops ops.size j i
theorem AnyT.takeU {i : Nat} {oi : Oper} {v : Value} {fuel : Nat} {listed : Array Bool} {a : Act} {w : World} (hi : ops[i]? = some oi) (hs : Region.noSelect ops = true) (hf : Region.free md ops listed i = true) (hw : waitsU md ops late listed i = true) (hc : closedB md ops listed = true) (hr : (Region.ready md ops listed).contains i = true)
  (hQ : ∀ c a w, Q (.panic c) (a.put oi.dst v) w → Q (.panic c) a w) (hy : YieldsIf P ops S oi v a) (hS : S w) (h : AnyT P md ops Q S late fuel (listed.setIfInBounds i true) (a.put oi.dst v) w) : AnyT P md ops Q S late (fuel + 1) listed a w :=
 AnyT.firstU hi (Region.noSelect_spec hs) hQ fuel listed a w (Region.free_spec hi hf) (fun j o ho hl hu => by
  have h1 := List.all_eq_true.1 hw j (List.mem_range.2 (lt_of_get ho))
  rw [hl, hu] at h1
  simpa using h1) (closed_of hc) (by simpa using hr) hy hS h
end
end heldT
end
section
namespace findW
open Go.RowKit base ints sig marks app appAt sym segs segsHelp shape kindsW drawX walkMath reachMath
abbrev sTs : Sh := .row 27 sI
abbrev sFound : Sh := .cat sTs (.cat sI (.cat sStepS (.cat sI .bit)))
def NotIn (w : World) (bad : Nat → Prop) (b : Nat) : Prop := b < w.heap.size ∧ ¬ bad b
section
variable {w w' : World} {bad bad' : Nat → Prop} {r : Option Nat} {s : Sh} {cs : List Value} {d : Dat s}
theorem notIn_kept (h : RdQ w (NotIn w bad) s cs d) (hg : w.grownBy w' r) (hr : ∀ k, r = some k → bad k) (hb : ∀ b, b < w.heap.size → bad' b → bad b) : RdQ w' (NotIn w' bad') s cs d :=
 (h.keep fun b q => hg.block b q.1 (fun e => q.2 (hr b e.symm))).mono fun b q => ⟨Nat.lt_of_lt_of_le q.1 hg.size, fun q' => q.2 (hb b q.1 q')⟩
theorem grown_of_below (hb : Below w.heap.size w w') : w.grownBy w' none := ⟨hb.os, hb.tape, hb.output, hb.size, fun k hk _ => hb.block k hk⟩
theorem notIn_below (h : RdQ w (NotIn w bad) s cs d) (hb : Below w.heap.size w w') : RdQ w' (NotIn w' bad) s cs d := notIn_kept h (grown_of_below hb) (fun k e => by cases e) (fun _ _ h => h)
theorem notIn_of {B : Nat} : ∀ {s : Sh} {cs : List Value} {d : Dat s}, Rd w B s cs d → B ≤ w.heap.size → (∀ b, bad b → B ≤ b) → RdQ w (NotIn w bad) s cs d
 | .num, _, _, h, _, _ => h
 | .bit, _, _, h, _, _ => h
 | .row _ s, _, _, h, h1, h2 => by
  obtain ⟨A, n, c, e, hc, hl, h3⟩ := h
  refine ⟨A, n, c, e, hc, hl, fun hn => ?_⟩
  obtain ⟨b, off, e2, hb, h4⟩ := h3 hn
  refine ⟨b, off, e2, ⟨by omega, fun q => by have := h2 b q; omega⟩, fun j hj => ?_⟩
  obtain ⟨es, he, hp, hr⟩ := h4 j hj
  exact ⟨es, he, hp, notIn_of hr h1 h2⟩
 | .cat a b, _, _, h, h1, h2 => by
  obtain ⟨ca, cb, e, h3, h4⟩ := h
  exact ⟨ca, cb, e, notIn_of h3 h1 h2, notIn_of h4 h1 h2⟩
theorem notIn_ow : ∀ {s : Sh} {cs : List Value} {d : Dat s} {F : List Nat}, Ow w s cs d F → (∀ k ∈ F, ¬ bad k) → RdQ w (NotIn w bad) s cs d
 | .num, _, _, _, h, _ => h.1
 | .bit, _, _, _, h, _ => h.1
 | .row e s, _, _, F, h, hF => by
  have hrd := h.rd
  obtain ⟨A', n', c', e0, hc, _, _⟩ := hrd
  obtain ⟨A, n, c, e1, hl, h1⟩ := h
  rw [e1] at e0
  injection e0 with e0
  injection e0 with q1 q2 q3
  subst q1 q2 q3
  refine ⟨A, n, c, e1, hc, hl, fun hn => ?_⟩
  rcases h1 with ⟨_, h0, _, _⟩ | ⟨g, cur, E, G, e2, hr, h2, h3, h4, h5, h6⟩
  ·omega
  ·subst h5
   refine ⟨g, 0, e2, ⟨hr.lt, hF g (List.mem_cons_self ..)⟩, fun j hj => ?_⟩
   obtain ⟨q1, q2, q3⟩ := h6 j hj
   refine ⟨E j, q1, fun i hi => ?_, notIn_ow q3 fun k hk => hF k (List.mem_cons_of_mem _ (List.mem_flatMap.2 ⟨j, List.mem_range.2 hj, hk⟩))⟩
   rw [Nat.zero_add, hr.cell, q2 i (by omega)]
 | .cat a b, _, _, F, h, hF => by
  obtain ⟨ca, cb, Fa, Fb, e, e2, h1, h2⟩ := h
  subst e2
  exact ⟨ca, cb, e, notIn_ow h1 fun k hk => hF k (List.mem_append_left _ hk), notIn_ow h2 fun k hk => hF k (List.mem_append_right _ hk)⟩
theorem notIn_owned {lo hi : Nat} (h : Owned w lo hi s cs d) (hb : ∀ k, lo ≤ k → k < hi → ¬ bad k) : RdQ w (NotIn w bad) s cs d := by
 obtain ⟨F, h, -, hF⟩ := h
 exact notIn_ow h fun k hk => hb k (hF k hk).1 (hF k hk).2
theorem grown_set (w : World) (g i : Nat) (u : Value) : w.grownBy (w.setCell ⟨g, i, none⟩ u) (some g) := ⟨rfl, rfl, rfl, by simp, fun k hk hne => Below.heap_setCell w _ u k (fun e => hne (by rw [e]))⟩
theorem notIn_rd (h : RdQ w (NotIn w bad) s cs d) : Rd w w.heap.size s cs d := h.rd fun _ h => h.1
end
def XS (w : World) (bad : Nat → Prop) (lo : Nat) (e : TypeId) (s : Sh) (g n c : Nat) (D : List (Dat s)) : Prop :=
 D.length = n ∧ ∃ vs : List Value, w.ownsRow lo e (nc s) (.slice (some ⟨g, 0, none⟩) n c) n vs ∧ ∀ j, j < n → RdQ w (NotIn w bad) s (cellsOf (nc s) vs j) (D.getD j (dft s))
section
variable {w w' : World} {bad bad' : Nat → Prop} {r : Option Nat} {lo g n c : Nat} {e : TypeId} {s : Sh} {D : List (Dat s)}
theorem XS.kept (h : XS w bad lo e s g n c D) (hg : w.grownBy w' r) (hr : ∀ k, r = some k → bad k) (hne : r ≠ some g) (hb : ∀ b, b < w.heap.size → bad' b → bad b) : XS w' bad' lo e s g n c D := by
 obtain ⟨h1, vs, h2, h3⟩ := h
 exact ⟨h1, vs, World.ownsRow.kept h2 hg (.inr fun q => hne q.symm), fun j hj => notIn_kept (h3 j hj) hg hr hb⟩
theorem XS.below (h : XS w bad lo e s g n c D) (hb : Below w.heap.size w w') : XS w' bad lo e s g n c D := h.kept (grown_of_below hb) (fun k e => by cases e) (fun e => by cases e) (fun _ _ h => h)
theorem XS.ge (h : XS w bad lo e s g n c D) : lo ≤ g ∧ g < w.heap.size := by
 obtain ⟨_, vs, ho, _⟩ := h
 exact World.ownsRow.lt ho g rfl
theorem XS.len (h : XS w bad lo e s g n c D) : D.length = n := h.1
theorem XS.rd {e0 : TypeId} (h : XS w bad lo e s g n c D) : Rd w w.heap.size (.row e0 s) [.slice (some ⟨g, 0, none⟩) n c] D := by
 obtain ⟨h1, vs, ho, h3⟩ := h
 rcases ho.2 with ⟨e1, h0⟩ | ⟨g', cap, cur, e1, hg, hrow, hn, hm, hs, ht⟩
 ·injection e1 with a1 a2 a3
  cases a1
 ·injection e1 with a1 a2 a3
  injection a1 with a1
  injection a1 with a1
  subst a1 a3
  refine ⟨_, n, c, rfl, ⟨hn, by unfold maxLen at hm; omega, fun e => by cases e⟩, h1, fun h0 => ⟨g, 0, rfl, (Array.getElem?_eq_some_iff.1 hrow).1, fun j hj => ⟨cellsOf (nc s) vs j, (h3 j hj).len, fun i hi => ?_, notIn_rd (h3 j hj)⟩⟩⟩
  have hl := (h3 j hj).len
  have hi : i < nc s := by omega
  have hjn : j * nc s + nc s ≤ n * nc s := by
   have := Nat.mul_le_mul_right (nc s) (show j + 1 ≤ n by omega)
   rw [Nat.add_mul] at this
   omega
  rw [Nat.zero_add, Row.cell (t := e) (cs := cur) hrow]
  have h5 : cur.toList[j * nc s + i]? = vs[j * nc s + i]? := by
   rw [← ht, List.getElem?_take, if_pos (by omega)]
  rw [← Array.getElem?_toList, h5]
  unfold cellsOf
  rw [List.getElem?_take, if_pos hi, List.getElem?_drop]
theorem XS.single {es : List Value} {y : Dat s} (hr : Row w g e es.toArray) (hv : RdQ w (NotIn w bad) s es y) (hlo : lo ≤ g) : XS w bad lo e s g 1 1 [y] := by
 have hel := hv.len
 refine ⟨rfl, es, ⟨by rw [hel]; simp, .inr ⟨g, 1, es.toArray, rfl, hlo, hr, Nat.le_refl _, by unfold maxLen; omega, by simp [hel], by simp [← hel]⟩⟩, fun j hj => ?_⟩
 obtain rfl : j = 0 := by omega
 have : cellsOf (nc s) es 0 = es := by unfold cellsOf; rw [Nat.zero_mul, List.drop_zero, List.take_of_length_le (by omega)]
 rw [this]; exact hv
theorem XS.app {vs es : List Value} {x : Dat s} {g' c' : Nat} (hl : D.length = n) (hr : w.ownsRow lo e (nc s) (.slice (some ⟨g, 0, none⟩) n c) n vs) (hin : ∀ j, j < n → RdQ w (NotIn w bad) s (cellsOf (nc s) vs j) (D.getD j (dft s))) (hv : RdQ w (NotIn w bad) s es x)
  (hown' : w'.ownsRow lo e (nc s) (.slice (some ⟨g', 0, none⟩) (n + 1) c') (n + 1) (vs ++ es)) (hg : w.grownBy w' (some g)) (hbad : bad g) (hb : ∀ b, b < w.heap.size → bad' b → bad b) : XS w' bad' lo e s g' (n + 1) c' (D ++ [x]) := by
 have hvl : vs.length = n * nc s := hr.1
 have hel := hv.len
 have keep : ∀ {us : List Value} {y : Dat s}, RdQ w (NotIn w bad) s us y → RdQ w' (NotIn w' bad') s us y := fun hu => notIn_kept hu hg (fun k e => by injection e with e; rw [← e]; exact hbad) hb
 refine ⟨by simp [hl], vs ++ es, hown', fun j hj => ?_⟩
 by_cases ej : j = n
 ·subst ej
  rw [show (D ++ [x]).getD j (dft s) = x by simp [List.getD, ← hl]]
  have : cellsOf (nc s) (vs ++ es) j = es := by
   unfold cellsOf
   rw [List.drop_append_of_le_length (by omega), List.drop_of_length_le (by omega), List.nil_append, List.take_of_length_le (by omega)]
  rw [this]
  exact keep hv
 ·rw [show (D ++ [x]).getD j (dft s) = D.getD j (dft s) by simp [List.getD, List.getElem?_append_left (show j < D.length by omega)]]
  have hjn : j * nc s + nc s ≤ n * nc s := by
   have := Nat.mul_le_mul_right (nc s) (show j + 1 ≤ n by omega)
   rw [Nat.add_mul] at this
   omega
  have : cellsOf (nc s) (vs ++ es) j = cellsOf (nc s) vs j := by
   unfold cellsOf
   rw [List.drop_append_of_le_length (by omega), List.take_append_of_le_length (by rw [List.length_drop]; omega)]
  rw [this]
  exact keep (hin j (by omega))
end
theorem wp_appX {w : World} {o : Oper} {a : Act} {K : Act → World → Prop} {Q : Exit → Act → World → Prop} (sx x : Operand) (T e : TypeId) (s : Sh) (z : Value) (bytes : Nat) (hT : Tryz.prog.underlying T = some (.slice e))
  (hI : (Tryz.prog.info? e).map (fun i => (i.zero, i.size, i.bytes)) = some (some z, nc s, bytes)) (hzc : z.cells.size = nc s) (hby : bytes ≤ 4096)
  (ho : o.op = .call { callee := .builtin .append, args := #[sx, x], argTypes := #[T, T] })
  (bad : Nat → Prop) (lo g n c q c2 : Nat) (D : List (Dat s)) (es : List Value) (y : Dat s) (hs : a.eval sx = .slice (some ⟨g, 0, none⟩) n c) (hown : XS w bad lo e s g n c D) (hbad : bad g) (hxv : a.eval x = .slice (some ⟨q, 0, none⟩) 1 c2)
  (hy : ∀ i, i < es.length → w.cell? ⟨q, i, none⟩ = es[i]?) (hv : RdQ w (NotIn w bad) s es y) (hn : n ≤ 1048576) (hlo : lo ≤ w.heap.size)
  (h : ∀ g' c' w', (∀ bad' : Nat → Prop, (∀ b, b < w.heap.size → bad' b → bad b) → XS w' bad' lo e s g' (n + 1) c' (D ++ [y])) → w.grownBy w' (some g) → (g' = g ∨ g' = w.heap.size) → Below lo w w' → K (a.put o.dst (.slice (some ⟨g', 0, none⟩) (n + 1) c')) w') : o.wp Tryz.prog a w K Q := by
 obtain ⟨i0, hi', hz0, hz1, hz2⟩ := info_parts hI
 obtain ⟨h1, vs, hr, hin⟩ := hown
 have hel := hv.len
 have hcells : ∀ j u, es[j]? = some u → w.cell? ((⟨q, 0, none⟩ : Addr).add j) = some u := fun j u hj => by
  have e2 : (⟨q, 0, none⟩ : Addr).add j = ⟨q, j, none⟩ := by unfold Addr.add; split <;> simp_all
  rw [e2, hy j (List.getElem?_eq_some_iff.1 hj).1, hj]
 obtain ⟨v', w', hrun, hown', hg, hnn, hat⟩ := run_append_own_at (P := Tryz.prog) w lo T o.type e i0 z (nc s) bytes hT hi' hz0 hz1 hz2 hzc (nc_pos s) (.slice (some ⟨g, 0, none⟩) n c) n vs hr ⟨q, 0, none⟩ 1 c2 es (by rw [hel]; simp) hcells hv.one (by unfold maxLen; omega) (by have h1 : (n + 1) * bytes ≤ 1048577 * 4096 := Nat.mul_le_mul (by omega) hby; omega) hlo
 rw [blk_own] at hg
 obtain ⟨g', c', rfl⟩ : ∃ g' c', v' = .slice (some ⟨g', 0, none⟩) (n + 1) c' := by
  rcases hown'.2 with ⟨_, h0⟩ | ⟨g', cap, cur, e1, _⟩
  ·omega
  ·exact ⟨_, _, e1⟩
 have hat2 : g' = g ∨ g' = w.heap.size := by
  rw [blk_own, blk_own] at hat
  exact hat.imp (fun e => by injection e) (fun e => by injection e)
 unfold Oper.wp execOp
 simp only [ho, resolve, invoke, builtin, Sem.run_bind, Sem.run_pure, Result.andThen_ok, List.map_toArray, List.map_cons, List.map_nil, hs, hxv, hrun]
 exact h g' c' w' (fun bad' hb => XS.app h1 hr hin hv hown' hg hbad hb) hg hat2 ((Below.refl lo w).grown hg hlo (fun k hk => by injection hk with hk; rw [← hk]; exact (World.ownsRow.lt hr g rfl).1))
theorem appXm {w : World} {ops : Array Oper} {rest : List Oper} {o : Oper} {a : Act} {Q : Exit → Act → World → Prop} (hgd : o.guard = none) (sx x : Operand) (T e : TypeId) (s : Sh) (z : Value) (bytes : Nat) (hT : Tryz.prog.underlying T = some (.slice e))
  (hI : (Tryz.prog.info? e).map (fun i => (i.zero, i.size, i.bytes)) = some (some z, nc s, bytes)) (hzc : z.cells.size = nc s) (hby : bytes ≤ 4096)
  (ho : o.op = .call { callee := .builtin .append, args := #[sx, x], argTypes := #[T, T] })
  (bad : Nat → Prop) (lo g n c q c2 : Nat) (D : List (Dat s)) (es : List Value) (y : Dat s) (hs : a.eval sx = .slice (some ⟨g, 0, none⟩) n c) (hown : XS w bad lo e s g n c D) (hbad : bad g) (hxv : a.eval x = .slice (some ⟨q, 0, none⟩) 1 c2)
  (hy : ∀ i, i < es.length → w.cell? ⟨q, i, none⟩ = es[i]?) (hv : RdQ w (NotIn w bad) s es y) (hn : n ≤ 1048576) (hlo : lo ≤ w.heap.size)
  (h : ∀ g' c' w', (∀ bad' : Nat → Prop, (∀ b, b < w.heap.size → bad' b → bad b) → XS w' bad' lo e s g' (n + 1) c' (D ++ [y])) → w.grownBy w' (some g) → (g' = g ∨ g' = w.heap.size) → Below lo w w' → wpList Tryz.prog ops Q rest (a.put o.dst (.slice (some ⟨g', 0, none⟩) (n + 1) c')) w') : wpList Tryz.prog ops Q (o :: rest) a w :=
 wpList_plain hgd fun _ hK => wp_appX sx x T e s z bytes hT hI hzc hby ho bad lo g n c q c2 D es y hs hown hbad hxv hy hv hn hlo fun g' c' w' h1 h2 h3 h4 => hK _ _ (h g' c' w' h1 h2 h3 h4)
def bad5 (lo B g1 g2 g3 g4 : Nat) (b : Nat) : Prop := b < lo ∨ b = B ∨ b = g1 ∨ b = g2 ∨ b = g3 ∨ b = g4
structure Fo (w : World) (lo B g1 n1 c1 g2 n2 c2 g3 n3 c3 g4 n4 c4 : Nat) (D1 : List (List Int)) (D2 : List Int) (D3 : List St) (D4 : List Int) (fl : Bool) : Prop where
 row : Row w B 156 #[.slice (some ⟨g1, 0, none⟩) n1 c1, .slice (some ⟨g2, 0, none⟩) n2 c2, .slice (some ⟨g3, 0, none⟩) n3 c3, .slice (some ⟨g4, 0, none⟩) n4 c4, .bool fl]
 x1 : XS w (bad5 lo B g1 g2 g3 g4) lo 27 sI g1 n1 c1 D1
 x2 : XS w (bad5 lo B g1 g2 g3 g4) lo 2 .num g2 n2 c2 D2
 x3 : XS w (bad5 lo B g1 g2 g3 g4) lo 124 sStep g3 n3 c3 D3
 x4 : XS w (bad5 lo B g1 g2 g3 g4) lo 2 .num g4 n4 c4 D4
 dis : B ≠ g1 ∧ B ≠ g2 ∧ B ≠ g3 ∧ B ≠ g4 ∧ g1 ≠ g2 ∧ g1 ≠ g3 ∧ g1 ≠ g4 ∧ g2 ≠ g3 ∧ g2 ≠ g4 ∧ g3 ≠ g4
section
variable {w w' : World} {lo B g1 n1 c1 g2 n2 c2 g3 n3 c3 g4 n4 c4 : Nat} {D1 : List (List Int)} {D2 : List Int} {D3 : List St} {D4 : List Int} {fl : Bool}
theorem Fo.below (h : Fo w lo B g1 n1 c1 g2 n2 c2 g3 n3 c3 g4 n4 c4 D1 D2 D3 D4 fl) (hb : Below w.heap.size w w') : Fo w' lo B g1 n1 c1 g2 n2 c2 g3 n3 c3 g4 n4 c4 D1 D2 D3 D4 fl :=
 ⟨h.row.next hb, h.x1.below hb, h.x2.below hb, h.x3.below hb, h.x4.below hb, h.dis⟩
theorem bad_lt (h : Fo w lo B g1 n1 c1 g2 n2 c2 g3 n3 c3 g4 n4 c4 D1 D2 D3 D4 fl) {k : Nat} (hk : bad5 lo B g1 g2 g3 g4 k) : k < w.heap.size := by
 have h0 := h.row.lt
 have h1 := h.x1.ge
 have h2 := h.x2.ge
 have h3 := h.x3.ge
 have h4 := h.x4.ge
 unfold bad5 at hk
 omega
theorem Fo.app1 (h : Fo w lo B g1 n1 c1 g2 n2 c2 g3 n3 c3 g4 n4 c4 D1 D2 D3 D4 fl) {g' c' : Nat} {x : List Int} (hx : ∀ bad' : Nat → Prop, (∀ b, b < w.heap.size → bad' b → bad5 lo B g1 g2 g3 g4 b) → XS w' bad' lo 27 sI g' (n1 + 1) c' (D1 ++ [x])) (hg : w.grownBy w' (some g1)) (hat : g' = g1 ∨ g' = w.heap.size) :
  Fo (w'.setCell ⟨B, 0, none⟩ (.slice (some ⟨g', 0, none⟩) (n1 + 1) c')) lo B g' (n1 + 1) c' g2 n2 c2 g3 n3 c3 g4 n4 c4 (D1 ++ [x]) D2 D3 D4 fl := by
 obtain ⟨d1, d2, d3, d4, d5, d6, d7, d8, d9, d10⟩ := h.dis
 have l0 := h.row.lt
 have l2 := h.x2.ge
 have l3 := h.x3.ge
 have l4 := h.x4.ge
 have hb : ∀ b, b < w.heap.size → bad5 lo B g' g2 g3 g4 b → bad5 lo B g1 g2 g3 g4 b := fun b hb q => by unfold bad5 at q ⊢; omega
 have hr : ∀ k, some g1 = some k → bad5 lo B g1 g2 g3 g4 k := fun k e => by injection e with e; unfold bad5; omega
 have hB : ∀ k, some B = some k → bad5 lo B g' g2 g3 g4 k := fun k e => by injection e with e; unfold bad5; omega
 have hs := grown_set w' B 0 (.slice (some ⟨g', 0, none⟩) (n1 + 1) c')
 refine ⟨Row.put (Row.away h.row hg (fun e => d1 (by injection e with e; exact e.symm))) 0 _, (hx _ hb).kept hs hB (fun e => by injection e with e; omega) (fun _ _ q => q), (h.x2.kept hg hr (fun e => d5 (by injection e)) hb).kept hs hB (fun e => d2 (by injection e)) (fun _ _ q => q), (h.x3.kept hg hr (fun e => d6 (by injection e)) hb).kept hs hB (fun e => d3 (by injection e)) (fun _ _ q => q), (h.x4.kept hg hr (fun e => d7 (by injection e)) hb).kept hs hB (fun e => d4 (by injection e)) (fun _ _ q => q), ?_⟩
 omega
theorem Fo.app2 (h : Fo w lo B g1 n1 c1 g2 n2 c2 g3 n3 c3 g4 n4 c4 D1 D2 D3 D4 fl) {g' c' : Nat} {x : Int} (hx : ∀ bad' : Nat → Prop, (∀ b, b < w.heap.size → bad' b → bad5 lo B g1 g2 g3 g4 b) → XS w' bad' lo 2 .num g' (n2 + 1) c' (D2 ++ [x])) (hg : w.grownBy w' (some g2)) (hat : g' = g2 ∨ g' = w.heap.size) :
  Fo (w'.setCell ⟨B, 1, none⟩ (.slice (some ⟨g', 0, none⟩) (n2 + 1) c')) lo B g1 n1 c1 g' (n2 + 1) c' g3 n3 c3 g4 n4 c4 D1 (D2 ++ [x]) D3 D4 fl := by
 obtain ⟨d1, d2, d3, d4, d5, d6, d7, d8, d9, d10⟩ := h.dis
 have l0 := h.row.lt
 have l1 := h.x1.ge
 have l3 := h.x3.ge
 have l4 := h.x4.ge
 have hb : ∀ b, b < w.heap.size → bad5 lo B g1 g' g3 g4 b → bad5 lo B g1 g2 g3 g4 b := fun b hb q => by unfold bad5 at q ⊢; omega
 have hr : ∀ k, some g2 = some k → bad5 lo B g1 g2 g3 g4 k := fun k e => by injection e with e; unfold bad5; omega
 have hB : ∀ k, some B = some k → bad5 lo B g1 g' g3 g4 k := fun k e => by injection e with e; unfold bad5; omega
 have hs := grown_set w' B 1 (.slice (some ⟨g', 0, none⟩) (n2 + 1) c')
 refine ⟨Row.put (Row.away h.row hg (fun e => d2 (by injection e with e; exact e.symm))) 1 _, (h.x1.kept hg hr (fun e => d5 (by injection e with e; exact e.symm)) hb).kept hs hB (fun e => d1 (by injection e)) (fun _ _ q => q), (hx _ hb).kept hs hB (fun e => by injection e with e; omega) (fun _ _ q => q), (h.x3.kept hg hr (fun e => d8 (by injection e)) hb).kept hs hB (fun e => d3 (by injection e)) (fun _ _ q => q), (h.x4.kept hg hr (fun e => d9 (by injection e)) hb).kept hs hB (fun e => d4 (by injection e)) (fun _ _ q => q), ?_⟩
 omega
theorem Fo.app3 (h : Fo w lo B g1 n1 c1 g2 n2 c2 g3 n3 c3 g4 n4 c4 D1 D2 D3 D4 fl) {g' c' : Nat} {x : St} (hx : ∀ bad' : Nat → Prop, (∀ b, b < w.heap.size → bad' b → bad5 lo B g1 g2 g3 g4 b) → XS w' bad' lo 124 sStep g' (n3 + 1) c' (D3 ++ [x])) (hg : w.grownBy w' (some g3)) (hat : g' = g3 ∨ g' = w.heap.size) :
  Fo (w'.setCell ⟨B, 2, none⟩ (.slice (some ⟨g', 0, none⟩) (n3 + 1) c')) lo B g1 n1 c1 g2 n2 c2 g' (n3 + 1) c' g4 n4 c4 D1 D2 (D3 ++ [x]) D4 fl := by
 obtain ⟨d1, d2, d3, d4, d5, d6, d7, d8, d9, d10⟩ := h.dis
 have l0 := h.row.lt
 have l1 := h.x1.ge
 have l2 := h.x2.ge
 have l4 := h.x4.ge
 have hb : ∀ b, b < w.heap.size → bad5 lo B g1 g2 g' g4 b → bad5 lo B g1 g2 g3 g4 b := fun b hb q => by unfold bad5 at q ⊢; omega
 have hr : ∀ k, some g3 = some k → bad5 lo B g1 g2 g3 g4 k := fun k e => by injection e with e; unfold bad5; omega
 have hB : ∀ k, some B = some k → bad5 lo B g1 g2 g' g4 k := fun k e => by injection e with e; unfold bad5; omega
 have hs := grown_set w' B 2 (.slice (some ⟨g', 0, none⟩) (n3 + 1) c')
 refine ⟨Row.put (Row.away h.row hg (fun e => d3 (by injection e with e; exact e.symm))) 2 _, (h.x1.kept hg hr (fun e => d6 (by injection e with e; exact e.symm)) hb).kept hs hB (fun e => d1 (by injection e)) (fun _ _ q => q), (h.x2.kept hg hr (fun e => d8 (by injection e with e; exact e.symm)) hb).kept hs hB (fun e => d2 (by injection e)) (fun _ _ q => q), (hx _ hb).kept hs hB (fun e => by injection e with e; omega) (fun _ _ q => q), (h.x4.kept hg hr (fun e => d10 (by injection e)) hb).kept hs hB (fun e => d4 (by injection e)) (fun _ _ q => q), ?_⟩
 omega
theorem Fo.app4 (h : Fo w lo B g1 n1 c1 g2 n2 c2 g3 n3 c3 g4 n4 c4 D1 D2 D3 D4 fl) {g' c' : Nat} {x : Int} (hx : ∀ bad' : Nat → Prop, (∀ b, b < w.heap.size → bad' b → bad5 lo B g1 g2 g3 g4 b) → XS w' bad' lo 2 .num g' (n4 + 1) c' (D4 ++ [x])) (hg : w.grownBy w' (some g4)) (hat : g' = g4 ∨ g' = w.heap.size) :
  Fo (w'.setCell ⟨B, 3, none⟩ (.slice (some ⟨g', 0, none⟩) (n4 + 1) c')) lo B g1 n1 c1 g2 n2 c2 g3 n3 c3 g' (n4 + 1) c' D1 D2 D3 (D4 ++ [x]) fl := by
 obtain ⟨d1, d2, d3, d4, d5, d6, d7, d8, d9, d10⟩ := h.dis
 have l0 := h.row.lt
 have l1 := h.x1.ge
 have l2 := h.x2.ge
 have l3 := h.x3.ge
 have hb : ∀ b, b < w.heap.size → bad5 lo B g1 g2 g3 g' b → bad5 lo B g1 g2 g3 g4 b := fun b hb q => by unfold bad5 at q ⊢; omega
 have hr : ∀ k, some g4 = some k → bad5 lo B g1 g2 g3 g4 k := fun k e => by injection e with e; unfold bad5; omega
 have hB : ∀ k, some B = some k → bad5 lo B g1 g2 g3 g' k := fun k e => by injection e with e; unfold bad5; omega
 have hs := grown_set w' B 3 (.slice (some ⟨g', 0, none⟩) (n4 + 1) c')
 refine ⟨Row.put (Row.away h.row hg (fun e => d4 (by injection e with e; exact e.symm))) 3 _, (h.x1.kept hg hr (fun e => d7 (by injection e with e; exact e.symm)) hb).kept hs hB (fun e => d1 (by injection e)) (fun _ _ q => q), (h.x2.kept hg hr (fun e => d9 (by injection e with e; exact e.symm)) hb).kept hs hB (fun e => d2 (by injection e)) (fun _ _ q => q), (h.x3.kept hg hr (fun e => d10 (by injection e with e; exact e.symm)) hb).kept hs hB (fun e => d3 (by injection e)) (fun _ _ q => q), (hx _ hb).kept hs hB (fun e => by injection e with e; omega) (fun _ _ q => q), ?_⟩
 omega
theorem Fo.flag (h : Fo w lo B g1 n1 c1 g2 n2 c2 g3 n3 c3 g4 n4 c4 D1 D2 D3 D4 fl) (u : Bool) : Fo (w.setCell ⟨B, 4, none⟩ (.bool u)) lo B g1 n1 c1 g2 n2 c2 g3 n3 c3 g4 n4 c4 D1 D2 D3 D4 u := by
 obtain ⟨d1, d2, d3, d4, -⟩ := h.dis
 have hs := grown_set w B 4 (.bool u)
 have hB : ∀ k, some B = some k → bad5 lo B g1 g2 g3 g4 k := fun k e => by injection e with e; unfold bad5; omega
 exact ⟨Row.put h.row 4 _, h.x1.kept hs hB (fun e => d1 (by injection e)) (fun _ _ q => q), h.x2.kept hs hB (fun e => d2 (by injection e)) (fun _ _ q => q), h.x3.kept hs hB (fun e => d3 (by injection e)) (fun _ _ q => q), h.x4.kept hs hB (fun e => d4 (by injection e)) (fun _ _ q => q), h.dis⟩
theorem Fo.far (h : Fo w lo B g1 n1 c1 g2 n2 c2 g3 n3 c3 g4 n4 c4 D1 D2 D3 D4 fl) {q : Nat} (i : Nat) (u : Value) (hq : q < lo) (hqB : B ≠ q) : Fo (w.setCell ⟨q, i, none⟩ u) lo B g1 n1 c1 g2 n2 c2 g3 n3 c3 g4 n4 c4 D1 D2 D3 D4 fl := by
 have hs := grown_set w q i u
 have l1 := h.x1.ge
 have l2 := h.x2.ge
 have l3 := h.x3.ge
 have l4 := h.x4.ge
 have hB : ∀ k, some q = some k → bad5 lo B g1 g2 g3 g4 k := fun k e => by injection e with e; unfold bad5; omega
 exact ⟨Row.far h.row hqB u, h.x1.kept hs hB (fun e => by injection e with e; omega) (fun _ _ q => q), h.x2.kept hs hB (fun e => by injection e with e; omega) (fun _ _ q => q), h.x3.kept hs hB (fun e => by injection e with e; omega) (fun _ _ q => q), h.x4.kept hs hB (fun e => by injection e with e; omega) (fun _ _ q => q), h.dis⟩
end
end findW
end
end Go.Proofs.YtlaloakegajheaaGreat
