/-
  MERGED: my texts StepImplC, WalkImpl, WalkX, WalkSpecC, WalkSpecD, WalkX2, WalkImplC, WalkImplD, one behind the other, as they are. By an AI agent.
-/
import Derived.Test.YtfdejhhnochomaaMFnExactWalkInside5
import Derived.Shelf.Abstract
namespace Go.Proofs.Ytfdejhhnochomaa
section
open Go.Lib (hid)
namespace stepImpl
open Go.RowKit base ints sig term termOk endAt inside marks app sym sub segs segsHelp kinds termFacts matchMath whole takeMath take extended varsOf shape kindsR ruleMath ruleSpec ruleImpl stepMath walkMath stepSpec
set_option maxRecDepth 100000
theorem right_of {sg : List Int} {rs : List Rl} {t : List Int} (h : sysOkB sg rs = true) : rightB sg rs t = termOkB sg t := by unfold rightB; rw [h]; rfl
theorem there_eq {sg : List Int} {rs : List Rl} {t : List Int} {a r : Int} (h : sysOkB sg rs = true) : thereR sg rs t a r = (thereB sg t a && walkMath.inB r rs.length) := by
 unfold thereR thereB walkMath.inB endAt.inB
 rw [right_of h, Bool.and_assoc]
theorem hasRule (a : Value) (V : Option Addr) (q cv : Nat) (r : Int) (w : World) (hq : q ≤ 1048576) :
  Calls Try.prog 105 #[.agg #[a, .slice V q cv], .int .i64 r] w (AnsB w (walkMath.inB r q)) := by
 obtain ⟨W, hW, rA, bel⟩ := box1 w 93 #[a, .slice V q cv]
 have HW := hid hW
 have R := hid rA
 have FF := hid (fun (b : Bool) (h : walkMath.inB r q = b) => (ansB (b := walkMath.inB r q) (a := b) h.symm bel))
 clear hW rA bel
 by_cases h0 : r < 0
 ·have F := hid (FF.out false (by unfold walkMath.inB; exact decide_eq_false (by omega)))
  go_enter Try.func105, Try.ntmps105
  go_wp2_with fail
  try rw [← HW.out]
  go_wp2
  go_ret
  exact F.out
 ·by_cases h1 : r < (q : Int)
  ·have F := hid (FF.out true (by unfold walkMath.inB; exact decide_eq_true (by omega)))
   have h0' : (0 : Int) ≤ r := by omega
   have K1 : (w.alloc (.cells #[a, .slice V q cv] 93)).cell? ⟨w.heap.size, 1, none⟩ = some (.slice V q cv) := by rw [← HW.out]; exact R.out.cell 1
   go_enter Try.func105, Try.ntmps105
   go_wp2
   rw [← HW.out]
   go_ret
   exact F.out
  ·have F := hid (FF.out false (by unfold walkMath.inB; exact decide_eq_false (by omega)))
   have h0' : (0 : Int) ≤ r := by omega
   have K1 : (w.alloc (.cells #[a, .slice V q cv] 93)).cell? ⟨w.heap.size, 1, none⟩ = some (.slice V q cv) := by rw [← HW.out]; exact R.out.cell 1
   go_enter Try.func105, Try.ntmps105
   go_wp2
   rw [← HW.out]
   go_ret
   exact F.out
set_option maxHeartbeats 4000000 in
theorem hasRedex (a v u : Value) (d : Dat sSystem) (t : List Int) (x r : Int) (w : World) (h : Rd w w.heap.size sSystem [a, v] d) (ht : Rd w w.heap.size sI [u] t) (hz : sz sSystem d ≤ 1048576) (hz' : sz sI t ≤ 1048576) (oks : sysOkB d.1 d.2 = true) :
  Calls Try.prog 64 #[.agg #[a, v], u, .int .i64 x, .int .i64 r] w (AnsB w (redexB d.1 d.2 t x r)) := by
 have h0 := h
 have ht0 := ht
 obtain ⟨T, m, c, rfl, hT, hcT⟩ := rd_ints.1 ht
 have hm := len_ints hT.1 hz'
 obtain ⟨A, n, cs, V, q, cv, rfl, rfl, hs, hc, hcv, hq, hn, hq1, hrs, hsg, hE⟩ := rd_sys h hz
 obtain ⟨W, hW, rA, bel⟩ := box1 w 93 #[.slice A n cs, .slice V q cv]
 have HW := hid hW
 have LP := hid (placeIn A T n cs m c d.1 t x W (hs.next bel) (hT.next bel) hn hm)
 have HQ := hid hq
 have LHR := hid (fun (w1 : World) => hasRule (.slice A n cs) V q cv r w1 hq1)
 have LMA := hid (fun (w1 : World) (bb : Below w.heap.size w w1) (x k : Nat) hok hx hk => matchAt _ _ _ d t x k w1 (h0.next bb) (ht0.next bb) hz hok hx hk)
 have OKS := hid oks
 clear hW h h0 ht ht0 hz hz' hs hc hcv hq hrs hsg hE hT hcT oks
 obtain ⟨bp, hbp⟩ : ∃ bp, thereB d.1 t x = bp := ⟨_, rfl⟩
 have HP := hid hbp
 have HTH := hid (show thereR d.1 d.2 t x r = (bp && walkMath.inB r d.2.length) by rw [there_eq OKS.out, hbp])
 rw [hbp] at LP
 clear hbp
 cases bp with
 | false =>
  go_enter Try.func64, Try.ntmps64
  go_wp2_with fail
  rw [← HW.out]
  refine LP.out.mono ?_
  rintro e w1 ⟨rfl, bb⟩
  have F := hid (ansB (b := redexB d.1 d.2 t x r) (a := false) (by rw [redex_no (by rw [HTH.out]; rfl)]) (next_trans bel bb))
  clear bb bel rA LMA
  go_wp2
  go_ret
  exact F.out
 | true =>
  go_enter Try.func64, Try.ntmps64
  go_wp2_with fail
  rw [← HW.out]
  refine LP.out.mono ?_
  rintro e w1 ⟨rfl, bb⟩
  replace rA := rA.next bb
  replace bel := next_trans bel bb
  have K0 : w1.cell? ⟨w.heap.size, 0, none⟩ = some (.slice A n cs) := rA.cell 0
  have K1 : w1.cell? ⟨w.heap.size, 1, none⟩ = some (.slice V q cv) := rA.cell 1
  have LH1 := hid (LHR.out w1)
  clear bb LP LHR
  obtain ⟨bi, hbi⟩ : ∃ bi, walkMath.inB r q = bi := ⟨_, rfl⟩
  have HBI := hid hbi
  rw [hbi] at LH1
  clear hbi
  go_wp2_with fail
  refine LH1.out.mono ?_
  rintro e w2 ⟨rfl, bb⟩
  cases bi with
  | false =>
   have F := hid (ansB (b := redexB d.1 d.2 t x r) (a := false) (by rw [redex_no (by rw [HTH.out, HQ.out, HBI.out]; rfl)]) (next_trans bel bb))
   clear bb bel rA LMA K0 K1 LH1
   go_wp2
   go_ret
   exact F.out
  | true =>
   have hkk : 0 ≤ r ∧ r < (q : Int) := of_decide_eq_true HBI.out
   obtain ⟨k, rfl⟩ := Int.eq_ofNat_of_zero_le hkk.1
   have hkq : k < q := by omega
   have hx := endAt.there_parts HP.out
   obtain ⟨i, rfl⟩ := Int.eq_ofNat_of_zero_le hx.2.1
   have hix : i < t.length := by omega
   have okR : rightB d.1 d.2 t = true := by rw [right_of OKS.out]; exact hx.1
   have hkl : k < d.2.length := by rw [HQ.out]; exact hkq
   have HRE := hid (show redexB d.1 d.2 t (i : Int) (k : Int) = (mst d.1 t (d.2.getD k ([], [])).1 i s0).isSome by
    rw [redex_yes (by rw [HTH.out]; unfold walkMath.inB; rw [decide_eq_true (by omega)]; rfl), red_at (sys_rule OKS.out hkl) hx.1 hix]
    unfold rl
    rw [Int.toNat_natCast, Int.toNat_natCast])
   replace rA := rA.next bb
   replace bel := next_trans bel bb
   have LM1 := hid (LMA.out w2 bel i k okR hix hkl)
   clear K0 K1
   have K0 : w2.cell? ⟨w.heap.size, 0, none⟩ = some (.slice A n cs) := rA.cell 0
   have K1 : w2.cell? ⟨w.heap.size, 1, none⟩ = some (.slice V q cv) := rA.cell 1
   clear hx okR LMA HTH hkk hix hkl bb rA LH1
   obtain ⟨R, hR⟩ : ∃ R, mst d.1 t (d.2.getD k ([], [])).1 i s0 = R := ⟨_, rfl⟩
   rw [hR] at LM1 HRE
   clear hR
   go_wp2_with fail
   refine LM1.out.mono ?_
   rintro e w3 ⟨rs, rfl, tab, hsz, bb⟩
   have one := hid tab.one
   have h24 := hid tab.1
   obtain ⟨bo, hbo⟩ : ∃ bo, R.isSome = bo := ⟨_, rfl⟩
   rw [hbo]
   have F := hid (show AnsB w (redexB d.1 d.2 t (i : Int) (k : Int)) (.returned (.bool bo)) (w3.alloc (.cells rs 136)) from ⟨by rw [HRE.out, hbo], (next_trans bel bb).alloc (next_trans bel bb).size _⟩)
   clear tab hsz bb bel K0 K1 hbo LM1 HRE
   go_wp2_with (first
    | (refine rowAlloc rfl 136 rfl z24 zero_b ?_)
    | (refine rowStore rfl 136 _ _ rfl w3.heap.size rs z24 136 rfl rfl (heap_alloc_new w3 _) (by rw [h24.out]; exact size_b) (by rw [h24.out]; rfl) one.out ?_; rw [World.setRow_alloc_new]))
   go_ret
   exact F.out
set_option maxHeartbeats 4000000 in
theorem stepAt (a v u : Value) (d : Dat sSystem) (t : List Int) (x r : Int) (w : World) (h : Rd w w.heap.size sSystem [a, v] d) (ht : Rd w w.heap.size sI [u] t) (hz : sz sSystem d ≤ 1048576) (hz' : sz sI t ≤ 1048576) (oks : sysOkB d.1 d.2 = true) :
  Calls Try.prog 67 #[.agg #[a, v], u, .int .i64 x, .int .i64 r] w (AnsStep w (stepAtO d.1 d.2 t x r)) := by
 obtain ⟨W, hW, rA, bel⟩ := box1 w 93 #[a, v]
 have HW := hid hW
 have LH := hid (hasRedex a v u d t x r W (h.next bel) (ht.next bel) hz hz' oks)
 have LR := hid (fun (w1 : World) (bb : Below w.heap.size w w1) (x k : Nat) hok hx hk hred => reduced a v u d t x k w1 (h.next bb) (ht.next bb) hz hok hx hk hred)
 clear hW h ht hz hz'
 obtain ⟨bp, hbp⟩ : ∃ bp, redexB d.1 d.2 t x r = bp := ⟨_, rfl⟩
 rw [hbp] at LH
 cases bp with
 | false =>
  have HN := hid (show stepAtO d.1 d.2 t x r = none by
   cases e : stepAtO d.1 d.2 t x r with
   | none => rfl
   | some y => rw [stepAt_redex e] at hbp; cases hbp)
  clear hbp
  go_enter Try.func67, Try.ntmps67
  go_wp2_with fail
  rw [← HW.out]
  refine LH.out.mono ?_
  rintro e w1 ⟨rfl, bb⟩
  have F := hid (ansStep_nil (o := stepAtO d.1 d.2 t x r) HN.out (next_trans bel bb))
  clear bb bel rA LR
  go_wp2
  go_ret2
  exact F.out
 | true =>
  have hth : thereR d.1 d.2 t x r = true := by
   unfold redexB at hbp
   rw [Bool.and_eq_true] at hbp
   exact hbp.1
  obtain ⟨p1, p2, p3, p4⟩ := walkMath.there_parts hth
  obtain ⟨i, rfl⟩ := Int.eq_ofNat_of_zero_le p3.1
  obtain ⟨k, rfl⟩ := Int.eq_ofNat_of_zero_le p4.1
  rw [redex_yes hth] at hbp
  unfold rl at hbp
  rw [Int.toNat_natCast, Int.toNat_natCast] at hbp
  have LR1 := hid (fun w1 bb => LR.out w1 bb i k (right_yes p1 p2) (by omega) (by omega) hbp)
  have HE := hid (show stepAtO d.1 d.2 t (i : Int) (k : Int) = stepO d.1 (d.2.getD k ([], [])) t i by rw [at_yes hth]; unfold rl; rw [Int.toNat_natCast, Int.toNat_natCast])
  clear hth p1 p2 p3 p4 hbp LR oks
  go_enter Try.func67, Try.ntmps67
  go_wp2_with fail
  rw [← HW.out]
  refine LH.out.mono ?_
  rintro e w1 ⟨rfl, bb⟩
  replace rA := rA.next bb
  replace bel := next_trans bel bb
  have K0 : w1.cell? ⟨w.heap.size, 0, none⟩ = some a := rA.cell 0
  have K1 : w1.cell? ⟨w.heap.size, 1, none⟩ = some v := rA.cell 1
  have LR2 := hid (LR1.out w1 bel)
  clear bb LH LR1 rA
  go_wp2_with fail
  refine LR2.out.mono ?_
  rintro e w2 ⟨X, xn, xc, rfl, oX, bb⟩
  have F : AnsStep w (stepAtO d.1 d.2 t (i : Int) (k : Int)) (.returned (.tuple #[.slice X xn xc, .bool (stepO d.1 (d.2.getD k ([], [])) t i).isSome])) w2 := ⟨X, xn, xc, by rw [HE.out], by rw [HE.out]; exact Own.lower oX bel.size, next_trans bel bb⟩
  have HF := hid F
  clear F oX bb bel K0 K1 LR2
  generalize (stepO d.1 (d.2.getD k ([], [])) t i).isSome = bz at *
  go_wp2
  go_ret2
  exact HF.out
end stepImpl
end
section
open Go.Lib (hid)
namespace walkImpl
open Go.RowKit base ints sig term termOk endAt endOf marks app sym sub segs segsHelp kinds termFacts same shifted shape kindsR kindsW varsOf ruleMath ruleSpec ruleImpl stepMath walkMath stepSpec stepImpl walkSpec
set_option maxRecDepth 100000
structure Wm (w : World) (a v f s : Value) (d : Dat sSystem) (k : Dat sWalk) (i : Nat) (now : Value) (wr : World) : Prop where
 r : Row wr w.heap.size 93 #[a, v]
 q : Row wr (w.heap.size + 1) 56 #[f, s]
 b : Below w.heap.size w wr
 n : ∃ N nn nc, now = .slice N nn nc
 t : ∃ t, Rd wr wr.heap.size sI [now] t ∧ sz sI t ≤ 1048576 ∧ goOn d.1 d.2 k.1 k.2 = goOn d.1 d.2 t (k.2.drop i)
set_option maxHeartbeats 4000000 in
theorem leads (a v u : Value) (U : Option Addr) (un uc : Nat) (d : Dat sSystem) (t y : List Int) (x r : Int) (w : World) (h : Rd w w.heap.size sSystem [a, v] d) (ht : Rd w w.heap.size sI [u] t) (hU : Seg w w.heap.size U un y) (hz : sz sSystem d ≤ 1048576) (hz' : sz sI t ≤ 1048576) (hun : un ≤ 1048576) (oks : sysOkB d.1 d.2 = true) :
  Calls Try.prog 112 #[.agg #[a, v], u, .agg #[.int .i64 x, .int .i64 r, .slice U un uc]] w (AnsB w (decide (stepAtO d.1 d.2 t x r = some y))) := by
 obtain ⟨W, hW, rA, rX, bel⟩ := box2 w 93 102 #[a, v] #[.int .i64 x, .int .i64 r, .slice U un uc]
 have HW := hid hW
 have LS := hid (stepAt a v u d t x r W (h.next bel) (ht.next bel) hz hz' oks)
 have HU := hid (hU.next bel)
 have K0 : ((w.alloc (.cells #[a, v] 93)).alloc (.cells #[.int .i64 x, .int .i64 r, .slice U un uc] 102)).cell? ⟨w.heap.size, 0, none⟩ = some a := by rw [← hW]; exact rA.cell 0
 have K1 : ((w.alloc (.cells #[a, v] 93)).alloc (.cells #[.int .i64 x, .int .i64 r, .slice U un uc] 102)).cell? ⟨w.heap.size, 1, none⟩ = some v := by rw [← hW]; exact rA.cell 1
 clear hW h ht hU hz hz'
 obtain ⟨o, ho⟩ : ∃ o, stepAtO d.1 d.2 t x r = o := ⟨_, rfl⟩
 rw [ho] at LS
 rw [ho]
 have HL := hid (show ∀ z, o = some z → z.length ≤ 60 from fun z hz => by subst hz; exact step_len (stepAt_parts ho).2)
 clear ho
 go_enter Try.func112, Try.ntmps112
 go_wp2_with fail
 rw [← HW.out]
 refine LS.out.mono ?_
 rintro e w2 ⟨X, xn, xc, rfl, oX, bb⟩
 replace rX := rX.next bb
 have b2 := next_trans bel bb
 have k2 : w2.cell? ⟨w.heap.size + 1, 2, none⟩ = some (.slice U un uc) := rX.cell 2
 cases o with
 | none =>
  have F := hid (show AnsB w (decide ((none : Option (List Int)) = some y)) (.returned (.bool false)) w2 from ⟨rfl, b2⟩)
  clear oX bb rA rX bel b2 HL HU LS K0 K1 k2
  go_wp2
  go_ret
  exact F.out
 | some z =>
  have oY : Own w2 W.heap.size (.slice X xn xc) z := oX
  have hxn : xn ≤ 1048576 := by have := HL.out z rfl; have := Own.len oY; omega
  have LE := hid (implSame X U xn un xc uc z y w2 (Own.seg oY) (HU.out.next bb) hxn hun)
  clear oX oY HU bb rX rA bel LS K0 K1 HL
  go_wp2_with fail
  refine LE.out.mono ?_
  rintro e w3 ⟨rfl, dd, rfl⟩
  have F := hid (show AnsB w (decide (some z = some y)) (.returned (.bool (decide (z = y)))) (w2.drewN dd) from ⟨by congr 2; simp, below_drewN b2 dd⟩)
  clear b2 k2 LE
  generalize decide (z = y) = bz at *
  go_wp2
  go_ret
  exact F.out
set_option maxHeartbeats 4000000 in
theorem makes (a v f s : Value) (d : Dat sSystem) (k : Dat sWalk) (w : World) (h : Rd w w.heap.size sSystem [a, v] d) (h' : Rd w w.heap.size sWalk [f, s] k) (hz : sz sSystem d ≤ 1048576) (hz' : sz sWalk k ≤ 1048576) (oks : sysOkB d.1 d.2 = true) :
  Calls Try.prog 72 #[.agg #[a, v], .agg #[f, s]] w (AnsB w (goOn d.1 d.2 k.1 k.2).isSome) := by
 obtain ⟨F, fn, fc, S, sn, sc, rfl, rfl, hF, hcF, hfn, hsn, hsn1, hcS, hrF, hrS, hzF, hzS⟩ := rd_walk h' hz'
 obtain ⟨W, hW, rA, rW, bel⟩ := box2 w 93 56 #[a, v] #[.slice F fn fc, .slice S sn sc]
 have HW := hid hW
 have LST := hid (fun (w1 : World) (bb : Below w.heap.size w w1) (u : Value) (U : Option Addr) (un uc : Nat) (t y : List Int) (x r : Int) ht hU hzt hun => leads a v u U un uc d t y x r w1 (h.next bb) ht hU hz hzt hun oks)
 have HRS := hid hrS
 have HSN := hid hsn
 have HZS := hid hzS
 have H0 := hid (show Wm w a v (.slice F fn fc) (.slice S sn sc) d k 0 (.slice F fn fc) W from ⟨rA, rW, bel, ⟨_, _, _, rfl⟩, k.1, hrF.next bel, hzF, rfl⟩)
 clear hW h h' hz hz' hF hcF hsn hcS hrF hrS hzF hzS rA rW bel oks
 go_enter Try.func72, Try.ntmps72
 go_wp2_with fail
 rw [← HW.out]
 clear HW
 go_loopg [5, 13] sn (fun g now i_ wr => ∃ i : Nat, i_ = .int .i64 i ∧ i + g = sn ∧ Wm w a v (.slice F fn fc) (.slice S sn sc) d k i now wr)
 case atStart => exact ⟨0, rfl, by omega, H0.out⟩
 case round =>
  clear H0
  obtain ⟨i, rfl, hg, T⟩ := hrel
  obtain ⟨N, nn, nc, rfl⟩ := T.n
  obtain ⟨t, ht, hzt, hgo⟩ := T.t
  have HG := hid hg
  have HGO := hid hgo
  clear hg hgo
  by_cases hi : i < sn
  ·obtain ⟨b, off, u, x, hA, hb, ex, c0, c1, c2, hx2⟩ := rd_step HRS.out T.b HSN.out hi
   subst hA
   obtain ⟨U, un, uc, rfl, hU, hcU⟩ := rd_ints.1 hx2
   have hzx : sz sI x.2.2 ≤ 1048576 := by rw [← ex.out]; exact HZS.out i hi
   have hun : un ≤ 1048576 := len_ints hU.1 hzx
   obtain ⟨xa, hxa⟩ : ∃ z, x.1 = z := ⟨_, rfl⟩
   obtain ⟨xr, hxr⟩ : ∃ z, x.2.1 = z := ⟨_, rfl⟩
   rw [hxa] at c0
   rw [hxr] at c1
   have b1 : Below wr.heap.size wr (wr.alloc (.cells #[.int .i64 xa, .int .i64 xr, .slice U un uc] 102)) := (Below.refl _ _).alloc (Nat.le_refl _) _
   have K0 : wr.cell? ⟨w.heap.size, 0, none⟩ = some a := T.r.cell 0
   have K1 : wr.cell? ⟨w.heap.size, 1, none⟩ = some v := T.r.cell 1
   obtain ⟨w1, hw1⟩ : ∃ w1, w1 = wr.alloc (.cells #[.int .i64 xa, .int .i64 xr, .slice U un uc] 102) := ⟨_, rfl⟩
   rw [← hw1] at b1
   have r1 := T.r.next b1
   have q1 := T.q.next b1
   have bel1 := T.b.trans (b1.mono T.b.size)
   have rX : Row w1 wr.heap.size 102 #[.int .i64 xa, .int .i64 xr, .slice U un uc] := by rw [hw1]; exact Row.new _ _ _
   have hU1 := (hU.more T.b.size).next b1
   have hx3 := (hx2.more T.b.size).next b1
   have LS := hid (LST.out w1 bel1 (.slice N nn nc) U un uc t x.2.2 xa xr (ht.next b1) hU1 hzt hun)
   obtain ⟨o, ho⟩ : ∃ o, stepAtO d.1 d.2 t xa xr = o := ⟨_, rfl⟩
   rw [ho] at LS
   have HO := hid (show stepAtO d.1 d.2 t x.1 x.2.1 = o by rw [hxa, hxr]; exact ho)
   have hil : i < k.2.length := by rw [HSN.out]; exact hi
   have EX := hid (show k.2.getD i (0, 0, []) = x from ex.out)
   have i0 : (0 : Int) ≤ (i : Int) := by omega
   have i1 : (i : Int) < (sn : Int) := by omega
   have R0 : (wr.alloc (.cells #[.int .i64 xa, .int .i64 xr, .slice U un uc] 102)).cell? ⟨w.heap.size, 0, none⟩ = some a := by rw [← hw1]; exact r1.cell 0
   have R1 : (wr.alloc (.cells #[.int .i64 xa, .int .i64 xr, .slice U un uc] 102)).cell? ⟨w.heap.size, 1, none⟩ = some v := by rw [← hw1]; exact r1.cell 1
   have X0 : (wr.alloc (.cells #[.int .i64 xa, .int .i64 xr, .slice U un uc] 102)).cell? ⟨wr.heap.size, 0, none⟩ = some (.int .i64 xa) := by rw [← hw1]; exact rX.cell 0
   have X1 : (wr.alloc (.cells #[.int .i64 xa, .int .i64 xr, .slice U un uc] 102)).cell? ⟨wr.heap.size, 1, none⟩ = some (.int .i64 xr) := by rw [← hw1]; exact rX.cell 1
   have X2 : (wr.alloc (.cells #[.int .i64 xa, .int .i64 xr, .slice U un uc] 102)).cell? ⟨wr.heap.size, 2, none⟩ = some (.slice U un uc) := by rw [← hw1]; exact rX.cell 2
   have HW1 := hid hw1
   clear ho hxa hxr hx2 hU hcU T ht hzt ex b1 hw1 hU1
   go_wp2_with fail
   rw [← HW1.out]
   refine LS.out.mono ?_
   rintro e w2 ⟨rfl, bb⟩
   have r2 := r1.next bb
   have q2 := q1.next bb
   have b2 := next_trans bel1 bb
   have rX2 := rX.next bb
   have RY := hid (hx3.next bb)
   have k2 : w2.cell? ⟨wr.heap.size, 2, none⟩ = some (.slice U un uc) := rX2.cell 2
   clear r1 q1 bel1 rX hx3 c0 c1 c2 K0 K1 R0 R1 X0 X1 X2 LS HW1
   by_cases hoy : o = some x.2.2
   ·have HGN := hid (go_step hil EX.out (HO.out.trans hoy) rfl)
    have F := hid (show Wm w a v (.slice F fn fc) (.slice (some ⟨b, off, none⟩) sn sc) d k (i + 1) (.slice U un uc) w2 from ⟨r2, q2, b2, ⟨_, _, _, rfl⟩, x.2.2, RY.out, hzx, by rw [HGO.out, HGN.out]⟩)
    rw [decide_eq_true hoy]
    clear r2 q2 b2 bb rX2 RY HO hoy
    go_wp2
    go_roundg (gk - 1)
    case measure => have := HG.out; omega
    case rel => exact ⟨i + 1, by simp, by have := HG.out; omega, F.out⟩
   ·have F := hid (ansB (b := (goOn d.1 d.2 k.1 k.2).isSome) (a := false) (by
     rw [HGO.out]
     cases o with
     | none => rw [go_none hil EX.out HO.out]; rfl
     | some y => rw [go_differ hil EX.out HO.out (fun q => hoy (by rw [q]))]; rfl) b2)
    rw [decide_eq_false hoy]
    clear r2 q2 b2 bb rX2 RY HO hoy k2
    go_wp2
    go_ret
    exact F.out
  ·have F := hid (ansB (b := (goOn d.1 d.2 k.1 k.2).isSome) (a := true) (by rw [HGO.out, go_all (by rw [HSN.out]; have := HG.out; omega)]; rfl) T.b)
   clear T ht hzt
   go_wp2
   go_ret
   exact F.out
theorem walk_sys {sg : List Int} {rs : List Rl} {k : Wk} (h : sysOkB sg rs = false) : walkB sg rs k = false := walk_noR (right_sys h)
theorem walk_term {sg : List Int} {rs : List Rl} {k : Wk} (h : termOkB sg k.1 = false) : walkB sg rs k = false := walk_noR (right_term h)
set_option maxHeartbeats 4000000 in
theorem implWalkOk (a v f s : Value) (d : Dat sSystem) (k : Dat sWalk) (w : World) (h : Rd w w.heap.size sSystem [a, v] d) (h' : Rd w w.heap.size sWalk [f, s] k) (hz : sz sSystem d ≤ 1048576) (hz' : sz sWalk k ≤ 1048576) :
  Calls Try.prog 32 #[.agg #[a, v], .agg #[f, s]] w (AnsB w (walkB d.1 d.2 k)) := by
 obtain ⟨F, fn, fc, S, sn, sc, rfl, rfl, hF, hcF, hfn, hsn, hsn1, hcS, hrF, hrS, hzF, hzS⟩ := rd_walk h' hz'
 have h0 := h
 obtain ⟨A, n, cs, V, q, cv, rfl, rfl, hs, hc, hcv, hq, hn, hq1, hrs, hsg, hE⟩ := rd_sys h hz
 obtain ⟨W, hW, rA, rW, bel⟩ := box2 w 42 56 #[.slice A n cs, .slice V q cv] #[.slice F fn fc, .slice S sn sc]
 have HW := hid hW
 have LS := hid (systemOf _ _ d W (h0.next bel) hz)
 have LT := hid (fun (w1 : World) (bb : Below w.heap.size w w1) => implTermOk A F n cs fn fc d.1 k.1 w1 (hs.next bb) (hF.next bb) hn hfn)
 have LM := hid (fun (w1 : World) (bb : Below w.heap.size w w1) oks => makes _ _ _ _ d k w1 (h0.next bb) (h'.next bb) hz hz' oks)
 have HSN := hid hsn
 clear hW h h0 h' hz hz' hs hc hcv hq hrs hsg hE hF hcF hsn hcS hrF hrS hzF hzS
 cases ok : sysOkB d.1 d.2 with
 | false =>
  have HS := hid ok
  clear ok
  go_enter Try.func32, Try.ntmps32
  go_wp2_with fail
  rw [← HW.out]
  refine LS.out.mono ?_
  rintro e w1 ⟨he, bb⟩
  rw [HS.out] at he
  have he : e = .returned (.tuple #[.agg #[.slice none 0 0, .slice none 0 0], .bool false]) := he
  subst he
  have F := hid (fun o => ansB (b := walkB d.1 d.2 k) (a := false) (by rw [walk_sys HS.out]) ((next_trans bel bb).alloc (next_trans bel bb).size o))
  clear bb bel rA rW LT LM
  go_wp2
  go_ret
  exact F.out _
 | true =>
  have HS := hid ok
  clear ok
  cases okt : termOkB d.1 k.1 with
  | false =>
   have HT := hid okt
   clear okt
   go_enter Try.func32, Try.ntmps32
   go_wp2_with fail
   rw [← HW.out]
   refine LS.out.mono ?_
   rintro e w1 ⟨he, bb⟩
   rw [HS.out] at he
   have he : e = .returned (.tuple #[.agg #[.slice A n cs, .slice V q cv], .bool true]) := he
   subst he
   have b2 := (Below.refl w1.heap.size w1).alloc (Nat.le_refl _) (.cells #[.slice A n cs, .slice V q cv] 93)
   have r2 := (rW.next bb).next b2
   have bel2 := next_trans (next_trans bel bb) b2
   have k0 : (w1.alloc (.cells #[.slice A n cs, .slice V q cv] 93)).cell? ⟨w.heap.size + 1, 0, none⟩ = some (.slice F fn fc) := r2.cell 0
   have LT1 := hid (LT.out _ bel2)
   have B2 := hid bel2
   clear bb bel rA rW LT LM b2 r2 bel2
   go_wp2_with fail
   refine LT1.out.mono ?_
   rintro e w3 ⟨he, bb⟩
   rw [HT.out] at he
   subst he
   have F := hid (ansB (b := walkB d.1 d.2 k) (a := false) (by rw [walk_term HT.out]) (next_trans B2.out bb))
   clear bb k0 LT1 B2
   go_wp2
   go_ret
   exact F.out
  | true =>
   have HT := hid okt
   clear okt
   by_cases h60 : sn ≤ 60
   ·have HYES := hid (walk_yes (k := k) (right_yes HS.out HT.out) HSN.out h60)
    have hle : (sn : Int) ≤ 60 := by omega
    go_enter Try.func32, Try.ntmps32
    go_wp2_with fail
    rw [← HW.out]
    refine LS.out.mono ?_
    rintro e w1 ⟨he, bb⟩
    rw [HS.out] at he
    have he : e = .returned (.tuple #[.agg #[.slice A n cs, .slice V q cv], .bool true]) := he
    subst he
    obtain ⟨w2, hw2⟩ : ∃ w2, w2 = w1.alloc (.cells #[.slice A n cs, .slice V q cv] 93) := ⟨_, rfl⟩
    have b2 : Below w1.heap.size w1 w2 := by rw [hw2]; exact (Below.refl w1.heap.size w1).alloc (Nat.le_refl _) (.cells #[.slice A n cs, .slice V q cv] 93)
    have r2 := (rW.next bb).next b2
    have rS : Row w2 w1.heap.size 93 #[.slice A n cs, .slice V q cv] := by rw [hw2]; exact Row.new _ _ _
    have bel2 := next_trans (next_trans bel bb) b2
    have k0 : (w1.alloc (.cells #[.slice A n cs, .slice V q cv] 93)).cell? ⟨w.heap.size + 1, 0, none⟩ = some (.slice F fn fc) := by rw [← hw2]; exact r2.cell 0
    have LT1 := hid (LT.out _ bel2)
    have HW2 := hid hw2
    clear bb bel rA rW LT b2 hw2
    go_wp2_with fail
    rw [← HW2.out]
    refine LT1.out.mono ?_
    rintro e w3 ⟨he, bb⟩
    rw [HT.out] at he
    subst he
    replace r2 := r2.next bb
    replace rS := rS.next bb
    replace bel2 := next_trans bel2 bb
    have k1 : w3.cell? ⟨w.heap.size + 1, 1, none⟩ = some (.slice S sn sc) := r2.cell 1
    have k2 : w3.cell? ⟨w.heap.size + 1, 0, none⟩ = some (.slice F fn fc) := r2.cell 0
    have k3 : w3.cell? ⟨w1.heap.size, 0, none⟩ = some (.slice A n cs) := rS.cell 0
    have k4 : w3.cell? ⟨w1.heap.size, 1, none⟩ = some (.slice V q cv) := rS.cell 1
    have LM1 := hid (LM.out w3 bel2 HS.out)
    clear bb k0 LT1 HW2 LM r2 rS
    go_wp2_with fail
    refine LM1.out.mono ?_
    rintro e w4 ⟨rfl, bb⟩
    have F := hid (show AnsB w (walkB d.1 d.2 k) (.returned (.bool (goOn d.1 d.2 k.1 k.2).isSome)) w4 from ⟨by rw [HYES.out], next_trans bel2 bb⟩)
    clear bb bel2 k1 k2 k3 k4 LM1 HYES
    generalize (goOn d.1 d.2 k.1 k.2).isSome = bz at *
    go_wp2
    go_ret
    exact F.out
   ·have hle : ¬ (sn : Int) ≤ 60 := by omega
    go_enter Try.func32, Try.ntmps32
    go_wp2_with fail
    rw [← HW.out]
    refine LS.out.mono ?_
    rintro e w1 ⟨he, bb⟩
    rw [HS.out] at he
    have he : e = .returned (.tuple #[.agg #[.slice A n cs, .slice V q cv], .bool true]) := he
    subst he
    have b2 := (Below.refl w1.heap.size w1).alloc (Nat.le_refl _) (.cells #[.slice A n cs, .slice V q cv] 93)
    have r2 := (rW.next bb).next b2
    have bel2 := next_trans (next_trans bel bb) b2
    have k0 : (w1.alloc (.cells #[.slice A n cs, .slice V q cv] 93)).cell? ⟨w.heap.size + 1, 0, none⟩ = some (.slice F fn fc) := r2.cell 0
    have LT1 := hid (LT.out _ bel2)
    have B2 := hid bel2
    have R2 := hid r2
    clear bb bel rA rW LT LM b2 r2 bel2
    go_wp2_with fail
    refine LT1.out.mono ?_
    rintro e w3 ⟨he, bb⟩
    rw [HT.out] at he
    subst he
    have k1 : w3.cell? ⟨w.heap.size + 1, 1, none⟩ = some (.slice S sn sc) := (R2.out.next bb).cell 1
    have F := hid (ansB (b := walkB d.1 d.2 k) (a := false) (by rw [walk_long HSN.out h60]) (next_trans B2.out bb))
    clear bb k0 LT1 B2
    go_wp2
    go_ret
    exact F.out
end walkImpl
end
section
namespace walkX
open Go.RowKit base ints sig term marks app sym varsOf shape kindsR kindsW ruleMath walkMath walkSpec walkImpl
end walkX
end
section
namespace walkSpec
open Go.RowKit base ints sig term termOk endAt endOf marks app sym sub segs segsHelp kinds termFacts same shifted shape kindsR kindsW varsOf ruleMath ruleSpec stepMath walkMath stepSpec ownL heldT
set_option maxRecDepth 100000
def AnsWalk (w : World) (k : Wk) (b : Bool) (e : Ending) (w' : World) : Prop := ∃ A0 n0 c0 A1 n1 c1, e = .returned (.tuple #[.agg #[.slice A0 n0 c0, .slice A1 n1 c1], .bool b]) ∧ Owned w' w.heap.size w'.heap.size sWalk [.slice A0 n0 c0, .slice A1 n1 c1] k ∧ Below w.heap.size w w'
theorem owned_zero (w : World) (lo hi : Nat) : Owned w lo hi sWalk [.slice none 0 0, .slice none 0 0] (([], []) : List Int × List St) :=
 ⟨[], ⟨[.slice none 0 0], [.slice none 0 0], [], [], rfl, rfl, ⟨none, 0, 0, rfl, rfl, .inl ⟨rfl, rfl, rfl, rfl⟩⟩, ⟨none, 0, 0, rfl, rfl, .inl ⟨rfl, rfl, rfl, rfl⟩⟩⟩, List.nodup_nil, fun k hk => by cases hk⟩
theorem owned_walk {w : World} {lo mid hi : Nat} {X O : Option Addr} {xn xc n c : Nat} {f : List Int} {L : List St} (h : Ownd w lo mid X xn xc f) (h2 : OwnL w mid hi 102 sStep O n c L) (h3 : lo ≤ mid) (h4 : mid ≤ hi) : Owned w lo hi sWalk [.slice X xn xc, .slice O n c] (f, L) :=
 Owned.cat (ow_ints.2 h) h2.owned (Nat.le_refl _) h3 h4
theorem ansWalk_no {w w' : World} {k : Wk} {b : Bool} (h : k = ([], []) ∧ b = false) (hb : Below w.heap.size w w') : AnsWalk w k b (.returned (.tuple #[.agg #[.slice none 0 0, .slice none 0 0], .bool false])) w' :=
 ⟨none, 0, 0, none, 0, 0, by rw [h.2], by rw [h.1]; exact owned_zero _ _ _, hb⟩
section
variable {sg : List Int} {rs : List Rl} {a b : Wk}
end
structure Jn (w : World) (a v f s f' s' : Value) (wr : World) : Prop where
 r0 : Row wr w.heap.size 42 #[a, v]
 r1 : Row wr (w.heap.size + 1) 56 #[f, s]
 r2 : Row wr (w.heap.size + 1 + 1) 56 #[f', s']
 r3 : Row wr (w.heap.size + 1 + 1 + 1) 56 #[.slice none 0 0, .slice none 0 0]
 b : Below w.heap.size w wr
section
variable {w wr w' : World} {a v f s f' s' : Value}
theorem Jn.next (h : Jn w a v f s f' s' wr) (hb : Below wr.heap.size wr w') : Jn w a v f s f' s' w' := ⟨h.r0.next hb, h.r1.next hb, h.r2.next hb, h.r3.next hb, next_trans h.b hb⟩
theorem Jn.size (h : Jn w a v f s f' s' wr) : w.heap.size + 1 + 1 + 1 + 1 ≤ wr.heap.size := h.r3.lt
end
end walkSpec
end
section
open Go.Lib (hid)
open List (setIfInBounds_toArray set_cons_zero set_cons_succ getElem_toArray getElem_cons_zero getElem_cons_succ)
namespace walkSpec
open Go.RowKit base ints sig term termOk endAt endOf marks app sym sub segs segsHelp kinds termFacts same shifted shape kindsR kindsW varsOf ruleMath ruleSpec stepMath walkMath stepSpec ownL heldT
set_option maxRecDepth 100000
def fitsAll (sg t : List Int) (k : Wk) (p : Nat) : Bool := decide ((putAt sg t k.1 p).length ≤ 60) && k.2.all fun s => decide ((putAt sg t s.2.2 p).length ≤ 60)
def insideB (sg : List Int) (rs : List Rl) (k : Wk) (t : List Int) (x : Int) : Bool := (rightB sg rs t && walkB sg rs k) && (walkMath.inB x t.length && fitsAll sg t k x.toNat)
def insideW (sg : List Int) (rs : List Rl) (k : Wk) (t : List Int) (x : Int) : Wk := if insideB sg rs k t x = true then (putAt sg t k.1 x.toNat, insS sg t x.toNat k.2) else ([], [])
section
variable {sg : List Int} {rs : List Rl} {k : Wk} {t : List Int} {x : Int}
theorem ins_off (h : insideB sg rs k t x = false) : insideW sg rs k t x = ([], []) ∧ insideB sg rs k t x = false := ⟨by unfold insideW; rw [if_neg (by rw [h]; simp)], h⟩
theorem ins_no1 (h : rightB sg rs t = false) : insideW sg rs k t x = ([], []) ∧ insideB sg rs k t x = false := ins_off (by unfold insideB; rw [h]; rfl)
theorem ins_no2 (h : walkB sg rs k = false) : insideW sg rs k t x = ([], []) ∧ insideB sg rs k t x = false := ins_off (by unfold insideB; rw [h, Bool.and_false]; rfl)
theorem ins_no3 (h : walkMath.inB x t.length = false) : insideW sg rs k t x = ([], []) ∧ insideB sg rs k t x = false := ins_off (by unfold insideB; rw [h]; simp)
theorem ins_no4 {p : Nat} (h : ¬ (putAt sg t k.1 p).length ≤ 60) : insideW sg rs k t (p : Int) = ([], []) ∧ insideB sg rs k t (p : Int) = false := ins_off (by unfold insideB fitsAll; rw [Int.toNat_natCast, decide_eq_false h]; simp)
theorem ins_no5 {p i : Nat} {y : St} (hi : i < k.2.length) (hy : k.2.getD i (0, 0, []) = y) (h : ¬ (putAt sg t y.2.2 p).length ≤ 60) : insideW sg rs k t (p : Int) = ([], []) ∧ insideB sg rs k t (p : Int) = false := ins_off (by
 unfold insideB fitsAll
 rw [Int.toNat_natCast]
 have : (k.2.all fun s => decide ((putAt sg t s.2.2 p).length ≤ 60)) = false := by
  rw [List.all_eq_false]
  refine ⟨y, ?_, by rw [decide_eq_false h]; simp⟩
  rw [← hy]
  simp [List.getD, hi]
 rw [this]; simp)
theorem ins_yes {p : Nat} (h1 : rightB sg rs t = true) (h2 : walkB sg rs k = true) (h3 : p < t.length) (h4 : (putAt sg t k.1 p).length ≤ 60) (h5 : ∀ i, i < k.2.length → (putAt sg t (k.2.getD i (0, 0, [])).2.2 p).length ≤ 60) : insideW sg rs k t (p : Int) = (putAt sg t k.1 p, insS sg t p k.2) ∧ insideB sg rs k t (p : Int) = true := by
 have h : insideB sg rs k t (p : Int) = true := by
  unfold insideB fitsAll walkMath.inB
  rw [h1, h2, Int.toNat_natCast, decide_eq_true h4, decide_eq_true (show 0 ≤ (p : Int) ∧ (p : Int) < t.length by omega)]
  have : (k.2.all fun s => decide ((putAt sg t s.2.2 p).length ≤ 60)) = true := by
   rw [List.all_eq_true]
   intro s hs
   obtain ⟨i, hi, rfl⟩ := List.getElem_of_mem hs
   have := h5 i hi
   have e : k.2.getD i (0, 0, []) = k.2[i] := by simp [List.getD, hi]
   rw [e] at this
   exact decide_eq_true this
  rw [this]; rfl
 exact ⟨by unfold insideW; rw [if_pos h, Int.toNat_natCast], h⟩
end
theorem go_ats {sg : List Int} {rs : List Rl} : ∀ {ss : List St} {t v : List Int}, goOn sg rs t ss = some v → ∀ s ∈ ss, 0 ≤ s.1 ∧ s.1 < 60
 | [], _, _, _, _, hs => by cases hs
 | x :: ss, t, v, h, s, hs => by
  obtain ⟨h1, h2⟩ := go_cons.1 h
  rcases List.mem_cons.1 hs with hs | hs
  ·subst hs
   obtain ⟨-, q2, q3, -⟩ := walkMath.there_parts (stepAt_parts h1).1
   have := (term_len q2).2
   exact ⟨q3.1, by omega⟩
  ·exact go_ats h2 s hs
theorem walk_at {sg : List Int} {rs : List Rl} {k : Wk} {i : Nat} {y : St} (h : walkB sg rs k = true) (hi : i < k.2.length) (hy : k.2.getD i (0, 0, []) = y) : (0 ≤ y.1 ∧ y.1 < 60) ∧ termOkB sg y.2.2 = true := by
 obtain ⟨-, q2, -, q4⟩ := walk_parts h
 have hm : y ∈ k.2 := by rw [← hy]; simp [List.getD, hi]
 exact ⟨go_ats q4 y hm, (go_ok q2 q4).2 y hm⟩
theorem ins_take {sg C : List Int} {p i : Nat} {L : List St} {xa xr : Int} {ys : List Int} (hi : i < L.length) (hy : L.getD i (0, 0, []) = (xa, xr, ys)) : insS sg C p (L.take i) ++ [((p : Int) + xa, xr, putAt sg C ys p)] = insS sg C p (L.take (i + 1)) := by
 have e := take_step hi hy
 unfold insS
 rw [← e, List.map_append]
 rfl
theorem ins_len {sg C : List Int} {p i : Nat} {L : List St} (h : L.length ≤ 60) : (insS sg C p (L.take i)).length ≤ 60 := by unfold insS; rw [List.length_map, List.length_take]; omega
structure Wi (w : World) (a v f s : Value) (B : Nat) (X O : Option Addr) (xn xc on oc : Nat) (fr : List Int) (L : List St) (wr : World) : Prop where
 r0 : Row wr w.heap.size 42 #[a, v]
 r1 : Row wr (w.heap.size + 1) 56 #[f, s]
 r2 : Row wr (w.heap.size + 1 + 1) 56 #[.slice none 0 0, .slice none 0 0]
 r3 : Row wr B 56 #[.slice X xn xc, .slice O on oc]
 x : Ownd wr (w.heap.size + 1 + 1 + 1) B X xn xc fr
 o : OwnL wr (B + 1) wr.heap.size 102 sStep O on oc L
 b : Below w.heap.size w wr
 z : w.heap.size + 1 + 1 + 1 ≤ B
theorem Wi.next {w wr w' : World} {a v f s : Value} {B : Nat} {X O : Option Addr} {xn xc on oc : Nat} {fr : List Int} {L : List St} (h : Wi w a v f s B X O xn xc on oc fr L wr) (hb : Below wr.heap.size wr w') : Wi w a v f s B X O xn xc on oc fr L w' :=
 ⟨h.r0.next hb, h.r1.next hb, h.r2.next hb, h.r3.next hb, h.x.next hb, (h.o.next hb).wider (Nat.le_refl _) hb.size, next_trans h.b hb, h.z⟩
set_option maxHeartbeats 8000000 in
theorem specWalkInside (a v f s u : Value) (d : Dat sSystem) (k : Dat sWalk) (t : List Int) (p : Int) (w : World) (h : Rd w w.heap.size sSystem [a, v] d) (h1 : Rd w w.heap.size sWalk [f, s] k) (h2 : Rd w w.heap.size sI [u] t) (hz : sz sSystem d ≤ 1048576) (hz1 : sz sWalk k ≤ 1048576) (hz2 : sz sI t ≤ 1048576) (p1 : -9223372036854775808 ≤ p) (p2 : p ≤ 9223372036854775807) :
  Calls Try.prog 37 #[.agg #[a, v], .agg #[f, s], u, .int .i64 p] w (AnsWalk w (insideW d.1 d.2 k t p) (insideB d.1 d.2 k t p)) := by
 obtain ⟨F, fn, fc, S, sn, sc, rfl, rfl, hF, hcF, hfn, hsn0, hsn, hcS, hrF, hrS, hzF, hzS⟩ := rd_walk h1 hz1
 obtain ⟨T, m, c, rfl, hT, hcT⟩ := rd_ints.1 h2
 have hm := len_ints hT.1 hz2
 have h0 := h
 obtain ⟨A, n, cs, V, q, cv, rfl, rfl, hs, hc, hcv, hq, hn, hq1, hrs, hsg, hE⟩ := rd_sys h hz
 obtain ⟨W, hW, r0, r1, r2, bel⟩ : ∃ W, W = ((w.alloc (.cells #[.slice A n cs, .slice V q cv] 42)).alloc (.cells #[.slice F fn fc, .slice S sn sc] 56)).alloc (.cells #[.slice none 0 0, .slice none 0 0] 56) ∧ Row W w.heap.size 42 #[.slice A n cs, .slice V q cv] ∧ Row W (w.heap.size + 1) 56 #[.slice F fn fc, .slice S sn sc] ∧ Row W (w.heap.size + 1 + 1) 56 #[.slice none 0 0, .slice none 0 0] ∧ Below w.heap.size w W := by
  refine ⟨_, rfl, ((Row.new w _ _).alloc _).alloc _, ?_, ?_, (((Below.refl _ _).alloc (Nat.le_refl _) _).alloc (by simp) _).alloc (by simp; omega) _⟩
  ·have := (Row.new (w.alloc (.cells #[.slice A n cs, .slice V q cv] 42)) 56 #[.slice F fn fc, .slice S sn sc]).alloc (.cells #[.slice none 0 0, .slice none 0 0] 56)
   simpa using this
  ·have := Row.new ((w.alloc (.cells #[.slice A n cs, .slice V q cv] 42)).alloc (.cells #[.slice F fn fc, .slice S sn sc] 56)) 56 #[.slice none 0 0, .slice none 0 0]
   simpa using this
 have HW := hid hW
 have L1 := hid (l7Right _ _ d T m c t W (h0.next bel) hz (hT.next bel) hm)
 have L2 := hid (fun (w1 : World) (bb : Below w.heap.size w w1) => specWalkOk _ _ _ _ d k w1 (h0.next bb) (h1.next bb) hz hz1)
 have HST := hid (show Seg w w.heap.size A n d.1 ∧ Seg w w.heap.size T m t ∧ Seg w w.heap.size F fn k.1 from ⟨hs, hT, hF⟩)
 have HRS := hid hrS
 have HTL := hid hT.1
 have HSN := hid hsn0
 have HZS := hid hzS
 have HCF := hid hcF.2.2
 have hcT1 := hcT.1
 have hcT2 := hcT.2.1
 clear hW h h0 h1 h2 hz hz1 hz2 hF hcF hcS hrF hrS hzF hzS hT hcT hs hc hcv hq hrs hsg hE hsn0
 cases okr : rightB d.1 d.2 t with
 | false =>
  have HR := hid okr
  clear okr
  go_enter Try.func37, Try.ntmps37
  go_wp2_with fail
  rw [← HW.out]
  refine L1.out.mono ?_
  rintro e w1 ⟨he, bb⟩
  rw [HR.out] at he
  subst he
  replace r2 := r2.next bb
  replace bel := next_trans bel bb
  clear L2
  have y0 : w1.cell? ⟨w.heap.size + 1 + 1, 0, none⟩ = some (.slice none 0 0) := r2.cell 0
  have y1 : w1.cell? ⟨w.heap.size + 1 + 1, 1, none⟩ = some (.slice none 0 0) := r2.cell 1
  have g0 := r2.free 0
  have g1 := r2.free 1
  have ra := r2.put 0 (.slice none 0 0)
  have y2 : (w1.setCell ⟨w.heap.size + 1 + 1, 0, none⟩ (.slice none 0 0)).cell? ⟨w.heap.size + 1 + 1, 1, none⟩ = some (.slice none 0 0) := ra.cell 1
  have g2 := ra.free 1
  have rb := ra.put 1 (.slice none 0 0)
  have u0 : ((w1.setCell ⟨w.heap.size + 1 + 1, 0, none⟩ (.slice none 0 0)).setCell ⟨w.heap.size + 1 + 1, 1, none⟩ (.slice none 0 0)).cell? ⟨w.heap.size + 1 + 1, 0, none⟩ = some (.slice none 0 0) := rb.cell 0
  have u1 : ((w1.setCell ⟨w.heap.size + 1 + 1, 0, none⟩ (.slice none 0 0)).setCell ⟨w.heap.size + 1 + 1, 1, none⟩ (.slice none 0 0)).cell? ⟨w.heap.size + 1 + 1, 1, none⟩ = some (.slice none 0 0) := rb.cell 1
  have FZ : AnsWalk w (insideW d.1 d.2 k t p) (insideB d.1 d.2 k t p) (.returned (.tuple #[.agg #[.slice none 0 0, .slice none 0 0], .bool false])) ((w1.setCell ⟨w.heap.size + 1 + 1, 0, none⟩ (.slice none 0 0)).setCell ⟨w.heap.size + 1 + 1, 1, none⟩ (.slice none 0 0)) := ansWalk_no (ins_no1 HR.out) (((bel).setCell (show w.heap.size ≤ w.heap.size + 1 + 1 by omega) _).setCell (show w.heap.size ≤ w.heap.size + 1 + 1 by omega) _)
  have HFZ := hid FZ
  clear FZ ra rb bb bel r0 r1 r2
  go_wp2
  exact bodyPost_ret (v := .tuple #[.agg #[.slice none 0 0, .slice none 0 0], .bool false]) (by simp [results, Try.results37, go_sem, u0, u1]) rfl HFZ.out
 | true =>
  have HR := hid okr
  clear okr
  cases okw : walkB d.1 d.2 k with
  | false =>
   have HO := hid okw
   clear okw
   go_enter Try.func37, Try.ntmps37
   go_wp2_with fail
   rw [← HW.out]
   refine L1.out.mono ?_
   rintro e w1 ⟨he, bb⟩
   rw [HR.out] at he
   subst he
   replace r0 := r0.next bb
   replace r1 := r1.next bb
   replace r2 := r2.next bb
   replace bel := next_trans bel bb
   have k0 : w1.cell? ⟨w.heap.size, 0, none⟩ = some (.slice A n cs) := r0.cell 0
   have k1 : w1.cell? ⟨w.heap.size, 1, none⟩ = some (.slice V q cv) := r0.cell 1
   have k2 : w1.cell? ⟨w.heap.size + 1, 0, none⟩ = some (.slice F fn fc) := r1.cell 0
   have k3 : w1.cell? ⟨w.heap.size + 1, 1, none⟩ = some (.slice S sn sc) := r1.cell 1
   clear bb L1
   go_wp2_with fail
   refine (L2.out w1 bel).mono ?_
   rintro e w2 ⟨he, bb⟩
   rw [HO.out] at he
   subst he
   replace r2 := r2.next bb
   replace bel := next_trans bel bb
   clear L2 k0 k1 k2 k3
   have y0 : w2.cell? ⟨w.heap.size + 1 + 1, 0, none⟩ = some (.slice none 0 0) := r2.cell 0
   have y1 : w2.cell? ⟨w.heap.size + 1 + 1, 1, none⟩ = some (.slice none 0 0) := r2.cell 1
   have g0 := r2.free 0
   have g1 := r2.free 1
   have ra := r2.put 0 (.slice none 0 0)
   have y2 : (w2.setCell ⟨w.heap.size + 1 + 1, 0, none⟩ (.slice none 0 0)).cell? ⟨w.heap.size + 1 + 1, 1, none⟩ = some (.slice none 0 0) := ra.cell 1
   have g2 := ra.free 1
   have rb := ra.put 1 (.slice none 0 0)
   have u0 : ((w2.setCell ⟨w.heap.size + 1 + 1, 0, none⟩ (.slice none 0 0)).setCell ⟨w.heap.size + 1 + 1, 1, none⟩ (.slice none 0 0)).cell? ⟨w.heap.size + 1 + 1, 0, none⟩ = some (.slice none 0 0) := rb.cell 0
   have u1 : ((w2.setCell ⟨w.heap.size + 1 + 1, 0, none⟩ (.slice none 0 0)).setCell ⟨w.heap.size + 1 + 1, 1, none⟩ (.slice none 0 0)).cell? ⟨w.heap.size + 1 + 1, 1, none⟩ = some (.slice none 0 0) := rb.cell 1
   have FZ : AnsWalk w (insideW d.1 d.2 k t p) (insideB d.1 d.2 k t p) (.returned (.tuple #[.agg #[.slice none 0 0, .slice none 0 0], .bool false])) ((w2.setCell ⟨w.heap.size + 1 + 1, 0, none⟩ (.slice none 0 0)).setCell ⟨w.heap.size + 1 + 1, 1, none⟩ (.slice none 0 0)) := ansWalk_no (ins_no2 HO.out) (((bel).setCell (show w.heap.size ≤ w.heap.size + 1 + 1 by omega) _).setCell (show w.heap.size ≤ w.heap.size + 1 + 1 by omega) _)
   have HFZ := hid FZ
   clear FZ ra rb bb bel r0 r1 r2
   go_wp2
   exact bodyPost_ret (v := .tuple #[.agg #[.slice none 0 0, .slice none 0 0], .bool false]) (by simp [results, Try.results37, go_sem, u0, u1]) rfl HFZ.out
  | true =>
   have HO := hid okw
   clear okw
   have h60 : sn ≤ 60 := by rw [← HSN.out]; exact (walk_parts HO.out).2.2.1
   have hm60 : m ≤ 60 := by have := (term_len (right_parts HR.out).2).2; have := HTL.out; omega
   cases hx : decide (0 ≤ p ∧ p < (m : Int)) with
   | false =>
    have HX := hid hx
    clear hx
    go_enter Try.func37, Try.ntmps37
    go_wp2_with fail
    rw [← HW.out]
    refine L1.out.mono ?_
    rintro e w1 ⟨he, bb⟩
    rw [HR.out] at he
    subst he
    replace r0 := r0.next bb
    replace r1 := r1.next bb
    replace r2 := r2.next bb
    replace bel := next_trans bel bb
    have k0 : w1.cell? ⟨w.heap.size, 0, none⟩ = some (.slice A n cs) := r0.cell 0
    have k1 : w1.cell? ⟨w.heap.size, 1, none⟩ = some (.slice V q cv) := r0.cell 1
    have k2 : w1.cell? ⟨w.heap.size + 1, 0, none⟩ = some (.slice F fn fc) := r1.cell 0
    have k3 : w1.cell? ⟨w.heap.size + 1, 1, none⟩ = some (.slice S sn sc) := r1.cell 1
    clear bb L1
    go_wp2_with fail
    refine (L2.out w1 bel).mono ?_
    rintro e w2 ⟨he, bb⟩
    rw [HO.out] at he
    subst he
    replace r2 := r2.next bb
    replace bel := next_trans bel bb
    clear L2 k0 k1 k2 k3
    go_wp2_with fail
    refine (there T m c p _ _ hm HX.out).mono ?_
    rintro e w3 ⟨rfl, rfl⟩
    have y0 : w2.cell? ⟨w.heap.size + 1 + 1, 0, none⟩ = some (.slice none 0 0) := r2.cell 0
    have y1 : w2.cell? ⟨w.heap.size + 1 + 1, 1, none⟩ = some (.slice none 0 0) := r2.cell 1
    have g0 := r2.free 0
    have g1 := r2.free 1
    have ra := r2.put 0 (.slice none 0 0)
    have y2 : (w2.setCell ⟨w.heap.size + 1 + 1, 0, none⟩ (.slice none 0 0)).cell? ⟨w.heap.size + 1 + 1, 1, none⟩ = some (.slice none 0 0) := ra.cell 1
    have g2 := ra.free 1
    have rb := ra.put 1 (.slice none 0 0)
    have u0 : ((w2.setCell ⟨w.heap.size + 1 + 1, 0, none⟩ (.slice none 0 0)).setCell ⟨w.heap.size + 1 + 1, 1, none⟩ (.slice none 0 0)).cell? ⟨w.heap.size + 1 + 1, 0, none⟩ = some (.slice none 0 0) := rb.cell 0
    have u1 : ((w2.setCell ⟨w.heap.size + 1 + 1, 0, none⟩ (.slice none 0 0)).setCell ⟨w.heap.size + 1 + 1, 1, none⟩ (.slice none 0 0)).cell? ⟨w.heap.size + 1 + 1, 1, none⟩ = some (.slice none 0 0) := rb.cell 1
    have FZ : AnsWalk w (insideW d.1 d.2 k t p) (insideB d.1 d.2 k t p) (.returned (.tuple #[.agg #[.slice none 0 0, .slice none 0 0], .bool false])) ((w2.setCell ⟨w.heap.size + 1 + 1, 0, none⟩ (.slice none 0 0)).setCell ⟨w.heap.size + 1 + 1, 1, none⟩ (.slice none 0 0)) := ansWalk_no (ins_no3 (by unfold walkMath.inB; rw [HTL.out]; exact HX.out)) (((bel).setCell (show w.heap.size ≤ w.heap.size + 1 + 1 by omega) _).setCell (show w.heap.size ≤ w.heap.size + 1 + 1 by omega) _)
    have HFZ := hid FZ
    clear FZ ra rb bb bel r0 r1 r2
    go_wp2
    exact bodyPost_ret (v := .tuple #[.agg #[.slice none 0 0, .slice none 0 0], .bool false]) (by simp [results, Try.results37, go_sem, u0, u1]) rfl HFZ.out
   | true =>
    have HX := hid hx
    have hx0 := of_decide_eq_true hx
    clear hx
    obtain ⟨p, rfl⟩ := Int.eq_ofNat_of_zero_le hx0.1
    have hpm : p < m := by omega
    have HPT := hid (show p < t.length by rw [HTL.out]; exact hpm)
    have LPF := hid (fun (w3 : World) (bb : Below w.heap.size w w3) (U : Option Addr) (un uc : Nat) (y : List Int) (hy : Seg w3 w3.heap.size U un y) (hcu : U = none → uc = 0) (hun : un ≤ 60) => put.l3Put A T U n cs m c un uc d.1 t y p w3 (HST.out.1.next bb) (HST.out.2.1.next bb) hy hcu hn hm hun hcT1 hcT2 (right_parts HR.out).2 HPT.out)
    have hfn60 : fn ≤ 60 := by have := (term_len (walk_parts HO.out).2.1).2; have := HST.out.2.2.1; omega
    clear hx0
    go_enter Try.func37, Try.ntmps37
    go_wp2_with fail
    rw [← HW.out]
    refine L1.out.mono ?_
    rintro e w1 ⟨he, bb⟩
    rw [HR.out] at he
    subst he
    replace r0 := r0.next bb
    replace r1 := r1.next bb
    replace r2 := r2.next bb
    replace bel := next_trans bel bb
    have k0 : w1.cell? ⟨w.heap.size, 0, none⟩ = some (.slice A n cs) := r0.cell 0
    have k1 : w1.cell? ⟨w.heap.size, 1, none⟩ = some (.slice V q cv) := r0.cell 1
    have k2 : w1.cell? ⟨w.heap.size + 1, 0, none⟩ = some (.slice F fn fc) := r1.cell 0
    have k3 : w1.cell? ⟨w.heap.size + 1, 1, none⟩ = some (.slice S sn sc) := r1.cell 1
    clear bb L1
    go_wp2_with fail
    refine (L2.out w1 bel).mono ?_
    rintro e w2 ⟨he, bb⟩
    rw [HO.out] at he
    subst he
    replace r0 := r0.next bb
    replace r1 := r1.next bb
    replace r2 := r2.next bb
    replace bel := next_trans bel bb
    clear L2 k0 k1 k2 k3 bb
    have k0 : w2.cell? ⟨w.heap.size, 0, none⟩ = some (.slice A n cs) := r0.cell 0
    have k2 : w2.cell? ⟨w.heap.size + 1, 0, none⟩ = some (.slice F fn fc) := r1.cell 0
    go_wp2_with fail
    refine (there T m c (p : Int) _ _ hm HX.out).mono ?_
    rintro e w3 ⟨rfl, rfl⟩
    have LP1 := hid (LPF.out w2 bel F fn fc k.1 (HST.out.2.2.next bel) HCF.out hfn60)
    go_wp2_with fail
    refine LP1.out.mono ?_
    rintro e w3 ⟨X, xn, xc, rfl, oX, bb⟩
    have zX := bb.size
    have z2w := r2.lt
    replace r0 := r0.next bb
    replace r1 := r1.next bb
    replace r2 := r2.next bb
    replace bel := next_trans bel bb
    clear k0 k2 LP1
    cases hb1 : put.fitB d.1 t k.1 p with
    | false =>
     have HB1 := hid (show ¬ (putAt d.1 t k.1 p).length ≤ 60 from of_decide_eq_false hb1)
     clear hb1 bb
     have y0 : w3.cell? ⟨w.heap.size + 1 + 1, 0, none⟩ = some (.slice none 0 0) := r2.cell 0
     have y1 : w3.cell? ⟨w.heap.size + 1 + 1, 1, none⟩ = some (.slice none 0 0) := r2.cell 1
     have g0 := r2.free 0
     have g1 := r2.free 1
     have ra := r2.put 0 (.slice none 0 0)
     have y2 : (w3.setCell ⟨w.heap.size + 1 + 1, 0, none⟩ (.slice none 0 0)).cell? ⟨w.heap.size + 1 + 1, 1, none⟩ = some (.slice none 0 0) := ra.cell 1
     have g2 := ra.free 1
     have rb := ra.put 1 (.slice none 0 0)
     have u0 : ((w3.setCell ⟨w.heap.size + 1 + 1, 0, none⟩ (.slice none 0 0)).setCell ⟨w.heap.size + 1 + 1, 1, none⟩ (.slice none 0 0)).cell? ⟨w.heap.size + 1 + 1, 0, none⟩ = some (.slice none 0 0) := rb.cell 0
     have u1 : ((w3.setCell ⟨w.heap.size + 1 + 1, 0, none⟩ (.slice none 0 0)).setCell ⟨w.heap.size + 1 + 1, 1, none⟩ (.slice none 0 0)).cell? ⟨w.heap.size + 1 + 1, 1, none⟩ = some (.slice none 0 0) := rb.cell 1
     have FZ : AnsWalk w (insideW d.1 d.2 k t p) (insideB d.1 d.2 k t p) (.returned (.tuple #[.agg #[.slice none 0 0, .slice none 0 0], .bool false])) ((w3.setCell ⟨w.heap.size + 1 + 1, 0, none⟩ (.slice none 0 0)).setCell ⟨w.heap.size + 1 + 1, 1, none⟩ (.slice none 0 0)) := ansWalk_no (ins_no4 HB1.out) (((bel).setCell (show w.heap.size ≤ w.heap.size + 1 + 1 by omega) _).setCell (show w.heap.size ≤ w.heap.size + 1 + 1 by omega) _)
     have HFZ := hid FZ
     clear FZ ra rb bel r0 r1 r2 oX LPF
     go_wp2
     exact bodyPost_ret (v := .tuple #[.agg #[.slice none 0 0, .slice none 0 0], .bool false]) (by simp [results, Try.results37, go_sem, u0, u1]) rfl HFZ.out
    | true =>
     have HB1 := hid (show (putAt d.1 t k.1 p).length ≤ 60 from of_decide_eq_true hb1)
     have oX1 : Own w3 w2.heap.size (.slice X xn xc) (putAt d.1 t k.1 p) := by
      have := oX
      unfold put.fitL at this
      rw [if_pos hb1] at this
      exact this
     have b4 : Below w3.heap.size w3 (w3.alloc (.cells #[.slice X xn xc, .slice none 0 0] 56)) := (Below.refl _ _).alloc (Nat.le_refl _) _
     obtain ⟨W4, hW4⟩ : ∃ W4, W4 = w3.alloc (.cells #[.slice X xn xc, .slice none 0 0] 56) := ⟨_, rfl⟩
     have HI0 := hid (show Wi w (.slice A n cs) (.slice V q cv) (.slice F fn fc) (.slice S sn sc) w3.heap.size X none xn xc 0 0 (putAt d.1 t k.1 p) (insS d.1 t p (k.2.take 0)) W4 from by
      rw [hW4]
      exact ⟨r0.next b4, r1.next b4, r2.next b4, Row.new _ _ _, ((Ownd.of_own oX1).next b4).wider (by omega) (Nat.le_refl _), OwnL.nil _ _ _ _ _, next_trans bel b4, by omega⟩)
     have HW4 := hid hW4
     clear hb1 bb oX oX1 b4 r0 r1 r2 bel hW4
     go_wp2_with fail
     rw [← HW4.out]
     clear HW4
     generalize w3.heap.size = B at *
     go_loopg [13] sn (fun g i_ wr => ∃ (i on oc : Nat) (O : Option Addr), i_ = .int .i64 i ∧ i + g = sn ∧ (∀ j, j < i → (putAt d.1 t (k.2.getD j (0, 0, [])).2.2 p).length ≤ 60) ∧ Wi w (.slice A n cs) (.slice V q cv) (.slice F fn fc) (.slice S sn sc) B X O xn xc on oc (putAt d.1 t k.1 p) (insS d.1 t p (k.2.take i)) wr)
     case atStart => exact ⟨0, 0, 0, none, rfl, by omega, fun j hj => absurd hj (Nat.not_lt_zero _), HI0.out⟩
     case round =>
      clear HI0
      obtain ⟨i, on, oc, O, rfl, hg, hlow, J⟩ := hrel
      have K0 : wr.cell? ⟨w.heap.size, 0, none⟩ = some (.slice A n cs) := J.r0.cell 0
      have K1 : wr.cell? ⟨w.heap.size + 1, 1, none⟩ = some (.slice S sn sc) := J.r1.cell 1
      have HLOW := hid hlow
      have HG := hid hg
      clear hlow hg
      by_cases hi : i < sn
      ·obtain ⟨b, off, uu, x, hA, hb, ex, c0, c1, c2, hx2⟩ := rd_step HRS.out J.b HSN.out hi
       subst hA
       obtain ⟨xa, xr, ys⟩ := x
       obtain ⟨U, un, uc, rfl, hU, hcU⟩ := rd_ints.1 hx2
       have hil : i < k.2.length := by rw [HSN.out]; exact hi
       have hwa := walk_at HO.out hil ex.out
       have hun : un ≤ 60 := by have := (term_len hwa.2).2; have := hU.1; omega
       have c0 : wr.cell? ⟨b, off + i * 3, none⟩ = some (.int .i64 xa) := c0
       have c1 : wr.cell? ⟨b, off + i * 3 + 1, none⟩ = some (.int .i64 xr) := c1
       have hxa : 0 ≤ xa ∧ xa < 60 := hwa.1
       have hwr : IntKind.i64.wrap ((p : Int) + xa) = (p : Int) + xa := by rw [IntKind.wrap_i64]; omega
       have zA : w.heap.size < wr.heap.size := J.r0.lt
       have zA1 : w.heap.size + 1 < wr.heap.size := J.r1.lt
       have zB : b < wr.heap.size := by omega
       have zBB : B < wr.heap.size := J.r3.lt
       have HZ := hid J.z
       have LP := hid (LPF.out wr.drew J.b.drew U un uc ys (hU.more (Nat.le_of_lt zA)).drew hcU.2.2 hun)
       have i0 : (0 : Int) ≤ (i : Int) := by omega
       have i1 : (i : Int) < (sn : Int) := by omega
       have JJ := hid J
       have EX := hid ex.out
       clear hx2 hU hcU hwa J ex
       go_wp2_with fail
       go_region_held3 (fun w' => w'.cell? ⟨w.heap.size, 0, none⟩ = some (.slice A n cs) ∧ w'.cell? ⟨w.heap.size + 1, 1, none⟩ = some (.slice (some ⟨b, off, none⟩) sn sc) ∧ w'.cell? ⟨b, off + i * 3 + 2, none⟩ = some (.slice U un uc))
        (go_keep)
        (first
         | (go_at_call 78; refine LP.out.mono ?_; rintro e w2 ⟨U2, un2, uc2, rfl, oU, bb⟩; have k0 : w2.cell? ⟨w.heap.size, 0, none⟩ = some (.slice A n cs) := (bb.cell (p := ⟨w.heap.size, 0, none⟩) zA).trans K0; have k1 : w2.cell? ⟨w.heap.size + 1, 1, none⟩ = some (.slice (some ⟨b, off, none⟩) sn sc) := (bb.cell (p := ⟨w.heap.size + 1, 1, none⟩) zA1).trans K1; have k2 : w2.cell? ⟨b, off + i * 3 + 2, none⟩ = some (.slice U un uc) := (bb.cell (p := ⟨b, off + i * 3 + 2, none⟩) zB).trans c2))
       have J2 := JJ.out.next ((drew_below wr).trans bb)
       have zz : wr.heap.size ≤ w2.heap.size := bb.size
       replace c0 : w2.cell? ⟨b, off + i * 3, none⟩ = some (.int .i64 xa) := (bb.cell (p := ⟨b, off + i * 3, none⟩) zB).trans c0
       replace c1 : w2.cell? ⟨b, off + i * 3 + 1, none⟩ = some (.int .i64 xr) := (bb.cell (p := ⟨b, off + i * 3 + 1, none⟩) zB).trans c1
       cases hb2 : put.fitB d.1 t ys p with
       | false =>
        have HB2 := hid (show ¬ (putAt d.1 t ys p).length ≤ 60 from of_decide_eq_false hb2)
        have j2 := J2.r2
        have jb := J2.b
        clear hb2 bb J2 oU JJ k0 k1 k2 K0 K1 c0 c1 c2 LP
        have y0 : w2.cell? ⟨w.heap.size + 1 + 1, 0, none⟩ = some (.slice none 0 0) := j2.cell 0
        have y1 : w2.cell? ⟨w.heap.size + 1 + 1, 1, none⟩ = some (.slice none 0 0) := j2.cell 1
        have g0 := j2.free 0
        have g1 := j2.free 1
        have ra := j2.put 0 (.slice none 0 0)
        have y2 : (w2.setCell ⟨w.heap.size + 1 + 1, 0, none⟩ (.slice none 0 0)).cell? ⟨w.heap.size + 1 + 1, 1, none⟩ = some (.slice none 0 0) := ra.cell 1
        have g2 := ra.free 1
        have rb := ra.put 1 (.slice none 0 0)
        have u0 : ((w2.setCell ⟨w.heap.size + 1 + 1, 0, none⟩ (.slice none 0 0)).setCell ⟨w.heap.size + 1 + 1, 1, none⟩ (.slice none 0 0)).cell? ⟨w.heap.size + 1 + 1, 0, none⟩ = some (.slice none 0 0) := rb.cell 0
        have u1 : ((w2.setCell ⟨w.heap.size + 1 + 1, 0, none⟩ (.slice none 0 0)).setCell ⟨w.heap.size + 1 + 1, 1, none⟩ (.slice none 0 0)).cell? ⟨w.heap.size + 1 + 1, 1, none⟩ = some (.slice none 0 0) := rb.cell 1
        have FZ : AnsWalk w (insideW d.1 d.2 k t p) (insideB d.1 d.2 k t p) (.returned (.tuple #[.agg #[.slice none 0 0, .slice none 0 0], .bool false])) ((w2.setCell ⟨w.heap.size + 1 + 1, 0, none⟩ (.slice none 0 0)).setCell ⟨w.heap.size + 1 + 1, 1, none⟩ (.slice none 0 0)) := ansWalk_no (ins_no5 hil EX.out HB2.out) (((jb).setCell (show w.heap.size ≤ w.heap.size + 1 + 1 by omega) _).setCell (show w.heap.size ≤ w.heap.size + 1 + 1 by omega) _)
        have HFZ := hid FZ
        clear FZ ra rb jb j2
        go_wp2
        exact bodyPost_ret (v := .tuple #[.agg #[.slice none 0 0, .slice none 0 0], .bool false]) (by simp [results, Try.results37, go_sem, u0, u1]) rfl HFZ.out
       | true =>
        have HB2 := hid (show (putAt d.1 t ys p).length ≤ 60 from of_decide_eq_true hb2)
        have OU := hid (show Own w2.drew wr.heap.size (.slice U2 un2 uc2) (putAt d.1 t ys p) by
         have := oU
         unfold put.fitL at this
         rw [if_pos hb2] at this
         exact Own.drew this)
        have OL := hid (show OwnL w2.drew (B + 1) wr.heap.size 102 sStep O on oc (insS d.1 t p (k.2.take i)) from (JJ.out.o.next ((drew_below wr).trans bb)).next (drew_below w2))
        have c3 : w2.cell? ⟨B, 1, none⟩ = some (.slice O on oc) := J2.r3.cell 1
        have c4 : w2.cell? ⟨w.heap.size + 1, 1, none⟩ = some (.slice (some ⟨b, off, none⟩) sn sc) := J2.r1.cell 1
        have hon : on ≤ 60 := by rw [← OL.out.1]; exact ins_len (by rw [HSN.out]; exact h60)
        have zB1 : B + 1 ≤ wr.heap.size := zBB
        have b3 : Below w2.drew.heap.size w2.drew (w2.drew.alloc (.cells #[.int .i64 ((p : Int) + xa), .int .i64 xr, .slice U2 un2 uc2] 102)) := (Below.refl _ _).alloc (Nat.le_refl _) _
        have RB := hid (show Row w2.drew B 56 #[.slice X xn xc, .slice O on oc] from J2.r3)
        have J2H := hid J2
        have bB : b < B + 1 := by have := HZ.out; omega
        clear hb2 bb J2 oU JJ k0 k1 k2 K0 K1 c2 LP
        go_upto_region 13 with fail
        refine AnyT.start (S := (fun w' => w'.cell? ⟨B, 1, none⟩ = some (.slice O on oc) ∧ w'.cell? ⟨w.heap.size + 1, 1, none⟩ = some (.slice (some ⟨b, off, none⟩) sn sc) ∧ w'.cell? ⟨b, off + i * 3, none⟩ = some (.int .i64 xa) ∧ w'.cell? ⟨b, off + i * 3 + 1, none⟩ = some (.int .i64 xr))) (fun j => j == 21) (by kernel_rfl) ⟨c3, c4, c0, c1⟩ (fun hHeld => ?_)
        refine AnyT.takeA (i := 0) (v := ?_) rfl (by kernel_rfl) (by kernel_rfl) (by kernel_rfl) (fun _ _ _ h => h) (Or.inl ⟨by rfl, ?_⟩) ?_
        rotate_left 1
        ·(intro w0 _; go_simp; try with_reducible rfl)
        try simp only [Act.put, setIfInBounds_toArray, set_cons_zero, set_cons_succ, getElem_toArray, getElem_cons_zero, getElem_cons_succ]
        refine AnyT.take (i := 1) (v := ?_) rfl (by kernel_rfl) (by kernel_rfl) (by kernel_rfl) (by kernel_rfl) (fun _ _ _ h => h) (Or.inl ⟨by rfl, ?_⟩) (by assumption) ?_
        rotate_left 1
        ·(intro w0 hSw; (try dsimp only at hSw); go_simp; try with_reducible rfl)
        try simp only [Act.put, setIfInBounds_toArray, set_cons_zero, set_cons_succ, getElem_toArray, getElem_cons_zero, getElem_cons_succ]
        refine AnyT.takeA (i := 2) (v := ?_) rfl (by kernel_rfl) (by kernel_rfl) (by kernel_rfl) (fun _ _ _ h => h) (Or.inl ⟨by rfl, ?_⟩) ?_
        rotate_left 1
        ·(intro w0 _; go_simp; try with_reducible rfl)
        try simp only [Act.put, setIfInBounds_toArray, set_cons_zero, set_cons_succ, getElem_toArray, getElem_cons_zero, getElem_cons_succ]
        refine AnyT.takeA (i := 3) (v := ?_) rfl (by kernel_rfl) (by kernel_rfl) (by kernel_rfl) (fun _ _ _ h => h) (Or.inl ⟨by rfl, ?_⟩) ?_
        rotate_left 1
        ·(intro w0 _; go_simp; try with_reducible rfl)
        try simp only [Act.put, setIfInBounds_toArray, set_cons_zero, set_cons_succ, getElem_toArray, getElem_cons_zero, getElem_cons_succ]
        refine AnyT.take (i := 4) (v := ?_) rfl (by kernel_rfl) (by kernel_rfl) (by kernel_rfl) (by kernel_rfl) (fun _ _ _ h => h) (Or.inl ⟨by rfl, ?_⟩) (by assumption) ?_
        rotate_left 1
        ·(intro w0 hSw; (try dsimp only at hSw); go_simp; try with_reducible rfl)
        try simp only [Act.put, setIfInBounds_toArray, set_cons_zero, set_cons_succ, getElem_toArray, getElem_cons_zero, getElem_cons_succ]
        refine AnyT.takeA (i := 5) (v := ?_) rfl (by kernel_rfl) (by kernel_rfl) (by kernel_rfl) (fun _ _ _ h => h) (Or.inl ⟨by rfl, ?_⟩) ?_
        rotate_left 1
        ·(intro w0 _; go_simp; try with_reducible rfl)
        try simp only [Act.put, setIfInBounds_toArray, set_cons_zero, set_cons_succ, getElem_toArray, getElem_cons_zero, getElem_cons_succ]
        refine AnyT.takeA (i := 6) (v := ?_) rfl (by kernel_rfl) (by kernel_rfl) (by kernel_rfl) (fun _ _ _ h => h) (Or.inl ⟨by rfl, ?_⟩) ?_
        rotate_left 1
        ·(intro w0 _; go_simp; try with_reducible rfl)
        try simp only [Act.put, setIfInBounds_toArray, set_cons_zero, set_cons_succ, getElem_toArray, getElem_cons_zero, getElem_cons_succ]
        refine AnyT.takeA (i := 7) (v := ?_) rfl (by kernel_rfl) (by kernel_rfl) (by kernel_rfl) (fun _ _ _ h => h) (Or.inl ⟨by rfl, ?_⟩) ?_
        rotate_left 1
        ·(intro w0 _; go_simp; try with_reducible rfl)
        try simp only [Act.put, setIfInBounds_toArray, set_cons_zero, set_cons_succ, getElem_toArray, getElem_cons_zero, getElem_cons_succ]
        refine AnyT.take (i := 8) (v := ?_) rfl (by kernel_rfl) (by kernel_rfl) (by kernel_rfl) (by kernel_rfl) (fun _ _ _ h => h) (Or.inl ⟨by rfl, ?_⟩) (by assumption) ?_
        rotate_left 1
        ·(intro w0 hSw; (try dsimp only at hSw); go_simp; try with_reducible rfl)
        try simp only [Act.put, setIfInBounds_toArray, set_cons_zero, set_cons_succ, getElem_toArray, getElem_cons_zero, getElem_cons_succ]
        refine AnyT.takeA (i := 9) (v := ?_) rfl (by kernel_rfl) (by kernel_rfl) (by kernel_rfl) (fun _ _ _ h => h) (Or.inl ⟨by rfl, ?_⟩) ?_
        rotate_left 1
        ·(intro w0 _; go_simp; try with_reducible rfl)
        try simp only [Act.put, setIfInBounds_toArray, set_cons_zero, set_cons_succ, getElem_toArray, getElem_cons_zero, getElem_cons_succ]
        refine AnyT.takeA (i := 10) (v := ?_) rfl (by kernel_rfl) (by kernel_rfl) (by kernel_rfl) (fun _ _ _ h => h) (Or.inl ⟨by rfl, ?_⟩) ?_
        rotate_left 1
        ·(intro w0 _; go_simp; try with_reducible rfl)
        try simp only [Act.put, setIfInBounds_toArray, set_cons_zero, set_cons_succ, getElem_toArray, getElem_cons_zero, getElem_cons_succ]
        refine AnyT.take (i := 11) (v := ?_) rfl (by kernel_rfl) (by kernel_rfl) (by kernel_rfl) (by kernel_rfl) (fun _ _ _ h => h) (Or.inl ⟨by rfl, ?_⟩) (by assumption) ?_
        rotate_left 1
        ·(intro w0 hSw; (try dsimp only at hSw); go_simp; try with_reducible rfl)
        try simp only [Act.put, setIfInBounds_toArray, set_cons_zero, set_cons_succ, getElem_toArray, getElem_cons_zero, getElem_cons_succ]
        refine AnyT.takeA (i := 12) (v := ?_) rfl (by kernel_rfl) (by kernel_rfl) (by kernel_rfl) (fun _ _ _ h => h) (Or.inl ⟨by rfl, ?_⟩) ?_
        rotate_left 1
        ·(intro w0 _; go_simp; try with_reducible rfl)
        try simp only [Act.put, setIfInBounds_toArray, set_cons_zero, set_cons_succ, getElem_toArray, getElem_cons_zero, getElem_cons_succ]
        refine AnyT.takeA (i := 13) (v := ?_) rfl (by kernel_rfl) (by kernel_rfl) (by kernel_rfl) (fun _ _ _ h => h) (Or.inl ⟨by rfl, ?_⟩) ?_
        rotate_left 1
        ·(intro w0 _; go_simp; try with_reducible rfl)
        try simp only [Act.put, setIfInBounds_toArray, set_cons_zero, set_cons_succ, getElem_toArray, getElem_cons_zero, getElem_cons_succ]
        refine AnyT.takeA (i := 14) (v := ?_) rfl (by kernel_rfl) (by kernel_rfl) (by kernel_rfl) (fun _ _ _ h => h) (Or.inl ⟨by rfl, ?_⟩) ?_
        rotate_left 1
        ·(intro w0 _; go_simp; try with_reducible rfl)
        try simp only [Act.put, setIfInBounds_toArray, set_cons_zero, set_cons_succ, getElem_toArray, getElem_cons_zero, getElem_cons_succ]
        refine AnyT.take (i := 15) (v := ?_) rfl (by kernel_rfl) (by kernel_rfl) (by kernel_rfl) (by kernel_rfl) (fun _ _ _ h => h) (Or.inl ⟨by rfl, ?_⟩) (by assumption) ?_
        rotate_left 1
        ·(intro w0 hSw; (try dsimp only at hSw); go_simp; try with_reducible rfl)
        try simp only [Act.put, setIfInBounds_toArray, set_cons_zero, set_cons_succ, getElem_toArray, getElem_cons_zero, getElem_cons_succ]
        refine AnyT.takeA (i := 16) (v := ?_) rfl (by kernel_rfl) (by kernel_rfl) (by kernel_rfl) (fun _ _ _ h => h) (Or.inl ⟨by rfl, ?_⟩) ?_
        rotate_left 1
        ·(intro w0 _; go_simp; try with_reducible rfl)
        try simp only [Act.put, setIfInBounds_toArray, set_cons_zero, set_cons_succ, getElem_toArray, getElem_cons_zero, getElem_cons_succ]
        refine AnyT.takeA (i := 17) (v := ?_) rfl (by kernel_rfl) (by kernel_rfl) (by kernel_rfl) (fun _ _ _ h => h) (Or.inl ⟨by rfl, ?_⟩) ?_
        rotate_left 1
        ·(intro w0 _; go_simp; try with_reducible rfl)
        try simp only [Act.put, setIfInBounds_toArray, set_cons_zero, set_cons_succ, getElem_toArray, getElem_cons_zero, getElem_cons_succ]
        refine AnyT.call (i := 18) (by kernel_rfl) rfl (fun K hK => ?_)
        try simp only [Act.put, setIfInBounds_toArray, set_cons_zero, set_cons_succ, getElem_toArray, getElem_cons_zero, getElem_cons_succ]
        rw [if_pos (by rfl)]
        go_simp
        refine hK.out _ _ (fun _ _ => ?_) (fun hKeep => ?_)
        ·exact ⟨keep_alloc c3, keep_alloc c4, keep_alloc c0, keep_alloc c1⟩
        replace hHeld := hKeep (by first | rfl | trivial) hHeld
        clear hK K hKeep
        try simp only [Act.put, setIfInBounds_toArray, set_cons_zero, set_cons_succ, getElem_toArray, getElem_cons_zero, getElem_cons_succ]
        refine AnyT.call (i := 19) (by kernel_rfl) rfl (fun K hK => ?_)
        try simp only [Act.put, setIfInBounds_toArray, set_cons_zero, set_cons_succ, getElem_toArray, getElem_cons_zero, getElem_cons_succ]
        rw [if_pos (by rfl)]
        have HAPP := hid (show OwnL (w2.drew.alloc (.cells #[.int .i64 ((p : Int) + xa), .int .i64 xr, .slice U2 un2 uc2] 102)) (B + 1) wr.heap.size 102 sStep O on oc (insS d.1 t p (k.2.take i)) ∧ OwnL (w2.drew.alloc (.cells #[.int .i64 ((p : Int) + xa), .int .i64 xr, .slice U2 un2 uc2] 102)) wr.heap.size (w2.heap.size + 1) 102 sStep (some ⟨w2.heap.size, 0, none⟩) 1 1 [((p : Int) + xa, xr, putAt d.1 t ys p)] from ⟨OL.out.next b3, OwnL.single (e := 102) (s := sStep) (Row.new w2.drew 102 #[.int .i64 ((p : Int) + xa), .int .i64 xr, .slice U2 un2 uc2]) ((owned_step OU.out ((p : Int) + xa) xr).next b3) (Nat.le_refl _) zz⟩)
        refine wp_appL _ _ 54 102 sStep _ _ Try.underlying54 info_StepS rfl (by decide) rfl (B + 1) wr.heap.size wr.heap.size (w2.heap.size + 1) O on oc w2.heap.size 1 1 _ _ rfl HAPP.out.1 rfl HAPP.out.2 (Nat.le_refl _) zB1 (by omega) (by omega) (by simp; omega) ?_
        intro A4 oc' w4 oL4 hg4 hat4 b4 hf4
        obtain ⟨O', rfl⟩ := hf4 (.inr (by omega))
        refine hK.out _ _ (fun _ _ => ?_) (fun hKeep => ?_)
        ·exact ⟨(b4.cell (p := ⟨B, 1, none⟩) (show B < B + 1 by omega)).trans (keep_alloc c3), (b4.cell (p := ⟨w.heap.size + 1, 1, none⟩) (show w.heap.size + 1 < B + 1 by omega)).trans (keep_alloc c4), (b4.cell (p := ⟨b, off + i * 3, none⟩) (show b < B + 1 by omega)).trans (keep_alloc c0), (b4.cell (p := ⟨b, off + i * 3 + 1, none⟩) (show b < B + 1 by omega)).trans (keep_alloc c1)⟩
        replace hHeld := hKeep (by first | rfl | trivial) hHeld
        clear hK K hKeep
        try simp only [Act.put, setIfInBounds_toArray, set_cons_zero, set_cons_succ, getElem_toArray, getElem_cons_zero, getElem_cons_succ]
        refine AnyT.takeA (i := 20) (v := ?_) rfl (by kernel_rfl) (by kernel_rfl) (by kernel_rfl) (fun _ _ _ h => h) (Or.inl ⟨by rfl, ?_⟩) ?_
        rotate_left 1
        ·(intro w0 _; go_simp; try with_reducible rfl)
        try simp only [Act.put, setIfInBounds_toArray, set_cons_zero, set_cons_succ, getElem_toArray, getElem_cons_zero, getElem_cons_succ]
        have rB4 := (RB.out.alloc (.cells #[.int .i64 ((p : Int) + xa), .int .i64 xr, .slice U2 un2 uc2] 102)).below b4 (show B < B + 1 by omega)
        have y1 : w4.cell? ⟨B, 1, none⟩ = some (.slice O on oc) := rB4.cell 1
        have g1 := rB4.free 1
        refine AnyT.call (i := 21) (by kernel_rfl) rfl (fun K hK => ?_)
        try simp only [Act.put, setIfInBounds_toArray, set_cons_zero, set_cons_succ, getElem_toArray, getElem_cons_zero, getElem_cons_succ]
        rw [if_pos (by rfl)]
        go_simp
        refine hK.out _ _ (fun h => by cases h) (fun _ => ?_)
        clear hK K
        try simp only [Act.put, setIfInBounds_toArray, set_cons_zero, set_cons_succ, getElem_toArray, getElem_cons_zero, getElem_cons_succ]
        refine AnyT.done (by kernel_rfl) ?_ _
        have hJ := (J2H.out.next ((drew_below w2).trans b3))
        have F := hid (show Wi w (.slice A n cs) (.slice V q cv) (.slice F fn fc) (.slice (some ⟨b, off, none⟩) sn sc) B X (some ⟨O', 0, none⟩) xn xc (on + 1) oc' (putAt d.1 t k.1 p) (insS d.1 t p (k.2.take (i + 1))) (w4.setCell ⟨B, 1, none⟩ (.slice (some ⟨O', 0, none⟩) (on + 1) oc')) from by
         have z := HZ.out
         have h9 : w2.heap.size + 1 ≤ w4.heap.size := by have := b4.size; simpa using this
         refine ⟨(hJ.r0.below b4 (by omega)).far (show w.heap.size ≠ B by omega) _, (hJ.r1.below b4 (by omega)).far (show w.heap.size + 1 ≠ B by omega) _, (hJ.r2.below b4 (by omega)).far (show w.heap.size + 1 + 1 ≠ B by omega) _, rB4.put 1 _, ?_, ?_, ?_, z⟩
         ·exact (hJ.x.btw (lo' := B + 1) (hi' := w4.heap.size) (Btw.of_grown hg4 (fun q hq => by have h8 := OL.out.ge q hq; have h7 : q < w2.heap.size := h8.2; omega)) (.inl (by omega))).btw (lo' := B) (hi' := B + 1) ⟨rfl, rfl, rfl, by simp, fun k hk ho => Below.heap_setCell w4 _ _ k (by show k ≠ B; omega)⟩ (.inl (Nat.le_refl _))
         ·rw [← ins_take hil EX.out]
          have o5 : OwnL (w4.setCell ⟨B, 1, none⟩ (.slice (some ⟨O', 0, none⟩) (on + 1) oc')) (B + 1) w4.heap.size 102 sStep (some ⟨O', 0, none⟩) (on + 1) oc' (insS d.1 t p (k.2.take i) ++ [((p : Int) + xa, xr, putAt d.1 t ys p)]) := oL4.btw (lo' := B) (hi' := B + 1) ⟨rfl, rfl, rfl, by simp, fun k hk ho => Below.heap_setCell w4 _ _ k (by show k ≠ B; omega)⟩ (.inr (Nat.le_refl _))
          exact o5.wider (Nat.le_refl _) (by simp)
         ·exact (hJ.b.trans (b4.mono (by omega))).setCell (show w.heap.size ≤ B by omega) _)
        have HL2 := hid (show ∀ j, j < i + 1 → (putAt d.1 t (k.2.getD j (0, 0, [])).2.2 p).length ≤ 60 from fun j hj => by
         by_cases e : j = i
         ·subst e; rw [EX.out]; exact HB2.out
         ·exact HLOW.out j (by omega))
        clear hJ rB4 oL4 hg4 hat4 b4 hf4 HAPP b3 OL OU RB J2H c0 c1 c3 c4
        go_wp2
        go_roundg (gk - 1)
        case measure => have := HG.out; omega
        case rel => exact ⟨i + 1, on + 1, oc', some ⟨O', 0, none⟩, by simp, by have := HG.out; omega, HL2.out, F.out⟩
      ·have e1 : i = sn := by have := HG.out; omega
       subst e1
       have HI := hid (ins_yes HR.out HO.out HPT.out HB1.out (fun j hj => HLOW.out j (by rw [← HSN.out]; exact hj)))
       have HZ := J.z
       have ow : Owned wr (w.heap.size + 1 + 1 + 1) wr.heap.size sWalk [.slice X xn xc, .slice O on oc] (putAt d.1 t k.1 p, insS d.1 t p k.2) := by
        have o2 := J.o
        rw [List.take_of_length_le (by rw [HSN.out]; exact Nat.le_refl _)] at o2
        exact owned_walk (J.x.wider (Nat.le_refl _) (Nat.le_succ _)) o2 (by omega) J.r3.lt
       have jb := J.b
       have j2 := J.r2
       have K2 : wr.cell? ⟨B, 0, none⟩ = some (.slice X xn xc) := J.r3.cell 0
       have K3 : wr.cell? ⟨B, 1, none⟩ = some (.slice O on oc) := J.r3.cell 1
       clear J K0 HLOW
       have y0 : wr.cell? ⟨w.heap.size + 1 + 1, 0, none⟩ = some (.slice none 0 0) := j2.cell 0
       have y1 : wr.cell? ⟨w.heap.size + 1 + 1, 1, none⟩ = some (.slice none 0 0) := j2.cell 1
       have g0 := j2.free 0
       have g1 := j2.free 1
       have ra := j2.put 0 (.slice X xn xc)
       have y2 : (wr.setCell ⟨w.heap.size + 1 + 1, 0, none⟩ (.slice X xn xc)).cell? ⟨w.heap.size + 1 + 1, 1, none⟩ = some (.slice none 0 0) := ra.cell 1
       have g2 := ra.free 1
       have rb := ra.put 1 (.slice O on oc)
       have u0 : ((wr.setCell ⟨w.heap.size + 1 + 1, 0, none⟩ (.slice X xn xc)).setCell ⟨w.heap.size + 1 + 1, 1, none⟩ (.slice O on oc)).cell? ⟨w.heap.size + 1 + 1, 0, none⟩ = some (.slice X xn xc) := rb.cell 0
       have u1 : ((wr.setCell ⟨w.heap.size + 1 + 1, 0, none⟩ (.slice X xn xc)).setCell ⟨w.heap.size + 1 + 1, 1, none⟩ (.slice O on oc)).cell? ⟨w.heap.size + 1 + 1, 1, none⟩ = some (.slice O on oc) := rb.cell 1
       have FZ : AnsWalk w (insideW d.1 d.2 k t p) (insideB d.1 d.2 k t p) (.returned (.tuple #[.agg #[.slice X xn xc, .slice O on oc], .bool true])) ((wr.setCell ⟨w.heap.size + 1 + 1, 0, none⟩ (.slice X xn xc)).setCell ⟨w.heap.size + 1 + 1, 1, none⟩ (.slice O on oc)) := ⟨_, _, _, _, _, _, by rw [HI.out.2], by rw [HI.out.1]; exact ((ow.put (g := w.heap.size + 1 + 1) (i := 0) (by omega)).put (g := w.heap.size + 1 + 1) (i := 1) (by omega)).wider (by omega) (by simp), (jb.setCell (show w.heap.size ≤ w.heap.size + 1 + 1 by omega) _).setCell (show w.heap.size ≤ w.heap.size + 1 + 1 by omega) _⟩
       have HFZ := hid FZ
       clear FZ ra rb ow jb j2
       go_wp2
       exact bodyPost_ret (v := .tuple #[.agg #[.slice X xn xc, .slice O on oc], .bool true]) (by simp [results, Try.results37, go_sem, u0, u1]) rfl HFZ.out
end walkSpec
end
section
namespace walkX
open Go.RowKit base sig term termOk termFacts segs shape kindsR kindsW ruleMath stepMath walkMath walkSpec
theorem steps_sz {L : List St} {C : Nat} (h : ∀ s ∈ L, s.2.2.length ≤ C) : sz sStepS L ≤ L.length * (C + 1) := by
 induction L with
 | nil => exact Nat.zero_le _
 | cons x r ih =>
  have h1 := ih (fun s hs => h s (List.mem_cons_of_mem _ hs))
  have h2 := h x (List.mem_cons_self ..)
  have e : sz sStepS (x :: r) = (r.length + 1) + ((0 + (0 + sz sI x.2.2)) + (r.map (sz sStep)).sum) := rfl
  have e2 : sz sStepS r = r.length + (r.map (sz sStep)).sum := rfl
  rw [e, sz_ints, List.length_cons, Nat.add_mul]
  rw [e2] at h1
  omega
theorem walk_sz {k : Wk} (h1 : k.1.length ≤ 60) (h2 : k.2.length ≤ 60) (h3 : ∀ s ∈ k.2, s.2.2.length ≤ 60) : sz sWalk k ≤ 1048576 := by
 show sz sI k.1 + sz sStepS k.2 ≤ 1048576
 have a := steps_sz h3
 have b : k.2.length * (60 + 1) ≤ 60 * 61 := Nat.mul_le_mul h2 (Nat.le_refl _)
 rw [sz_ints]
 omega
theorem zero_sz : sz sWalk (([], []) : List Int × List St) ≤ 1048576 := walk_sz (k := ([], [])) (by simp) (by simp) (fun s hs => by cases hs)
theorem inside_sz {sg : List Int} {rs : List Rl} {k : Wk} {t : List Int} {x : Int} : sz sWalk (insideW sg rs k t x) ≤ 1048576 := by
 cases h : insideB sg rs k t x with
 | false => rw [(ins_off h).1]; exact zero_sz
 | true =>
  have h0 := h
  unfold insideB fitsAll at h
  simp only [Bool.and_eq_true, decide_eq_true_eq, List.all_eq_true] at h
  obtain ⟨⟨h1, h2⟩, h3, h4, h5⟩ := h
  unfold insideW
  rw [if_pos h0]
  refine walk_sz h4 (by show (insS sg t x.toNat k.2).length ≤ 60; unfold insS; rw [List.length_map]; exact (walk_parts h2).2.2.1) (fun s hs => ?_)
  have hs : s ∈ insS sg t x.toNat k.2 := hs
  unfold insS at hs
  obtain ⟨y, hy, rfl⟩ := List.mem_map.1 hs
  exact h5 y hy
end walkX
end
section
open Go.Lib (hid)
open List (setIfInBounds_toArray set_cons_zero set_cons_succ getElem_toArray getElem_cons_zero getElem_cons_succ)
namespace walkImpl
open Go.RowKit base ints sig term termOk endAt endOf marks app sym sub segs segsHelp kinds termFacts same shifted shape drawX kindsR kindsW varsOf ruleMath ruleSpec stepMath walkMath stepSpec walkSpec ownL heldT
set_option maxRecDepth 100000
def Changes (g : Nat) (lb : Array Value) (w : World) (T : List Int → Prop) (f : List Int → List Int) (ok : List Int → Bool) : Prop := ∀ (W : World) (U : Option Addr) (un uc : Nat) (y : List Int), Below w.heap.size w W → Rd W W.heap.size sI [.slice U un uc] y → T y →
 Calls Try.prog g (#[.slice U un uc] ++ lb) W (AnsPairO W (if ok y = true then f y else []) (ok y))
def Places (g : Nat) (lb : Array Value) (w : World) (T : St → Prop) (pl : St → Int) : Prop := ∀ (W : World) (xa xr : Int) (U : Option Addr) (un uc : Nat) (ys : List Int), Below w.heap.size w W → Rd W W.heap.size sI [.slice U un uc] ys → T (xa, xr, ys) →
 Calls Try.prog g (#[.agg #[.int .i64 xa, .int .i64 xr, .slice U un uc]] ++ lb) W fun e w' => e = .returned (.int .i64 (pl (xa, xr, ys))) ∧ Below W.heap.size W w'
def carB (ok : List Int → Bool) (k : Wk) : Bool := ok k.1 && k.2.all fun s => ok s.2.2
def carS (f : List Int → List Int) (pl : St → Int) (L : List St) : List St := L.map fun s => (pl s, s.2.1, f s.2.2)
def carW (f : List Int → List Int) (ok : List Int → Bool) (pl : St → Int) (k : Wk) : Wk := if carB ok k = true then (f k.1, carS f pl k.2) else ([], [])
section
variable {f : List Int → List Int} {ok : List Int → Bool} {pl : St → Int} {k : Wk}
theorem car_off (h : carB ok k = false) : carW f ok pl k = ([], []) ∧ carB ok k = false := ⟨by unfold carW; rw [if_neg (by rw [h]; simp)], h⟩
theorem car_no1 (h : ok k.1 = false) : carW f ok pl k = ([], []) ∧ carB ok k = false := car_off (by unfold carB; rw [h]; rfl)
theorem car_no2 {i : Nat} {y : St} (hi : i < k.2.length) (hy : k.2.getD i (0, 0, []) = y) (h : ok y.2.2 = false) : carW f ok pl k = ([], []) ∧ carB ok k = false := car_off (by
 unfold carB
 have : (k.2.all fun s => ok s.2.2) = false := by
  rw [List.all_eq_false]
  refine ⟨y, ?_, by rw [h]; simp⟩
  rw [← hy]
  simp [List.getD, hi]
 rw [this, Bool.and_false])
theorem car_yes (h1 : ok k.1 = true) (h2 : ∀ i, i < k.2.length → ok (k.2.getD i (0, 0, [])).2.2 = true) : carW f ok pl k = (f k.1, carS f pl k.2) ∧ carB ok k = true := by
 have h : carB ok k = true := by
  unfold carB
  rw [h1, Bool.true_and, List.all_eq_true]
  intro s hs
  obtain ⟨i, hi, rfl⟩ := List.getElem_of_mem hs
  have := h2 i hi
  have e : k.2.getD i (0, 0, []) = k.2[i] := by simp only [List.getD, List.getElem?_eq_getElem hi, Option.getD_some]
  rwa [e] at this
 exact ⟨by unfold carW; rw [if_pos h], h⟩
theorem car_take {i : Nat} {L : List St} {xa xr : Int} {ys : List Int} (hi : i < L.length) (hy : L.getD i (0, 0, []) = (xa, xr, ys)) : carS f pl (L.take i) ++ [(pl (xa, xr, ys), xr, f ys)] = carS f pl (L.take (i + 1)) := by
 have e := take_step hi hy
 unfold carS
 rw [← e, List.map_append]
 rfl
theorem car_len {i : Nat} {L : List St} (h : L.length ≤ 60) : (carS f pl (L.take i)).length ≤ 60 := by unfold carS; rw [List.length_map, List.length_take]; omega
end
structure Ca (w : World) (a b : Value) (B : Nat) (X O : Option Addr) (xn xc on oc : Nat) (fr : List Int) (L : List St) (wr : World) : Prop where
 r0 : Row wr w.heap.size 56 #[a, b]
 r1 : Row wr (w.heap.size + 1) 56 #[.slice none 0 0, .slice none 0 0]
 r3 : Row wr B 56 #[.slice X xn xc, .slice O on oc]
 x : Ownd wr (w.heap.size + 1 + 1) B X xn xc fr
 o : OwnL wr (B + 1) wr.heap.size 102 sStep O on oc L
 b : Below w.heap.size w wr
 z : w.heap.size + 1 + 1 ≤ B
theorem Ca.next {w wr w' : World} {a b : Value} {B : Nat} {X O : Option Addr} {xn xc on oc : Nat} {fr : List Int} {L : List St} (h : Ca w a b B X O xn xc on oc fr L wr) (hb : Below wr.heap.size wr w') : Ca w a b B X O xn xc on oc fr L w' :=
 ⟨h.r0.next hb, h.r1.next hb, h.r3.next hb, h.x.next hb, (h.o.next hb).wider (Nat.le_refl _) hb.size, next_trans h.b hb, h.z⟩
set_option maxHeartbeats 8000000 in
theorem carried (gC : Nat) (lbC : Array Value) (egC : ∀ args w, (callFunc gC args).run Try.prog w = .ok (.enter gC args) w) (gP : Nat) (lbP : Array Value) (egP : ∀ args w, (callFunc gP args).run Try.prog w = .ok (.enter gP args) w)
  (T : List Int → Prop) (T2 : St → Prop) (f : List Int → List Int) (ok : List Int → Bool) (pl : St → Int) (a b : Value) (k : Dat sWalk) (w : World) (h : Rd w w.heap.size sWalk [a, b] k) (hz : sz sWalk k ≤ 1048576) (h60 : List.length k.2 ≤ 60)
  (hC : Changes gC lbC w T f ok) (hP : Places gP lbP w T2 pl) (hT : T k.1) (hTs : ok k.1 = true → ∀ i, i < List.length k.2 → T (k.2.getD i (0, 0, [])).2.2 ∧ T2 (k.2.getD i (0, 0, []))) :
  Calls Try.prog 82 #[.agg #[a, b], .func (.func gC) #[] lbC, .func (.func gP) #[] lbP] w (AnsWalk w (carW f ok pl k) (carB ok k)) := by
 obtain ⟨F, fn, fc, S, sn, sc, rfl, rfl, hF, hcF, hfn, hsn0, hsn, hcS, hrF, hrS, hzF, hzS⟩ := rd_walk h hz
 obtain ⟨W, hW, r0, r1, bel⟩ : ∃ W, W = (w.alloc (.cells #[.slice F fn fc, .slice S sn sc] 56)).alloc (.cells #[.slice none 0 0, .slice none 0 0] 56) ∧ Row W w.heap.size 56 #[.slice F fn fc, .slice S sn sc] ∧ Row W (w.heap.size + 1) 56 #[.slice none 0 0, .slice none 0 0] ∧ Below w.heap.size w W := by
  refine ⟨_, rfl, (Row.new w _ _).alloc _, ?_, ((Below.refl _ _).alloc (Nat.le_refl _) _).alloc (by simp) _⟩
  have := Row.new (w.alloc (.cells #[.slice F fn fc, .slice S sn sc] 56)) 56 #[.slice none 0 0, .slice none 0 0]
  simpa using this
 have HW := hid hW
 have LC0 := hid (hC W F fn fc k.1 bel (hrF.next bel) hT)
 have HC := hid hC
 have HP := hid hP
 have HTS0 := hid hTs
 have HRS := hid hrS
 have HSN := hid hsn0
 have h60' : sn ≤ 60 := by rw [← hsn0]; exact h60
 obtain ⟨b0, hb0⟩ : ∃ b0, ok k.1 = b0 := ⟨_, rfl⟩
 have HB0 := hid hb0
 rw [hb0] at LC0
 clear hW h hz hF hcF hcS hrF hrS hzF hzS hsn0 hC hP hTs hb0
 cases b0 with
 | false =>
  go_enter Try.func82, Try.ntmps82
  go_wp2_with (go_at_fn gC; rw [← HW.out]; refine LC0.out.mono ?_; rintro e w3 ⟨X, xn, xc, rfl, oX, bb⟩; refine (?_ : Hid _).out)
  have j1 := r1.next bb
  have jb := next_trans bel bb
  refine hid ?_
  have y0 : w3.cell? ⟨w.heap.size + 1, 0, none⟩ = some (.slice none 0 0) := j1.cell 0
  have y1 : w3.cell? ⟨w.heap.size + 1, 1, none⟩ = some (.slice none 0 0) := j1.cell 1
  have g0 := j1.free 0
  have g1 := j1.free 1
  have ra := j1.put 0 (.slice none 0 0)
  have y2 : (w3.setCell ⟨w.heap.size + 1, 0, none⟩ (.slice none 0 0)).cell? ⟨w.heap.size + 1, 1, none⟩ = some (.slice none 0 0) := ra.cell 1
  have g2 := ra.free 1
  have rb := ra.put 1 (.slice none 0 0)
  have u0 : ((w3.setCell ⟨w.heap.size + 1, 0, none⟩ (.slice none 0 0)).setCell ⟨w.heap.size + 1, 1, none⟩ (.slice none 0 0)).cell? ⟨w.heap.size + 1, 0, none⟩ = some (.slice none 0 0) := rb.cell 0
  have u1 : ((w3.setCell ⟨w.heap.size + 1, 0, none⟩ (.slice none 0 0)).setCell ⟨w.heap.size + 1, 1, none⟩ (.slice none 0 0)).cell? ⟨w.heap.size + 1, 1, none⟩ = some (.slice none 0 0) := rb.cell 1
  have FZ : AnsWalk w (carW f ok pl k) (carB ok k) (.returned (.tuple #[.agg #[.slice none 0 0, .slice none 0 0], .bool false])) ((w3.setCell ⟨w.heap.size + 1, 0, none⟩ (.slice none 0 0)).setCell ⟨w.heap.size + 1, 1, none⟩ (.slice none 0 0)) := ansWalk_no (car_no1 HB0.out) (((jb).setCell (show w.heap.size ≤ w.heap.size + 1 by omega) _).setCell (show w.heap.size ≤ w.heap.size + 1 by omega) _)
  have HFZ := hid FZ
  clear FZ ra rb bb bel r0 r1 oX j1 jb
  go_wp2
  exact bodyPost_ret (v := .tuple #[.agg #[.slice none 0 0, .slice none 0 0], .bool false]) (by simp [results, Try.results82, go_sem, u0, u1]) rfl HFZ.out
 | true =>
  have HTS := hid (HTS0.out HB0.out)
  clear HTS0
  go_enter Try.func82, Try.ntmps82
  go_wp2_with (go_at_fn gC; rw [← HW.out]; refine LC0.out.mono ?_; rintro e w3 ⟨X, xn, xc, rfl, oX, bb⟩; refine (?_ : Hid _).out)
  have oX1 : Own w3 W.heap.size (.slice X xn xc) (f k.1) := oX
  have zX := bb.size
  have zW := r1.lt
  replace r0 := r0.next bb
  replace r1 := r1.next bb
  replace bel := next_trans bel bb
  have b4 : Below w3.heap.size w3 (w3.alloc (.cells #[.slice X xn xc, .slice none 0 0] 56)) := (Below.refl _ _).alloc (Nat.le_refl _) _
  obtain ⟨W4, hW4⟩ : ∃ W4, W4 = w3.alloc (.cells #[.slice X xn xc, .slice none 0 0] 56) := ⟨_, rfl⟩
  have HI0 := hid (show Ca w (.slice F fn fc) (.slice S sn sc) w3.heap.size X none xn xc 0 0 (f k.1) (carS f pl (k.2.take 0)) W4 from by
   rw [hW4]
   exact ⟨r0.next b4, r1.next b4, Row.new _ _ _, ((Ownd.of_own oX1).next b4).wider (by omega) (Nat.le_refl _), OwnL.nil _ _ _ _ _, next_trans bel b4, by omega⟩)
  have KS : (w3.alloc (.cells #[.slice X xn xc, .slice none 0 0] 56)).cell? ⟨w.heap.size, 1, none⟩ = some (.slice S sn sc) := (r0.next b4).cell 1
  have HW4 := hid hW4
  clear bb oX oX1 b4 r0 r1 bel hW4 LC0 HW
  refine hid ?_
  go_wp2_with fail
  rw [← HW4.out]
  clear HW4 KS
  generalize w3.heap.size = B at *
  go_loopg [30] sn (fun g i_ wr => ∃ (i on oc : Nat) (O : Option Addr), i_ = .int .i64 i ∧ i + g = sn ∧ (∀ j, j < i → ok (k.2.getD j (0, 0, [])).2.2 = true) ∧ Ca w (.slice F fn fc) (.slice S sn sc) B X O xn xc on oc (f k.1) (carS f pl (k.2.take i)) wr)
  case atStart => exact ⟨0, 0, 0, none, rfl, by omega, fun j hj => absurd hj (Nat.not_lt_zero _), HI0.out⟩
  case round =>
   clear HI0
   obtain ⟨i, on, oc, O, rfl, hg, hlow, J⟩ := hrel
   have HLOW := hid hlow
   have HG := hid hg
   clear hlow hg
   by_cases hi : i < sn
   ·obtain ⟨b, off, uu, x, hA, hb, ex, c0, c1, c2, hx2⟩ := rd_step HRS.out J.b HSN.out hi
    subst hA
    obtain ⟨xa, xr, ys⟩ := x
    obtain ⟨U, un, uc, rfl, hU, hcU⟩ := rd_ints.1 hx2
    have hil : i < k.2.length := by rw [HSN.out]; exact hi
    have hts := HTS.out i hil
    rw [ex.out] at hts
    have c0 : wr.cell? ⟨b, off + i * 3, none⟩ = some (.int .i64 xa) := c0
    have c1 : wr.cell? ⟨b, off + i * 3 + 1, none⟩ = some (.int .i64 xr) := c1
    obtain ⟨xb, hxb⟩ : ∃ xb, wr.heap.size = xb := ⟨_, rfl⟩
    obtain ⟨w1, hw1⟩ : ∃ w1, w1 = wr.alloc (.cells #[.int .i64 xa, .int .i64 xr, .slice U un uc] 102) := ⟨_, rfl⟩
    have b1 : Below wr.heap.size wr w1 := by rw [hw1]; exact (Below.refl _ _).alloc (Nat.le_refl _) _
    have J1 := J.next b1
    have rX : Row w1 xb 102 #[.int .i64 xa, .int .i64 xr, .slice U un uc] := by rw [hw1, ← hxb]; exact Row.new _ _ _
    have hUr : Rd w1 w1.heap.size sI [.slice U un uc] ys := (rd_ints.2 ⟨U, un, uc, rfl, hU.more J.b.size, hcU⟩ : Rd wr wr.heap.size sI [.slice U un uc] ys).next b1
    have LC1 := hid (HC.out w1 U un uc ys J1.b hUr hts.1)
    have zw1 : xb < w1.heap.size := rX.lt
    have zBB : B < xb := by rw [← hxb]; exact J.r3.lt
    have HZ := hid J.z
    have OL0 := hid (show OwnL w1 (B + 1) xb 102 sStep O on oc (carS f pl (k.2.take i)) from by rw [← hxb]; exact J.o.next b1)
    have i0 : (0 : Int) ≤ (i : Int) := by omega
    have i1 : (i : Int) < (sn : Int) := by omega
    have EX := hid ex.out
    have HUR := hid hUr
    have J1H := hid J1
    have HW1 := hid hw1
    obtain ⟨bo, hbo⟩ : ∃ bo, ok ys = bo := ⟨_, rfl⟩
    have HBO := hid hbo
    rw [hbo] at LC1
    clear hx2 hU hcU J J1 ex hw1 b1 hUr hbo
    cases bo with
    | false =>
     go_wp2_with (go_at_fn gC; rw [← HW1.out]; refine LC1.out.mono ?_; rintro e w2 ⟨U2, un2, uc2, rfl, oU, bb⟩; refine (?_ : Hid _).out)
     have J2 := J1H.out.next bb
     have j2 := J2.r1
     have jb := J2.b
     clear bb J2 oU J1H OL0 HUR LC1
     refine hid ?_
     have y0 : w2.cell? ⟨w.heap.size + 1, 0, none⟩ = some (.slice none 0 0) := j2.cell 0
     have y1 : w2.cell? ⟨w.heap.size + 1, 1, none⟩ = some (.slice none 0 0) := j2.cell 1
     have g0 := j2.free 0
     have g1 := j2.free 1
     have ra := j2.put 0 (.slice none 0 0)
     have y2 : (w2.setCell ⟨w.heap.size + 1, 0, none⟩ (.slice none 0 0)).cell? ⟨w.heap.size + 1, 1, none⟩ = some (.slice none 0 0) := ra.cell 1
     have g2 := ra.free 1
     have rb := ra.put 1 (.slice none 0 0)
     have u0 : ((w2.setCell ⟨w.heap.size + 1, 0, none⟩ (.slice none 0 0)).setCell ⟨w.heap.size + 1, 1, none⟩ (.slice none 0 0)).cell? ⟨w.heap.size + 1, 0, none⟩ = some (.slice none 0 0) := rb.cell 0
     have u1 : ((w2.setCell ⟨w.heap.size + 1, 0, none⟩ (.slice none 0 0)).setCell ⟨w.heap.size + 1, 1, none⟩ (.slice none 0 0)).cell? ⟨w.heap.size + 1, 1, none⟩ = some (.slice none 0 0) := rb.cell 1
     have FZ : AnsWalk w (carW f ok pl k) (carB ok k) (.returned (.tuple #[.agg #[.slice none 0 0, .slice none 0 0], .bool false])) ((w2.setCell ⟨w.heap.size + 1, 0, none⟩ (.slice none 0 0)).setCell ⟨w.heap.size + 1, 1, none⟩ (.slice none 0 0)) := ansWalk_no (car_no2 hil EX.out HBO.out) (((jb).setCell (show w.heap.size ≤ w.heap.size + 1 by omega) _).setCell (show w.heap.size ≤ w.heap.size + 1 by omega) _)
     have HFZ := hid FZ
     clear FZ ra rb jb j2 c0 c1 c2 rX
     go_wp2
     exact bodyPost_ret (v := .tuple #[.agg #[.slice none 0 0, .slice none 0 0], .bool false]) (by simp [results, Try.results82, go_sem, u0, u1]) rfl HFZ.out
    | true =>
     go_wp2_with (go_at_fn gC; rw [← HW1.out]; refine LC1.out.mono ?_; rintro e w2 ⟨U2, un2, uc2, rfl, oU, bb⟩; refine (?_ : Hid _).out)
     have J2 := J1H.out.next bb
     have oU1 : Own w2 w1.heap.size (.slice U2 un2 uc2) (f ys) := oU
     have zw2 := bb.size
     have OU := hid (show Own w2.drew w1.heap.size (.slice U2 un2 uc2) (f ys) from Own.drew oU1)
     have OL := hid (show OwnL w2.drew (B + 1) xb 102 sStep O on oc (carS f pl (k.2.take i)) from (OL0.out.next bb).next (drew_below w2))
     have RX := hid (show Row w2.drew xb 102 #[.int .i64 xa, .int .i64 xr, .slice U un uc] from rX.next (next_trans bb (drew_below w2)))
     have RB := hid (show Row w2.drew B 56 #[.slice X xn xc, .slice O on oc] from J2.r3)
     have c3 : w2.cell? ⟨B, 1, none⟩ = some (.slice O on oc) := J2.r3.cell 1
     have c0 : w2.cell? ⟨xb, 0, none⟩ = some (.int .i64 xa) := (rX.next bb).cell 0
     have c1 : w2.cell? ⟨xb, 1, none⟩ = some (.int .i64 xr) := (rX.next bb).cell 1
     have c2 : w2.cell? ⟨xb, 2, none⟩ = some (.slice U un uc) := (rX.next bb).cell 2
     have zB : B < w2.drew.heap.size := show B < w2.heap.size by omega
     have zX : xb < w2.drew.heap.size := show xb < w2.heap.size by omega
     have hon : on ≤ 60 := by rw [← OL.out.1]; exact car_len (by rw [HSN.out]; exact h60')
     have zB1 : B + 1 ≤ xb := zBB
     have LPL := hid (HP.out w2.drew xa xr U un uc ys (next_trans J2.b (drew_below w2)) ((HUR.out.next bb).next (drew_below w2)) hts.2)
     have J2H := hid J2
     clear bb J2 oU oU1 J1H OL0 HUR LC1 rX
     refine hid ?_
     go_upto_region 11 with fail
     refine AnyT.start (S := (fun w' => w'.cell? ⟨B, 1, none⟩ = some (.slice O on oc) ∧ w'.cell? ⟨xb, 0, none⟩ = some (.int .i64 xa) ∧ w'.cell? ⟨xb, 1, none⟩ = some (.int .i64 xr) ∧ w'.cell? ⟨xb, 2, none⟩ = some (.slice U un uc))) (fun j => j == 12) (by kernel_rfl) ⟨c3, c0, c1, c2⟩ (fun hHeld => ?_)
     refine AnyT.takeA (i := 0) (v := ?_) rfl (by kernel_rfl) (by kernel_rfl) (by kernel_rfl) (fun _ _ _ h => h) (Or.inl ⟨by rfl, ?_⟩) ?_
     rotate_left 1
     ·(intro w0 _; go_simp; try with_reducible rfl)
     try simp only [Act.put, setIfInBounds_toArray, set_cons_zero, set_cons_succ, getElem_toArray, getElem_cons_zero, getElem_cons_succ]
     refine AnyT.take (i := 1) (v := ?_) rfl (by kernel_rfl) (by kernel_rfl) (by kernel_rfl) (by kernel_rfl) (fun _ _ _ h => h) (Or.inl ⟨by rfl, ?_⟩) (by assumption) ?_
     rotate_left 1
     ·(intro w0 hSw; (try dsimp only at hSw); go_simp; try with_reducible rfl)
     try simp only [Act.put, setIfInBounds_toArray, set_cons_zero, set_cons_succ, getElem_toArray, getElem_cons_zero, getElem_cons_succ]
     refine AnyT.takeA (i := 2) (v := ?_) rfl (by kernel_rfl) (by kernel_rfl) (by kernel_rfl) (fun _ _ _ h => h) (Or.inl ⟨by rfl, ?_⟩) ?_
     rotate_left 1
     ·(intro w0 _; go_simp; try with_reducible rfl)
     try simp only [Act.put, setIfInBounds_toArray, set_cons_zero, set_cons_succ, getElem_toArray, getElem_cons_zero, getElem_cons_succ]
     refine AnyT.take (i := 3) (v := ?_) rfl (by kernel_rfl) (by kernel_rfl) (by kernel_rfl) (by kernel_rfl) (fun _ _ _ h => h) (Or.inl ⟨by rfl, ?_⟩) (by assumption) ?_
     rotate_left 1
     ·(intro w0 hSw; (try dsimp only at hSw); go_simp; try with_reducible rfl)
     try simp only [Act.put, setIfInBounds_toArray, set_cons_zero, set_cons_succ, getElem_toArray, getElem_cons_zero, getElem_cons_succ]
     refine AnyT.takeA (i := 5) (v := ?_) rfl (by kernel_rfl) (by kernel_rfl) (by kernel_rfl) (fun _ _ _ h => h) (Or.inl ⟨by rfl, ?_⟩) ?_
     rotate_left 1
     ·(intro w0 _; go_simp; try with_reducible rfl)
     try simp only [Act.put, setIfInBounds_toArray, set_cons_zero, set_cons_succ, getElem_toArray, getElem_cons_zero, getElem_cons_succ]
     refine AnyT.take (i := 6) (v := ?_) rfl (by kernel_rfl) (by kernel_rfl) (by kernel_rfl) (by kernel_rfl) (fun _ _ _ h => h) (Or.inl ⟨by rfl, ?_⟩) (by assumption) ?_
     rotate_left 1
     ·(intro w0 hSw; (try dsimp only at hSw); go_simp; try with_reducible rfl)
     try simp only [Act.put, setIfInBounds_toArray, set_cons_zero, set_cons_succ, getElem_toArray, getElem_cons_zero, getElem_cons_succ]
     refine AnyT.takeA (i := 7) (v := ?_) rfl (by kernel_rfl) (by kernel_rfl) (by kernel_rfl) (fun _ _ _ h => h) (Or.inl ⟨by rfl, ?_⟩) ?_
     rotate_left 1
     ·(intro w0 _; go_simp; try with_reducible rfl)
     try simp only [Act.put, setIfInBounds_toArray, set_cons_zero, set_cons_succ, getElem_toArray, getElem_cons_zero, getElem_cons_succ]
     refine AnyT.call (i := 4) (by kernel_rfl) rfl (fun K hK => ?_)
     try simp only [Act.put, setIfInBounds_toArray, set_cons_zero, set_cons_succ, getElem_toArray, getElem_cons_zero, getElem_cons_succ]
     rw [if_pos (by rfl)]
     go_simp
     (go_at_fn gP; refine LPL.out.mono ?_; rintro e w5 ⟨rfl, bb5⟩; have d3 : w5.cell? ⟨B, 1, none⟩ = some (.slice O on oc) := (bb5.cell (p := ⟨B, 1, none⟩) zB).trans c3; have d0 : w5.cell? ⟨xb, 0, none⟩ = some (.int .i64 xa) := (bb5.cell (p := ⟨xb, 0, none⟩) zX).trans c0; have d1 : w5.cell? ⟨xb, 1, none⟩ = some (.int .i64 xr) := (bb5.cell (p := ⟨xb, 1, none⟩) zX).trans c1; have d2 : w5.cell? ⟨xb, 2, none⟩ = some (.slice U un uc) := (bb5.cell (p := ⟨xb, 2, none⟩) zX).trans c2; have z5 : w2.heap.size ≤ w5.heap.size := bb5.size; go_wp2_with fail)
     refine hK.out _ _ (fun _ _ => ?_) (fun hKeep => ?_)
     ·exact ⟨d3, d0, d1, d2⟩
     replace hHeld := hKeep (by first | rfl | trivial) hHeld
     clear hK K hKeep
     try simp only [Act.put, setIfInBounds_toArray, set_cons_zero, set_cons_succ, getElem_toArray, getElem_cons_zero, getElem_cons_succ]
     refine AnyT.takeA (i := 8) (v := ?_) rfl (by kernel_rfl) (by kernel_rfl) (by kernel_rfl) (fun _ _ _ h => h) (Or.inl ⟨by rfl, ?_⟩) ?_
     rotate_left 1
     ·(intro w0 _; go_simp; try with_reducible rfl)
     try simp only [Act.put, setIfInBounds_toArray, set_cons_zero, set_cons_succ, getElem_toArray, getElem_cons_zero, getElem_cons_succ]
     refine AnyT.call (i := 9) (by kernel_rfl) rfl (fun K hK => ?_)
     try simp only [Act.put, setIfInBounds_toArray, set_cons_zero, set_cons_succ, getElem_toArray, getElem_cons_zero, getElem_cons_succ]
     rw [if_pos (by rfl)]
     go_simp
     refine hK.out _ _ (fun _ _ => ?_) (fun hKeep => ?_)
     ·exact ⟨keep_alloc d3, keep_alloc d0, keep_alloc d1, keep_alloc d2⟩
     replace hHeld := hKeep (by first | rfl | trivial) hHeld
     clear hK K hKeep
     try simp only [Act.put, setIfInBounds_toArray, set_cons_zero, set_cons_succ, getElem_toArray, getElem_cons_zero, getElem_cons_succ]
     refine AnyT.call (i := 10) (by kernel_rfl) rfl (fun K hK => ?_)
     try simp only [Act.put, setIfInBounds_toArray, set_cons_zero, set_cons_succ, getElem_toArray, getElem_cons_zero, getElem_cons_succ]
     rw [if_pos (by rfl)]
     have b3 : Below w5.heap.size w5 (w5.alloc (.cells #[.int .i64 (pl (xa, xr, ys)), .int .i64 xr, .slice U2 un2 uc2] 102)) := (Below.refl _ _).alloc (Nat.le_refl _) _
     have HAPP := hid (show OwnL (w5.alloc (.cells #[.int .i64 (pl (xa, xr, ys)), .int .i64 xr, .slice U2 un2 uc2] 102)) (B + 1) xb 102 sStep O on oc (carS f pl (k.2.take i)) ∧ OwnL (w5.alloc (.cells #[.int .i64 (pl (xa, xr, ys)), .int .i64 xr, .slice U2 un2 uc2] 102)) xb (w5.heap.size + 1) 102 sStep (some ⟨w5.heap.size, 0, none⟩) 1 1 [(pl (xa, xr, ys), xr, f ys)] from ⟨(OL.out.next bb5).next b3, OwnL.single (e := 102) (s := sStep) (Row.new w5 102 #[.int .i64 (pl (xa, xr, ys)), .int .i64 xr, .slice U2 un2 uc2]) ((((owned_step OU.out (pl (xa, xr, ys)) xr).next bb5).next b3).wider (by omega) (Nat.le_refl _)) (by simpa using z5) (by omega)⟩)
     refine wp_appL _ _ 54 102 sStep _ _ Try.underlying54 info_StepS rfl (by decide) rfl (B + 1) xb xb (w5.heap.size + 1) O on oc w5.heap.size 1 1 _ _ rfl HAPP.out.1 rfl HAPP.out.2 (Nat.le_refl _) zB1 (by omega) (by omega) (by simp; omega) ?_
     intro A4 oc' w4 oL4 hg4 hat4 b4 hf4
     obtain ⟨O', rfl⟩ := hf4 (.inr (by omega))
     have rX4 := Row.away ((RX.out.next bb5).next b3) hg4 (fun e => by have h8 := OL.out.2.1 xb e; omega)
     have kx0 : w4.cell? ⟨xb, 0, none⟩ = some (.int .i64 xa) := rX4.cell 0
     have kx1 : w4.cell? ⟨xb, 1, none⟩ = some (.int .i64 xr) := rX4.cell 1
     have kx2 : w4.cell? ⟨xb, 2, none⟩ = some (.slice U un uc) := rX4.cell 2
     refine hK.out _ _ (fun _ _ => ?_) (fun hKeep => ?_)
     ·exact ⟨(b4.cell (p := ⟨B, 1, none⟩) (show B < B + 1 by omega)).trans (keep_alloc d3), kx0, kx1, kx2⟩
     replace hHeld := hKeep (by first | rfl | trivial) hHeld
     clear hK K hKeep
     try simp only [Act.put, setIfInBounds_toArray, set_cons_zero, set_cons_succ, getElem_toArray, getElem_cons_zero, getElem_cons_succ]
     refine AnyT.takeA (i := 11) (v := ?_) rfl (by kernel_rfl) (by kernel_rfl) (by kernel_rfl) (fun _ _ _ h => h) (Or.inl ⟨by rfl, ?_⟩) ?_
     rotate_left 1
     ·(intro w0 _; go_simp; try with_reducible rfl)
     try simp only [Act.put, setIfInBounds_toArray, set_cons_zero, set_cons_succ, getElem_toArray, getElem_cons_zero, getElem_cons_succ]
     have rB4 := ((RB.out.next bb5).next b3).below b4 (show B < B + 1 by omega)
     have y1 : w4.cell? ⟨B, 1, none⟩ = some (.slice O on oc) := rB4.cell 1
     have g1 := rB4.free 1
     refine AnyT.call (i := 12) (by kernel_rfl) rfl (fun K hK => ?_)
     try simp only [Act.put, setIfInBounds_toArray, set_cons_zero, set_cons_succ, getElem_toArray, getElem_cons_zero, getElem_cons_succ]
     rw [if_pos (by rfl)]
     go_simp
     refine hK.out _ _ (fun h => by cases h) (fun _ => ?_)
     clear hK K
     try simp only [Act.put, setIfInBounds_toArray, set_cons_zero, set_cons_succ, getElem_toArray, getElem_cons_zero, getElem_cons_succ]
     refine AnyT.done (by kernel_rfl) ?_ _
     have hJ := J2H.out.next (next_trans ((drew_below w2).trans bb5) b3)
     have z2 : w2.heap.size ≤ w5.heap.size := z5
     have F := hid (show Ca w (.slice F fn fc) (.slice (some ⟨b, off, none⟩) sn sc) B X (some ⟨O', 0, none⟩) xn xc (on + 1) oc' (f k.1) (carS f pl (k.2.take (i + 1))) (w4.setCell ⟨B, 1, none⟩ (.slice (some ⟨O', 0, none⟩) (on + 1) oc')) from by
      have z := HZ.out
      have h9 : w5.heap.size + 1 ≤ w4.heap.size := by have := b4.size; simpa using this
      refine ⟨(hJ.r0.below b4 (by omega)).far (show w.heap.size ≠ B by omega) _, (hJ.r1.below b4 (by omega)).far (show w.heap.size + 1 ≠ B by omega) _, rB4.put 1 _, ?_, ?_, ?_, z⟩
      ·exact (hJ.x.btw (lo' := B + 1) (hi' := w4.heap.size) (Btw.of_grown hg4 (fun q hq => by have h8 := OL.out.ge q hq; have h7 : q < w2.heap.size := h8.2; omega)) (.inl (by omega))).btw (lo' := B) (hi' := B + 1) ⟨rfl, rfl, rfl, by simp, fun k hk ho => Below.heap_setCell w4 _ _ k (by show k ≠ B; omega)⟩ (.inl (Nat.le_refl _))
      ·rw [← car_take hil EX.out]
       have o5 : OwnL (w4.setCell ⟨B, 1, none⟩ (.slice (some ⟨O', 0, none⟩) (on + 1) oc')) (B + 1) w4.heap.size 102 sStep (some ⟨O', 0, none⟩) (on + 1) oc' (carS f pl (k.2.take i) ++ [(pl (xa, xr, ys), xr, f ys)]) := oL4.btw (lo' := B) (hi' := B + 1) ⟨rfl, rfl, rfl, by simp, fun k hk ho => Below.heap_setCell w4 _ _ k (by show k ≠ B; omega)⟩ (.inr (Nat.le_refl _))
       exact o5.wider (Nat.le_refl _) (by simp)
      ·exact (hJ.b.trans (b4.mono (by omega))).setCell (show w.heap.size ≤ B by omega) _)
     have HL2 := hid (show ∀ j, j < i + 1 → ok (k.2.getD j (0, 0, [])).2.2 = true from fun j hj => by
      by_cases e : j = i
      ·subst e; rw [EX.out]; exact HBO.out
      ·exact HLOW.out j (by omega))
     clear hJ rB4 oL4 hg4 hat4 b4 hf4 HAPP b3 OL OU RB RX J2H c0 c1 c2 c3
     go_wp2
     go_roundg (gk - 1)
     case measure => have := HG.out; omega
     case rel => exact ⟨i + 1, on + 1, oc', some ⟨O', 0, none⟩, by simp, by have := HG.out; omega, HL2.out, F.out⟩
   ·have e1 : i = sn := by have := HG.out; omega
    subst e1
    have HI := hid (car_yes (f := f) (pl := pl) HB0.out (fun j hj => HLOW.out j (by rw [← HSN.out]; exact hj)))
    have HZ := J.z
    have ow : Owned wr (w.heap.size + 1 + 1) wr.heap.size sWalk [.slice X xn xc, .slice O on oc] (f k.1, carS f pl k.2) := by
     have o2 := J.o
     rw [List.take_of_length_le (by rw [HSN.out]; exact Nat.le_refl _)] at o2
     exact owned_walk (J.x.wider (Nat.le_refl _) (Nat.le_succ _)) o2 (by omega) J.r3.lt
    have jb := J.b
    have j1 := J.r1
    have K2 : wr.cell? ⟨B, 0, none⟩ = some (.slice X xn xc) := J.r3.cell 0
    have K3 : wr.cell? ⟨B, 1, none⟩ = some (.slice O on oc) := J.r3.cell 1
    clear J HLOW
    have y0 : wr.cell? ⟨w.heap.size + 1, 0, none⟩ = some (.slice none 0 0) := j1.cell 0
    have y1 : wr.cell? ⟨w.heap.size + 1, 1, none⟩ = some (.slice none 0 0) := j1.cell 1
    have g0 := j1.free 0
    have g1 := j1.free 1
    have ra := j1.put 0 (.slice X xn xc)
    have y2 : (wr.setCell ⟨w.heap.size + 1, 0, none⟩ (.slice X xn xc)).cell? ⟨w.heap.size + 1, 1, none⟩ = some (.slice none 0 0) := ra.cell 1
    have g2 := ra.free 1
    have rb := ra.put 1 (.slice O on oc)
    have u0 : ((wr.setCell ⟨w.heap.size + 1, 0, none⟩ (.slice X xn xc)).setCell ⟨w.heap.size + 1, 1, none⟩ (.slice O on oc)).cell? ⟨w.heap.size + 1, 0, none⟩ = some (.slice X xn xc) := rb.cell 0
    have u1 : ((wr.setCell ⟨w.heap.size + 1, 0, none⟩ (.slice X xn xc)).setCell ⟨w.heap.size + 1, 1, none⟩ (.slice O on oc)).cell? ⟨w.heap.size + 1, 1, none⟩ = some (.slice O on oc) := rb.cell 1
    have FZ : AnsWalk w (carW f ok pl k) (carB ok k) (.returned (.tuple #[.agg #[.slice X xn xc, .slice O on oc], .bool true])) ((wr.setCell ⟨w.heap.size + 1, 0, none⟩ (.slice X xn xc)).setCell ⟨w.heap.size + 1, 1, none⟩ (.slice O on oc)) := ⟨_, _, _, _, _, _, by rw [HI.out.2], by rw [HI.out.1]; exact ((ow.put (g := w.heap.size + 1) (i := 0) (by omega)).put (g := w.heap.size + 1) (i := 1) (by omega)).wider (by omega) (by simp), (jb.setCell (show w.heap.size ≤ w.heap.size + 1 by omega) _).setCell (show w.heap.size ≤ w.heap.size + 1 by omega) _⟩
    have HFZ := hid FZ
    clear FZ ra rb ow jb j1
    go_wp2
    exact bodyPost_ret (v := .tuple #[.agg #[.slice X xn xc, .slice O on oc], .bool true]) (by simp [results, Try.results82, go_sem, u0, u1]) rfl HFZ.out
end walkImpl
end
section
open Go.Lib (hid)
namespace walkImpl
open Go.RowKit base ints sig term termOk endAt endOf marks app sym sub segs segsHelp kinds termFacts same shifted shape drawX kindsR kindsW varsOf ruleMath ruleSpec stepMath walkMath stepSpec walkSpec ownL heldT
set_option maxRecDepth 100000
theorem inPut (B0 B2 B3 : Nat) (A T : Option Addr) (n cs m c : Nat) (V : Value) (sg t : List Int) (p : Int) (w : World) (r0 : Row w B0 42 #[.slice A n cs, V]) (r2 : Row w B2 22 #[.slice T m c]) (r3 : Row w B3 2 #[.int .i64 p])
  (hA : Seg w w.heap.size A n sg) (hT : Seg w w.heap.size T m t) (hn : n ≤ 1048576) (hm : m ≤ 1048576) (hc : m ≤ c) (hc2 : c ≤ 9223372036854775807) (p1 : -9223372036854775808 ≤ p) (p2 : p ≤ 9223372036854775807) :
  Changes 79 #[.pointer (some ⟨B0, 0, none⟩), .pointer (some ⟨B2, 0, none⟩), .pointer (some ⟨B3, 0, none⟩)] w (fun y => y.length ≤ 60) (fun y => put.putI sg t y p.toNat) (fun y => put.putB sg t y p) := by
 intro W U un uc y hb hy h60
 have h60 : y.length ≤ 60 := h60
 obtain ⟨U', un', uc', e, hU, hcU⟩ := rd_ints.1 hy
 injection e with e1 e2 e3
 subst e1 e2 e3
 have K0 : W.cell? ⟨B0, 0, none⟩ = some (.slice A n cs) := (r0.next hb).cell 0
 have K2 : W.cell? ⟨B2, 0, none⟩ = some (.slice T m c) := (r2.next hb).cell 0
 have K3 : W.cell? ⟨B3, 0, none⟩ = some (.int .i64 p) := (r3.next hb).cell 0
 have L := hid (put.implPutAt A T U n cs m c un uc sg t p y W (hA.next hb) (hT.next hb) hU hn hm (by have := hU.1; omega) p1 p2 hcU hc hc2)
 clear r0 r2 r3 hA hT hy hU hcU hb
 refine Calls.mono (R := put.AnsPut W (put.putR sg t y p) (put.putB sg t y p)) ?_ (fun _ _ h => h)
 go_enter Try.func79, Try.ntmps79
 go_wp2_with fail
 refine L.out.mono ?_
 rintro e w1 ⟨X, xn, xc, rfl, oX, bb⟩
 have F := hid (show put.AnsPut W (put.putR sg t y p) (put.putB sg t y p) (.returned (.tuple #[.slice X xn xc, .bool (put.putB sg t y p)])) w1 from ⟨X, xn, xc, rfl, oX, bb⟩)
 clear oX bb K0 K2 K3
 go_wp2
 go_ret2
 exact F.out
theorem inPlace (B3 : Nat) (p : Int) (w : World) (r3 : Row w B3 2 #[.int .i64 p]) :
  Places 81 #[.pointer (some ⟨B3, 0, none⟩)] w (fun _ => True) (fun s => wrap64 (p + s.1)) := by
 intro W xa xr U un uc ys hb hy _
 have K3 := (r3.next hb).alloc (.cells #[.int .i64 xa, .int .i64 xr, .slice U un uc] 102)
 have rX := Row.new W 102 #[.int .i64 xa, .int .i64 xr, .slice U un uc]
 have F := hid (show Below W.heap.size W (W.alloc (.cells #[.int .i64 xa, .int .i64 xr, .slice U un uc] 102)) from (Below.refl _ _).alloc (Nat.le_refl _) _)
 have k3 : (W.alloc (.cells #[.int .i64 xa, .int .i64 xr, .slice U un uc] 102)).cell? ⟨B3, 0, none⟩ = some (.int .i64 p) := K3.cell 0
 have k0 : (W.alloc (.cells #[.int .i64 xa, .int .i64 xr, .slice U un uc] 102)).cell? ⟨W.heap.size, 0, none⟩ = some (.int .i64 xa) := rX.cell 0
 clear r3 K3 rX hy hb
 go_enter Try.func81, Try.ntmps81
 go_wp2
 go_ret
 exact ⟨rfl, F.out⟩
theorem all_mem {p q : St → Bool} : ∀ {L : List St}, (∀ s ∈ L, p s = q s) → L.all p = L.all q
 | [], _ => rfl
 | x :: L, h => by rw [List.all_cons, List.all_cons, h x (List.mem_cons_self ..), all_mem fun s hs => h s (List.mem_cons_of_mem _ hs)]
theorem car_inside {sg : List Int} {rs : List Rl} {k : Wk} {t : List Int} {p : Int} (h : walkB sg rs k = true) :
  carW (fun y => put.putI sg t y p.toNat) (fun y => put.putB sg t y p) (fun s => wrap64 (p + s.1)) k = insideW sg rs k t p ∧ carB (fun y => put.putB sg t y p) k = insideB sg rs k t p := by
 obtain ⟨q1, q2, q3, q4⟩ := walk_parts h
 have hall := (go_ok q2 q4).2
 have hB : carB (fun y => put.putB sg t y p) k = insideB sg rs k t p := by
  unfold carB insideB fitsAll rightB put.putB endAt.thereB endAt.inB walkMath.inB
  dsimp only
  rw [q1, h, q2]
  have e1 : (k.2.all fun s => (termOkB sg t && decide (0 ≤ p ∧ p < (t.length : Int)) && termOkB sg s.2.2 && put.fitB sg t s.2.2 p.toNat)) = (k.2.all fun s => (termOkB sg t && decide (0 ≤ p ∧ p < (t.length : Int)) && put.fitB sg t s.2.2 p.toNat)) := by
   refine all_mem (fun s hs => ?_)
   rw [hall s hs, Bool.and_true]
  rw [e1]
  cases termOkB sg t
  ·simp
  ·cases decide (0 ≤ p ∧ p < (t.length : Int))
   ·simp
   ·simp only [Bool.true_and, Bool.and_true]
    rfl
 refine ⟨?_, hB⟩
 unfold carW insideW
 rw [hB]
 by_cases hb : insideB sg rs k t p = true
 ·rw [if_pos hb, if_pos hb]
  have hp : 0 ≤ p ∧ p < t.length := by
   unfold insideB walkMath.inB at hb
   simp only [Bool.and_eq_true, decide_eq_true_eq] at hb
   exact hb.2.1
  have ht : t.length ≤ 60 := by
   unfold insideB rightB at hb
   simp only [Bool.and_eq_true] at hb
   exact (term_len hb.1.1.2).2
  refine Prod.ext rfl (List.map_congr_left fun s hs => ?_)
  have hs2 := go_ats q4 s hs
  refine Prod.ext ?_ rfl
  show wrap64 (p + s.1) = (p.toNat : Int) + s.1
  rw [IntWalk.wrap64_in _ (by omega)]
  omega
 ·rw [if_neg hb, if_neg hb]
structure Iw (w : World) (a v f s u x : Value) (wr : World) : Prop where
 r0 : Row wr w.heap.size 42 #[a, v]
 r1 : Row wr (w.heap.size + 1) 56 #[f, s]
 r2 : Row wr (w.heap.size + 1 + 1) 22 #[u]
 r3 : Row wr (w.heap.size + 1 + 1 + 1) 2 #[x]
 r4 : Row wr (w.heap.size + 1 + 1 + 1 + 1) 56 #[.slice none 0 0, .slice none 0 0]
 b : Below w.heap.size w wr
theorem Iw.next {w wr w' : World} {a v f s u x : Value} (h : Iw w a v f s u x wr) (hb : Below wr.heap.size wr w') : Iw w a v f s u x w' := ⟨h.r0.next hb, h.r1.next hb, h.r2.next hb, h.r3.next hb, h.r4.next hb, next_trans h.b hb⟩
theorem iw_new (w : World) (a v f s u x : Value) : ∃ W, W = ((((w.alloc (.cells #[a, v] 42)).alloc (.cells #[f, s] 56)).alloc (.cells #[u] 22)).alloc (.cells #[x] 2)).alloc (.cells #[.slice none 0 0, .slice none 0 0] 56) ∧ Iw w a v f s u x W := by
 refine ⟨_, rfl, ?_, ?_, ?_, ?_, ?_, ?_⟩
 ·exact ((((Row.new w _ _).alloc _).alloc _).alloc _).alloc _
 ·have := (((Row.new (w.alloc (.cells #[a, v] 42)) 56 #[f, s]).alloc (.cells #[u] 22)).alloc (.cells #[x] 2)).alloc (.cells #[.slice none 0 0, .slice none 0 0] 56)
  simpa using this
 ·have := ((Row.new ((w.alloc (.cells #[a, v] 42)).alloc (.cells #[f, s] 56)) 22 #[u]).alloc (.cells #[x] 2)).alloc (.cells #[.slice none 0 0, .slice none 0 0] 56)
  simpa using this
 ·have := (Row.new (((w.alloc (.cells #[a, v] 42)).alloc (.cells #[f, s] 56)).alloc (.cells #[u] 22)) 2 #[x]).alloc (.cells #[.slice none 0 0, .slice none 0 0] 56)
  simpa using this
 ·have := Row.new ((((w.alloc (.cells #[a, v] 42)).alloc (.cells #[f, s] 56)).alloc (.cells #[u] 22)).alloc (.cells #[x] 2)) 56 #[.slice none 0 0, .slice none 0 0]
  simpa using this
 ·exact (((((Below.refl _ _).alloc (Nat.le_refl _) _).alloc (by simp) _).alloc (by simp; omega) _).alloc (by simp; omega) _).alloc (by simp; omega) _
set_option maxHeartbeats 8000000 in
theorem implWalkInside (a v f s u : Value) (d : Dat sSystem) (k : Dat sWalk) (t : List Int) (p : Int) (w : World) (h : Rd w w.heap.size sSystem [a, v] d) (h1 : Rd w w.heap.size sWalk [f, s] k) (h2 : Rd w w.heap.size sI [u] t) (hz : sz sSystem d ≤ 1048576) (hz1 : sz sWalk k ≤ 1048576) (hz2 : sz sI t ≤ 1048576) (p1 : -9223372036854775808 ≤ p) (p2 : p ≤ 9223372036854775807) :
  Calls Try.prog 38 #[.agg #[a, v], .agg #[f, s], u, .int .i64 p] w (AnsWalk w (insideW d.1 d.2 k t p) (insideB d.1 d.2 k t p)) := by
 obtain ⟨W, hW, J⟩ := iw_new w a v f s u (.int .i64 p)
 have HW := hid hW
 have L1 := hid (implWalkOk a v f s d k W (h.next J.b) (h1.next J.b) hz hz1)
 obtain ⟨F, fn, fc, S, sn, sc, rfl, rfl, hF, hcF, hfn, hsn0, hsn, hcS, hrF, hrS, hzF, hzS⟩ := rd_walk h1 hz1
 obtain ⟨T, m, c, rfl, hT, hcT⟩ := rd_ints.1 h2
 have hm := len_ints hT.1 hz2
 obtain ⟨A, n, cs, V, q, cv, rfl, rfl, hs, hc, hcv, hq, hn, hq1, hrs, hsg, hE⟩ := rd_sys h hz
 have HST := hid (show Seg w w.heap.size A n d.1 ∧ Seg w w.heap.size T m t ∧ Rd w w.heap.size sWalk [.slice F fn fc, .slice S sn sc] k ∧ sz sWalk k ≤ 1048576 from ⟨hs, hT, h1, hz1⟩)
 have hcT1 := hcT.1
 have hcT2 := hcT.2.1
 clear hW h h1 h2 hz hz1 hz2 hF hcF hcS hrF hrS hzF hzS hT hcT hs hc hcv hq hrs hsg hE hsn0
 cases okw : walkB d.1 d.2 k with
 | false =>
  have HO := hid okw
  clear okw
  go_enter Try.func38, Try.ntmps38
  have K0 : W.cell? ⟨w.heap.size, 0, none⟩ = some (.slice A n cs) := J.r0.cell 0
  have K1 : W.cell? ⟨w.heap.size, 1, none⟩ = some (.slice V q cv) := J.r0.cell 1
  have K2 : W.cell? ⟨w.heap.size + 1, 0, none⟩ = some (.slice F fn fc) := J.r1.cell 0
  have K3 : W.cell? ⟨w.heap.size + 1, 1, none⟩ = some (.slice S sn sc) := J.r1.cell 1
  go_wp2_with fail
  rw [← HW.out]
  go_wp2_with fail
  refine L1.out.mono ?_
  rintro e w1 ⟨he, bb⟩
  rw [HO.out] at he
  subst he
  have J1 := J.next bb
  have j4 := J1.r4
  have jb := J1.b
  clear K0 K1 K2 K3 J J1
  have y0 : w1.cell? ⟨w.heap.size + 1 + 1 + 1 + 1, 0, none⟩ = some (.slice none 0 0) := j4.cell 0
  have y1 : w1.cell? ⟨w.heap.size + 1 + 1 + 1 + 1, 1, none⟩ = some (.slice none 0 0) := j4.cell 1
  have g0 := j4.free 0
  have g1 := j4.free 1
  have ra := j4.put 0 (.slice none 0 0)
  have y2 : (w1.setCell ⟨w.heap.size + 1 + 1 + 1 + 1, 0, none⟩ (.slice none 0 0)).cell? ⟨w.heap.size + 1 + 1 + 1 + 1, 1, none⟩ = some (.slice none 0 0) := ra.cell 1
  have g2 := ra.free 1
  have rb := ra.put 1 (.slice none 0 0)
  have u0 : ((w1.setCell ⟨w.heap.size + 1 + 1 + 1 + 1, 0, none⟩ (.slice none 0 0)).setCell ⟨w.heap.size + 1 + 1 + 1 + 1, 1, none⟩ (.slice none 0 0)).cell? ⟨w.heap.size + 1 + 1 + 1 + 1, 0, none⟩ = some (.slice none 0 0) := rb.cell 0
  have u1 : ((w1.setCell ⟨w.heap.size + 1 + 1 + 1 + 1, 0, none⟩ (.slice none 0 0)).setCell ⟨w.heap.size + 1 + 1 + 1 + 1, 1, none⟩ (.slice none 0 0)).cell? ⟨w.heap.size + 1 + 1 + 1 + 1, 1, none⟩ = some (.slice none 0 0) := rb.cell 1
  have FZ : AnsWalk w (insideW d.1 d.2 k t p) (insideB d.1 d.2 k t p) (.returned (.tuple #[.agg #[.slice none 0 0, .slice none 0 0], .bool false])) ((w1.setCell ⟨w.heap.size + 1 + 1 + 1 + 1, 0, none⟩ (.slice none 0 0)).setCell ⟨w.heap.size + 1 + 1 + 1 + 1, 1, none⟩ (.slice none 0 0)) := ansWalk_no (ins_no2 HO.out) (((jb).setCell (show w.heap.size ≤ w.heap.size + 1 + 1 + 1 + 1 by omega) _).setCell (show w.heap.size ≤ w.heap.size + 1 + 1 + 1 + 1 by omega) _)
  have HFZ := hid FZ
  clear FZ ra rb bb jb j4
  go_wp2
  exact bodyPost_ret (v := .tuple #[.agg #[.slice none 0 0, .slice none 0 0], .bool false]) (by simp [results, Try.results38, go_sem, u0, u1]) rfl HFZ.out
 | true =>
  have HO := hid okw
  clear okw
  have hwp := walk_parts HO.out
  have hEQ := car_inside (sg := d.1) (rs := d.2) (k := k) (t := t) (p := p) HO.out
  have h60s : ∀ i, i < List.length k.2 → (k.2.getD i (0, 0, [])).2.2.length ≤ 60 := fun i hi => (term_len (walk_at HO.out hi rfl).2).2
  have hCAR := hid (fun (w1 : World) (j : Iw w (.slice A n cs) (.slice V q cv) (.slice F fn fc) (.slice S sn sc) (.slice T m c) (.int .i64 p) w1) =>
   carried 79 #[.pointer (some ⟨w.heap.size, 0, none⟩), .pointer (some ⟨w.heap.size + 1 + 1, 0, none⟩), .pointer (some ⟨w.heap.size + 1 + 1 + 1, 0, none⟩)] (enters_of Try.func79 (by kernel_rfl) rfl) 81 #[.pointer (some ⟨w.heap.size + 1 + 1 + 1, 0, none⟩)] (enters_of Try.func81 (by kernel_rfl) rfl)
    (fun y => y.length ≤ 60) (fun _ => True) (fun y => put.putI d.1 t y p.toNat) (fun y => put.putB d.1 t y p) (fun s => wrap64 (p + s.1)) (.slice F fn fc) (.slice S sn sc) k w1 (HST.out.2.2.1.next j.b) HST.out.2.2.2 hwp.2.2.1
    (inPut w.heap.size (w.heap.size + 1 + 1) (w.heap.size + 1 + 1 + 1) A T n cs m c _ d.1 t p w1 j.r0 j.r2 j.r3 (HST.out.1.next j.b) (HST.out.2.1.next j.b) hn hm hcT1 hcT2 p1 p2)
    (inPlace (w.heap.size + 1 + 1 + 1) p w1 j.r3) (term_len hwp.2.1).2 (fun _ i hi => ⟨h60s i hi, trivial⟩))
  rw [hEQ.1, hEQ.2] at hCAR
  clear hwp hEQ h60s
  go_enter Try.func38, Try.ntmps38
  have K0 : W.cell? ⟨w.heap.size, 0, none⟩ = some (.slice A n cs) := J.r0.cell 0
  have K1 : W.cell? ⟨w.heap.size, 1, none⟩ = some (.slice V q cv) := J.r0.cell 1
  have K2 : W.cell? ⟨w.heap.size + 1, 0, none⟩ = some (.slice F fn fc) := J.r1.cell 0
  have K3 : W.cell? ⟨w.heap.size + 1, 1, none⟩ = some (.slice S sn sc) := J.r1.cell 1
  go_wp2_with fail
  rw [← HW.out]
  go_wp2_with fail
  refine L1.out.mono ?_
  rintro e w1 ⟨he, bb⟩
  rw [HO.out] at he
  subst he
  have J1 := J.next bb
  clear K0 K1 K2 K3
  have K2 : w1.cell? ⟨w.heap.size + 1, 0, none⟩ = some (.slice F fn fc) := J1.r1.cell 0
  have K3 : w1.cell? ⟨w.heap.size + 1, 1, none⟩ = some (.slice S sn sc) := J1.r1.cell 1
  have LC := hid (hCAR.out w1 J1)
  clear bb J
  go_wp2_with fail
  refine LC.out.mono ?_
  rintro e w2 ⟨X, xn, xc, O, on, oc, rfl, ow, bb⟩
  have J2 := J1.next bb
  have zz := J1.r4.lt
  have j4 := J2.r4
  have jb := J2.b
  clear K2 K3 J1 J2 hCAR LC
  have y0 : w2.cell? ⟨w.heap.size + 1 + 1 + 1 + 1, 0, none⟩ = some (.slice none 0 0) := j4.cell 0
  have y1 : w2.cell? ⟨w.heap.size + 1 + 1 + 1 + 1, 1, none⟩ = some (.slice none 0 0) := j4.cell 1
  have g0 := j4.free 0
  have g1 := j4.free 1
  have ra := j4.put 0 (.slice X xn xc)
  have y2 : (w2.setCell ⟨w.heap.size + 1 + 1 + 1 + 1, 0, none⟩ (.slice X xn xc)).cell? ⟨w.heap.size + 1 + 1 + 1 + 1, 1, none⟩ = some (.slice none 0 0) := ra.cell 1
  have g2 := ra.free 1
  have rb := ra.put 1 (.slice O on oc)
  have u0 : ((w2.setCell ⟨w.heap.size + 1 + 1 + 1 + 1, 0, none⟩ (.slice X xn xc)).setCell ⟨w.heap.size + 1 + 1 + 1 + 1, 1, none⟩ (.slice O on oc)).cell? ⟨w.heap.size + 1 + 1 + 1 + 1, 0, none⟩ = some (.slice X xn xc) := rb.cell 0
  have u1 : ((w2.setCell ⟨w.heap.size + 1 + 1 + 1 + 1, 0, none⟩ (.slice X xn xc)).setCell ⟨w.heap.size + 1 + 1 + 1 + 1, 1, none⟩ (.slice O on oc)).cell? ⟨w.heap.size + 1 + 1 + 1 + 1, 1, none⟩ = some (.slice O on oc) := rb.cell 1
  have FZ : AnsWalk w (insideW d.1 d.2 k t p) (insideB d.1 d.2 k t p) (.returned (.tuple #[.agg #[.slice X xn xc, .slice O on oc], .bool (insideB d.1 d.2 k t p)])) ((w2.setCell ⟨w.heap.size + 1 + 1 + 1 + 1, 0, none⟩ (.slice X xn xc)).setCell ⟨w.heap.size + 1 + 1 + 1 + 1, 1, none⟩ (.slice O on oc)) := ⟨_, _, _, _, _, _, rfl, ((ow.put (g := w.heap.size + 1 + 1 + 1 + 1) (i := 0) (by omega)).put (g := w.heap.size + 1 + 1 + 1 + 1) (i := 1) (by omega)).wider (by omega) (by simp), (jb.setCell (show w.heap.size ≤ w.heap.size + 1 + 1 + 1 + 1 by omega) _).setCell (show w.heap.size ≤ w.heap.size + 1 + 1 + 1 + 1 by omega) _⟩
  have HFZ := hid FZ
  clear FZ ra rb ow jb j4
  go_wp2
  exact bodyPost_ret (v := .tuple #[.agg #[.slice X xn xc, .slice O on oc], .bool (insideB d.1 d.2 k t p)]) (by simp [results, Try.results38, go_sem, u0, u1]) rfl HFZ.out
end walkImpl
end
end Go.Proofs.Ytfdejhhnochomaa
