/-
  MERGED: my texts StepImplC, WalkImpl, PeakMay, PeakImpl, WPeakOk, one behind the other, as they are. By an AI agent.
-/
import Derived.Test.YtlaloakegajheaaMFnExactPeakOk5
import Derived.Deep.RegionHeld3
namespace Go.Proofs.Ytlaloakegajheaa
section
namespace stepImpl
open Go.RowKit base ints sig term termOk endAt inside marks app sym sub segs segsHelp kinds termFacts matchMath whole takeMath take extended varsOf shape kindsR ruleMath ruleSpec ruleImpl stepMath walkMath stepSpec
set_option maxRecDepth 100000
theorem right_of {sg : List Int} {rs : List Rl} {t : List Int} (h : sysOkB sg rs = true) : rightB sg rs t = termOkB sg t := by unfold rightB; rw [h]; rfl
theorem there_eq {sg : List Int} {rs : List Rl} {t : List Int} {a r : Int} (h : sysOkB sg rs = true) : thereR sg rs t a r = (thereB sg t a && walkMath.inB r rs.length) := by
 unfold thereR thereB walkMath.inB endAt.inB
 rw [right_of h, Bool.and_assoc]
theorem hasRule (a : Value) (V : Option Addr) (q cv : Nat) (r : Int) (w : World) (hq : q ≤ 1048576) :
  Calls Try.prog 104 #[.agg #[a, .slice V q cv], .int .i64 r] w (AnsB w (walkMath.inB r q)) := by
 obtain ⟨W, hW, rA, bel⟩ := box1 w 72 #[a, .slice V q cv]
 have HW := Lib.hid hW
 have R := Lib.hid rA
 have FF := Lib.hid (fun (b : Bool) (h : walkMath.inB r q = b) => (ansB (b := walkMath.inB r q) (a := b) h.symm bel))
 clear hW rA bel
 by_cases h0 : r < 0
 ·have F := Lib.hid (FF.out false (by unfold walkMath.inB; exact decide_eq_false (by omega)))
  go_enter Try.func104, Try.ntmps104
  go_wp2_with fail
  try rw [← HW.out]
  go_wp2
  go_ret
  exact F.out
 ·by_cases h1 : r < (q : Int)
  ·have F := Lib.hid (FF.out true (by unfold walkMath.inB; exact decide_eq_true (by omega)))
   have h0' : (0 : Int) ≤ r := by omega
   have K1 : (w.alloc (.cells #[a, .slice V q cv] 72)).cell? ⟨w.heap.size, 1, none⟩ = some (.slice V q cv) := by rw [← HW.out]; exact R.out.cell 1
   go_enter Try.func104, Try.ntmps104
   go_wp2
   rw [← HW.out]
   go_ret
   exact F.out
  ·have F := Lib.hid (FF.out false (by unfold walkMath.inB; exact decide_eq_false (by omega)))
   have h0' : (0 : Int) ≤ r := by omega
   have K1 : (w.alloc (.cells #[a, .slice V q cv] 72)).cell? ⟨w.heap.size, 1, none⟩ = some (.slice V q cv) := by rw [← HW.out]; exact R.out.cell 1
   go_enter Try.func104, Try.ntmps104
   go_wp2
   rw [← HW.out]
   go_ret
   exact F.out
set_option maxHeartbeats 4000000 in
theorem hasRedex (a v u : Value) (d : Dat sSystem) (t : List Int) (x r : Int) (w : World) (h : Rd w w.heap.size sSystem [a, v] d) (ht : Rd w w.heap.size sI [u] t) (hz : sz sSystem d ≤ 1048576) (hz' : sz sI t ≤ 1048576) (oks : sysOkB d.1 d.2 = true) :
  Calls Try.prog 137 #[.agg #[a, v], u, .int .i64 x, .int .i64 r] w (AnsB w (redexB d.1 d.2 t x r)) := by
 have h0 := h
 have ht0 := ht
 obtain ⟨T, m, c, rfl, hT, hcT⟩ := rd_ints.1 ht
 have hm := len_ints hT.1 hz'
 obtain ⟨A, n, cs, V, q, cv, rfl, rfl, hs, hc, hcv, hq, hn, hq1, hrs, hsg, hE⟩ := rd_sys h hz
 obtain ⟨W, hW, rA, bel⟩ := box1 w 72 #[.slice A n cs, .slice V q cv]
 have HW := Lib.hid hW
 have LP := Lib.hid (placeIn A T n cs m c d.1 t x W (hs.next bel) (hT.next bel) hn hm)
 have HQ := Lib.hid hq
 have LHR := Lib.hid (fun (w1 : World) => hasRule (.slice A n cs) V q cv r w1 hq1)
 have LMA := Lib.hid (fun (w1 : World) (bb : Below w.heap.size w w1) (x k : Nat) hok hx hk => matchAt _ _ _ d t x k w1 (h0.next bb) (ht0.next bb) hz hok hx hk)
 have OKS := Lib.hid oks
 clear hW h h0 ht ht0 hz hz' hs hc hcv hq hrs hsg hE hT hcT oks
 obtain ⟨bp, hbp⟩ : ∃ bp, thereB d.1 t x = bp := ⟨_, rfl⟩
 have HP := Lib.hid hbp
 have HTH := Lib.hid (show thereR d.1 d.2 t x r = (bp && walkMath.inB r d.2.length) by rw [there_eq OKS.out, hbp])
 rw [hbp] at LP
 clear hbp
 cases bp with
 | false =>
  go_enter Try.func137, Try.ntmps137
  go_wp2_with fail
  rw [← HW.out]
  refine LP.out.mono ?_
  rintro e w1 ⟨rfl, bb⟩
  have F := Lib.hid (ansB (b := redexB d.1 d.2 t x r) (a := false) (by rw [redex_no (by rw [HTH.out]; rfl)]) (next_trans bel bb))
  clear bb bel rA LMA
  go_wp2
  go_ret
  exact F.out
 | true =>
  go_enter Try.func137, Try.ntmps137
  go_wp2_with fail
  rw [← HW.out]
  refine LP.out.mono ?_
  rintro e w1 ⟨rfl, bb⟩
  replace rA := rA.next bb
  replace bel := next_trans bel bb
  have K0 : w1.cell? ⟨w.heap.size, 0, none⟩ = some (.slice A n cs) := rA.cell 0
  have K1 : w1.cell? ⟨w.heap.size, 1, none⟩ = some (.slice V q cv) := rA.cell 1
  have LH1 := Lib.hid (LHR.out w1)
  clear bb LP LHR
  obtain ⟨bi, hbi⟩ : ∃ bi, walkMath.inB r q = bi := ⟨_, rfl⟩
  have HBI := Lib.hid hbi
  rw [hbi] at LH1
  clear hbi
  go_wp2_with fail
  refine LH1.out.mono ?_
  rintro e w2 ⟨rfl, bb⟩
  cases bi with
  | false =>
   have F := Lib.hid (ansB (b := redexB d.1 d.2 t x r) (a := false) (by rw [redex_no (by rw [HTH.out, HQ.out, HBI.out]; rfl)]) (next_trans bel bb))
   clear bb bel rA LMA K0 K1 LH1
   go_wp2
   go_ret
   exact F.out
  | true =>
   have hkk : 0 ≤ r ∧ r < (q : Int) := of_decide_eq_true HBI.out
   obtain ⟨k, rfl⟩ := Int.eq_ofNat_of_zero_le hkk.1
   have hkq : k < q := by omega
   have hx := endAt.there_parts HP.out
   obtain ⟨i, rfl⟩ := Int.eq_ofNat_of_zero_le hx.2.1
   have hix : i < t.length := by omega
   have okR : rightB d.1 d.2 t = true := by rw [right_of OKS.out]; exact hx.1
   have hkl : k < d.2.length := by rw [HQ.out]; exact hkq
   have HRE := Lib.hid (show redexB d.1 d.2 t (i : Int) (k : Int) = (mst d.1 t (d.2.getD k ([], [])).1 i s0).isSome by
    rw [redex_yes (by rw [HTH.out]; unfold walkMath.inB; rw [decide_eq_true (by omega)]; rfl), red_at (sys_rule OKS.out hkl) hx.1 hix]
    unfold rl
    rw [Int.toNat_natCast, Int.toNat_natCast])
   replace rA := rA.next bb
   replace bel := next_trans bel bb
   have LM1 := Lib.hid (LMA.out w2 bel i k okR hix hkl)
   clear K0 K1
   have K0 : w2.cell? ⟨w.heap.size, 0, none⟩ = some (.slice A n cs) := rA.cell 0
   have K1 : w2.cell? ⟨w.heap.size, 1, none⟩ = some (.slice V q cv) := rA.cell 1
   clear hx okR LMA HTH hkk hix hkl bb rA LH1
   obtain ⟨R, hR⟩ : ∃ R, mst d.1 t (d.2.getD k ([], [])).1 i s0 = R := ⟨_, rfl⟩
   rw [hR] at LM1 HRE
   clear hR
   go_wp2_with fail
   refine LM1.out.mono ?_
   rintro e w3 ⟨rs, rfl, tab, hsz, bb⟩
   have one := Lib.hid tab.one
   have h24 := Lib.hid tab.1
   obtain ⟨bo, hbo⟩ : ∃ bo, R.isSome = bo := ⟨_, rfl⟩
   rw [hbo]
   have F := Lib.hid (show AnsB w (redexB d.1 d.2 t (i : Int) (k : Int)) (.returned (.bool bo)) (w3.alloc (.cells rs 165)) from ⟨by rw [HRE.out, hbo], (next_trans bel bb).alloc (next_trans bel bb).size _⟩)
   clear tab hsz bb bel K0 K1 hbo LM1 HRE
   go_wp2_with (first
    | (refine rowAlloc rfl 165 rfl z24 zero_b ?_)
    | (refine rowStore rfl 165 _ _ rfl w3.heap.size rs z24 165 rfl rfl (heap_alloc_new w3 _) (by rw [h24.out]; exact size_b) (by rw [h24.out]; rfl) one.out ?_; rw [World.setRow_alloc_new]))
   go_ret
   exact F.out
set_option maxHeartbeats 4000000 in
theorem stepAt (a v u : Value) (d : Dat sSystem) (t : List Int) (x r : Int) (w : World) (h : Rd w w.heap.size sSystem [a, v] d) (ht : Rd w w.heap.size sI [u] t) (hz : sz sSystem d ≤ 1048576) (hz' : sz sI t ≤ 1048576) (oks : sysOkB d.1 d.2 = true) :
  Calls Try.prog 111 #[.agg #[a, v], u, .int .i64 x, .int .i64 r] w (AnsStep w (stepAtO d.1 d.2 t x r)) := by
 obtain ⟨W, hW, rA, bel⟩ := box1 w 72 #[a, v]
 have HW := Lib.hid hW
 have LH := Lib.hid (hasRedex a v u d t x r W (h.next bel) (ht.next bel) hz hz' oks)
 have LR := Lib.hid (fun (w1 : World) (bb : Below w.heap.size w w1) (x k : Nat) hok hx hk hred => reduced a v u d t x k w1 (h.next bb) (ht.next bb) hz hok hx hk hred)
 clear hW h ht hz hz'
 obtain ⟨bp, hbp⟩ : ∃ bp, redexB d.1 d.2 t x r = bp := ⟨_, rfl⟩
 rw [hbp] at LH
 cases bp with
 | false =>
  have HN := Lib.hid (show stepAtO d.1 d.2 t x r = none by
   cases e : stepAtO d.1 d.2 t x r with
   | none => rfl
   | some y => rw [stepAt_redex e] at hbp; cases hbp)
  clear hbp
  go_enter Try.func111, Try.ntmps111
  go_wp2_with fail
  rw [← HW.out]
  refine LH.out.mono ?_
  rintro e w1 ⟨rfl, bb⟩
  have F := Lib.hid (ansStep_nil (o := stepAtO d.1 d.2 t x r) HN.out (next_trans bel bb))
  clear bb bel rA LR
  go_wp2
  go_ret2
  exact F.out
 | true =>
  have hth : thereR d.1 d.2 t x r = true := by
   unfold redexB at hbp
   rw [Bool.and_eq_true] at hbp
   exact hbp.1
  obtain ⟨p1, p2, p3, p4⟩ := walkMath.there_parts hth
  obtain ⟨i, rfl⟩ := Int.eq_ofNat_of_zero_le p3.1
  obtain ⟨k, rfl⟩ := Int.eq_ofNat_of_zero_le p4.1
  rw [redex_yes hth] at hbp
  unfold rl at hbp
  rw [Int.toNat_natCast, Int.toNat_natCast] at hbp
  have LR1 := Lib.hid (fun w1 bb => LR.out w1 bb i k (right_yes p1 p2) (by omega) (by omega) hbp)
  have HE := Lib.hid (show stepAtO d.1 d.2 t (i : Int) (k : Int) = stepO d.1 (d.2.getD k ([], [])) t i by rw [at_yes hth]; unfold rl; rw [Int.toNat_natCast, Int.toNat_natCast])
  clear hth p1 p2 p3 p4 hbp LR oks
  go_enter Try.func111, Try.ntmps111
  go_wp2_with fail
  rw [← HW.out]
  refine LH.out.mono ?_
  rintro e w1 ⟨rfl, bb⟩
  replace rA := rA.next bb
  replace bel := next_trans bel bb
  have K0 : w1.cell? ⟨w.heap.size, 0, none⟩ = some a := rA.cell 0
  have K1 : w1.cell? ⟨w.heap.size, 1, none⟩ = some v := rA.cell 1
  have LR2 := Lib.hid (LR1.out w1 bel)
  clear bb LH LR1 rA
  go_wp2_with fail
  refine LR2.out.mono ?_
  rintro e w2 ⟨X, xn, xc, rfl, oX, bb⟩
  have F : AnsStep w (stepAtO d.1 d.2 t (i : Int) (k : Int)) (.returned (.tuple #[.slice X xn xc, .bool (stepO d.1 (d.2.getD k ([], [])) t i).isSome])) w2 := ⟨X, xn, xc, by rw [HE.out], by rw [HE.out]; exact Own.lower oX bel.size, next_trans bel bb⟩
  have HF := Lib.hid F
  clear F oX bb bel K0 K1 LR2
  generalize (stepO d.1 (d.2.getD k ([], [])) t i).isSome = bz at *
  go_wp2
  go_ret2
  exact HF.out
end stepImpl
end
section
namespace walkImpl
open Go.RowKit base ints sig term termOk endAt endOf marks app sym sub segs segsHelp kinds termFacts same shifted shape kindsR kindsW varsOf ruleMath ruleSpec ruleImpl stepMath walkMath stepSpec stepImpl walkSpec
set_option maxRecDepth 100000
set_option maxHeartbeats 4000000 in
theorem leads (a v u : Value) (U : Option Addr) (un uc : Nat) (d : Dat sSystem) (t y : List Int) (x r : Int) (w : World) (h : Rd w w.heap.size sSystem [a, v] d) (ht : Rd w w.heap.size sI [u] t) (hU : Seg w w.heap.size U un y) (hz : sz sSystem d ≤ 1048576) (hz' : sz sI t ≤ 1048576) (hun : un ≤ 1048576) (oks : sysOkB d.1 d.2 = true) :
  Calls Try.prog 69 #[.agg #[a, v], u, .agg #[.int .i64 x, .int .i64 r, .slice U un uc]] w (AnsB w (decide (stepAtO d.1 d.2 t x r = some y))) := by
 obtain ⟨W, hW, rA, rX, bel⟩ := box2 w 72 97 #[a, v] #[.int .i64 x, .int .i64 r, .slice U un uc]
 have HW := Lib.hid hW
 have LS := Lib.hid (stepAt a v u d t x r W (h.next bel) (ht.next bel) hz hz' oks)
 have HU := Lib.hid (hU.next bel)
 have K0 : ((w.alloc (.cells #[a, v] 72)).alloc (.cells #[.int .i64 x, .int .i64 r, .slice U un uc] 97)).cell? ⟨w.heap.size, 0, none⟩ = some a := by rw [← hW]; exact rA.cell 0
 have K1 : ((w.alloc (.cells #[a, v] 72)).alloc (.cells #[.int .i64 x, .int .i64 r, .slice U un uc] 97)).cell? ⟨w.heap.size, 1, none⟩ = some v := by rw [← hW]; exact rA.cell 1
 clear hW h ht hU hz hz'
 obtain ⟨o, ho⟩ : ∃ o, stepAtO d.1 d.2 t x r = o := ⟨_, rfl⟩
 rw [ho] at LS
 rw [ho]
 have HL := Lib.hid (show ∀ z, o = some z → z.length ≤ 60 from fun z hz => by subst hz; exact step_len (stepAt_parts ho).2)
 clear ho
 go_enter Try.func69, Try.ntmps69
 go_wp2_with fail
 rw [← HW.out]
 refine LS.out.mono ?_
 rintro e w2 ⟨X, xn, xc, rfl, oX, bb⟩
 replace rX := rX.next bb
 have b2 := next_trans bel bb
 have k2 : w2.cell? ⟨w.heap.size + 1, 2, none⟩ = some (.slice U un uc) := rX.cell 2
 cases o with
 | none =>
  have F := Lib.hid (show AnsB w (decide ((none : Option (List Int)) = some y)) (.returned (.bool false)) w2 from ⟨rfl, b2⟩)
  clear oX bb rA rX bel b2 HL HU LS K0 K1 k2
  go_wp2
  go_ret
  exact F.out
 | some z =>
  have oY : Own w2 W.heap.size (.slice X xn xc) z := oX
  have hxn : xn ≤ 1048576 := by have := HL.out z rfl; have := Own.len oY; omega
  have LE := Lib.hid (implSame X U xn un xc uc z y w2 (Own.seg oY) (HU.out.next bb) hxn hun)
  clear oX oY HU bb rX rA bel LS K0 K1 HL
  go_wp2_with fail
  refine LE.out.mono ?_
  rintro e w3 ⟨rfl, dd, rfl⟩
  have F := Lib.hid (show AnsB w (decide (some z = some y)) (.returned (.bool (decide (z = y)))) (w2.drewN dd) from ⟨by congr 2; simp, below_drewN b2 dd⟩)
  clear b2 k2 LE
  generalize decide (z = y) = bz at *
  go_wp2
  go_ret
  exact F.out
end walkImpl
end
section
open List (setIfInBounds_toArray set_cons_zero set_cons_succ getElem_toArray getElem_cons_zero getElem_cons_succ)
namespace peakImpl
open Go.RowKit heldT base ints sig term termOk endAt marks app sym pathSpec wayTo place segs segsHelp kinds termFacts same shape kindsR kindsW kindsP varsOf ruleMath ruleSpec ruleImpl stepMath walkMath stepSpec stepImpl walkSpec walkImpl peakMath peakSame
set_option maxRecDepth 100000
set_option maxHeartbeats 8000000 in
theorem mayOverlap (a v : Value) (d : Dat sSystem) (o x u : Int) (w : World) (h : Rd w w.heap.size sSystem [a, v] d) (hz : sz sSystem d ≤ 1048576) (hl : ∀ k, k < d.2.length → termOkB d.1 (d.2.getD k ([], [])).1 = true) :
  Calls Try.prog 66 #[.agg #[a, v], .int .i64 o, .int .i64 x, .int .i64 u] w (AnsB w (mayB d.2 o x u)) := by
 obtain ⟨A, n, cs, V, q, cv, rfl, rfl, hs, hc, hcv, hq, hn, hq1, hrs, hsg, hE⟩ := rd_sys h hz
 obtain ⟨W, hW, rA, bel⟩ := box1 w 72 #[.slice A n cs, .slice V q cv]
 have HW := Lib.hid hW
 have HQ := Lib.hid hq
 have BEL := Lib.hid bel
 have ZA : w.heap.size < W.heap.size := rA.lt
 have K0 : W.cell? ⟨w.heap.size, 0, none⟩ = some (.slice A n cs) := rA.cell 0
 have K1 : W.cell? ⟨w.heap.size, 1, none⟩ = some (.slice V q cv) := rA.cell 1
 have LH1 := Lib.hid (hasRule (.slice A n cs) V q cv o W.drew hq1)
 have LH2 := Lib.hid (fun (w1 : World) => hasRule (.slice A n cs) V q cv u w1 hq1)
 clear hW rA h hz hc hcv
 obtain ⟨b1, hb1⟩ : ∃ z, walkMath.inB o q = z := ⟨_, rfl⟩
 obtain ⟨b2, hb2⟩ : ∃ z, walkMath.inB u q = z := ⟨_, rfl⟩
 rw [hb1] at LH1
 simp only [hb2] at LH2
 cases b1 with
 | false =>
  have HF := Lib.hid (show mayB d.2 o x u = false from may_no1 (by rw [hq]; exact hb1))
  clear hb1 hb2 hl hs hq hrs hsg hE bel
  go_enter Try.func66, Try.ntmps66
  go_upto_region 1 with fail
  rw [← HW.out]
  refine AnyT.start (S := (fun w' => w'.cell? ⟨w.heap.size, 0, none⟩ = some (.slice A n cs) ∧ w'.cell? ⟨w.heap.size, 1, none⟩ = some (.slice V q cv))) (fun _ => false) (by kernel_rfl) ⟨K0, K1⟩ (fun hHeld => ?_)
  refine AnyT.take (i := 0) (v := ?_) rfl (by kernel_rfl) (by kernel_rfl) (by kernel_rfl) (by kernel_rfl) (fun _ _ _ h => h) (Or.inl ⟨by rfl, ?_⟩) (by assumption) ?_
  rotate_left 1
  ·(intro w0 hSw; (try dsimp only at hSw); go_simp; try with_reducible rfl)
  try simp only [Act.put, setIfInBounds_toArray, set_cons_zero, set_cons_succ, getElem_toArray, getElem_cons_zero, getElem_cons_succ]
  refine AnyT.takeA (i := 1) (v := ?_) rfl (by kernel_rfl) (by kernel_rfl) (by kernel_rfl) (fun _ _ _ h => h) (Or.inl ⟨by rfl, ?_⟩) ?_
  rotate_left 1
  ·(intro w0 _; go_simp; try with_reducible rfl)
  try simp only [Act.put, setIfInBounds_toArray, set_cons_zero, set_cons_succ, getElem_toArray, getElem_cons_zero, getElem_cons_succ]
  refine AnyT.call (i := 2) (by kernel_rfl) rfl (fun K hK => ?_)
  try simp only [Act.put, setIfInBounds_toArray, set_cons_zero, set_cons_succ, getElem_toArray, getElem_cons_zero, getElem_cons_succ]
  rw [if_pos (by rfl)]
  go_simp
  (go_at_call 104; refine LH1.out.mono ?_; rintro e v1 ⟨rfl, b1⟩; have Bv1 : Below W.heap.size W v1 := next_trans (Below.refl W.heap.size W).drew b1; have hv1_0 : v1.cell? ⟨w.heap.size, 0, none⟩ = some (.slice A n cs) := (Bv1.cell (p := ⟨w.heap.size, 0, none⟩) ZA).trans K0; have hv1_1 : v1.cell? ⟨w.heap.size, 1, none⟩ = some (.slice V q cv) := (Bv1.cell (p := ⟨w.heap.size, 1, none⟩) ZA).trans K1; go_wp2_with fail)
  refine hK.out _ _ (fun _ _ => ?_) (fun hKeep => ?_)
  ·exact ⟨hv1_0, hv1_1⟩
  replace hHeld := hKeep (by first | rfl | trivial) hHeld
  clear hK K hKeep
  try simp only [Act.put, setIfInBounds_toArray, set_cons_zero, set_cons_succ, getElem_toArray, getElem_cons_zero, getElem_cons_succ]
  refine AnyT.takeA (i := 3) (v := ?_) rfl (by kernel_rfl) (by kernel_rfl) (by kernel_rfl) (fun _ _ _ h => h) (Or.inl ⟨by rfl, ?_⟩) ?_
  rotate_left 1
  ·(intro w0 _; go_simp; try with_reducible rfl)
  try simp only [Act.put, setIfInBounds_toArray, set_cons_zero, set_cons_succ, getElem_toArray, getElem_cons_zero, getElem_cons_succ]
  refine AnyT.takeA (i := 4) (v := undef) rfl (by kernel_rfl) (by kernel_rfl) (by kernel_rfl) (fun _ _ _ h => h) (Or.inr ⟨by rfl, rfl⟩) ?_
  try simp only [Act.put, setIfInBounds_toArray, set_cons_zero, set_cons_succ, getElem_toArray, getElem_cons_zero, getElem_cons_succ]
  refine AnyT.takeA (i := 5) (v := undef) rfl (by kernel_rfl) (by kernel_rfl) (by kernel_rfl) (fun _ _ _ h => h) (Or.inr ⟨by rfl, rfl⟩) ?_
  try simp only [Act.put, setIfInBounds_toArray, set_cons_zero, set_cons_succ, getElem_toArray, getElem_cons_zero, getElem_cons_succ]
  refine AnyT.call (i := 6) (by kernel_rfl) rfl (fun K hK => ?_)
  try simp only [Act.put, setIfInBounds_toArray, set_cons_zero, set_cons_succ, getElem_toArray, getElem_cons_zero, getElem_cons_succ]
  rw [if_neg (by intro h; cases h)]
  refine hK.out _ _ (fun _ h => h) (fun _ => ?_)
  clear hK K
  try simp only [Act.put, setIfInBounds_toArray, set_cons_zero, set_cons_succ, getElem_toArray, getElem_cons_zero, getElem_cons_succ]
  refine AnyT.takeA (i := 7) (v := ?_) rfl (by kernel_rfl) (by kernel_rfl) (by kernel_rfl) (fun _ _ _ h => h) (Or.inl ⟨by rfl, ?_⟩) ?_
  rotate_left 1
  ·(intro w0 _; go_simp; try with_reducible rfl)
  try simp only [Act.put, setIfInBounds_toArray, set_cons_zero, set_cons_succ, getElem_toArray, getElem_cons_zero, getElem_cons_succ]
  refine AnyT.takeA (i := 8) (v := ?_) rfl (by kernel_rfl) (by kernel_rfl) (by kernel_rfl) (fun _ _ _ h => h) (Or.inl ⟨by rfl, ?_⟩) ?_
  rotate_left 1
  ·(intro w0 _; go_simp; try with_reducible rfl)
  try simp only [Act.put, setIfInBounds_toArray, set_cons_zero, set_cons_succ, getElem_toArray, getElem_cons_zero, getElem_cons_succ]
  refine AnyT.takeA (i := 9) (v := undef) rfl (by kernel_rfl) (by kernel_rfl) (by kernel_rfl) (fun _ _ _ h => h) (Or.inr ⟨by rfl, rfl⟩) ?_
  try simp only [Act.put, setIfInBounds_toArray, set_cons_zero, set_cons_succ, getElem_toArray, getElem_cons_zero, getElem_cons_succ]
  refine AnyT.takeA (i := 10) (v := undef) rfl (by kernel_rfl) (by kernel_rfl) (by kernel_rfl) (fun _ _ _ h => h) (Or.inr ⟨by rfl, rfl⟩) ?_
  try simp only [Act.put, setIfInBounds_toArray, set_cons_zero, set_cons_succ, getElem_toArray, getElem_cons_zero, getElem_cons_succ]
  refine AnyT.takeA (i := 11) (v := undef) rfl (by kernel_rfl) (by kernel_rfl) (by kernel_rfl) (fun _ _ _ h => h) (Or.inr ⟨by rfl, rfl⟩) ?_
  try simp only [Act.put, setIfInBounds_toArray, set_cons_zero, set_cons_succ, getElem_toArray, getElem_cons_zero, getElem_cons_succ]
  refine AnyT.takeA (i := 12) (v := undef) rfl (by kernel_rfl) (by kernel_rfl) (by kernel_rfl) (fun _ _ _ h => h) (Or.inr ⟨by rfl, rfl⟩) ?_
  try simp only [Act.put, setIfInBounds_toArray, set_cons_zero, set_cons_succ, getElem_toArray, getElem_cons_zero, getElem_cons_succ]
  refine AnyT.takeA (i := 13) (v := undef) rfl (by kernel_rfl) (by kernel_rfl) (by kernel_rfl) (fun _ _ _ h => h) (Or.inr ⟨by rfl, rfl⟩) ?_
  try simp only [Act.put, setIfInBounds_toArray, set_cons_zero, set_cons_succ, getElem_toArray, getElem_cons_zero, getElem_cons_succ]
  refine AnyT.takeA (i := 14) (v := undef) rfl (by kernel_rfl) (by kernel_rfl) (by kernel_rfl) (fun _ _ _ h => h) (Or.inr ⟨by rfl, rfl⟩) ?_
  try simp only [Act.put, setIfInBounds_toArray, set_cons_zero, set_cons_succ, getElem_toArray, getElem_cons_zero, getElem_cons_succ]
  refine AnyT.takeA (i := 15) (v := undef) rfl (by kernel_rfl) (by kernel_rfl) (by kernel_rfl) (fun _ _ _ h => h) (Or.inr ⟨by rfl, rfl⟩) ?_
  try simp only [Act.put, setIfInBounds_toArray, set_cons_zero, set_cons_succ, getElem_toArray, getElem_cons_zero, getElem_cons_succ]
  refine AnyT.takeA (i := 16) (v := ?_) rfl (by kernel_rfl) (by kernel_rfl) (by kernel_rfl) (fun _ _ _ h => h) (Or.inl ⟨by rfl, ?_⟩) ?_
  rotate_left 1
  ·(intro w0 _; go_simp; try with_reducible rfl)
  try simp only [Act.put, setIfInBounds_toArray, set_cons_zero, set_cons_succ, getElem_toArray, getElem_cons_zero, getElem_cons_succ]
  refine AnyT.takeA (i := 17) (v := ?_) rfl (by kernel_rfl) (by kernel_rfl) (by kernel_rfl) (fun _ _ _ h => h) (Or.inl ⟨by rfl, ?_⟩) ?_
  rotate_left 1
  ·(intro w0 _; go_simp; try with_reducible rfl)
  try simp only [Act.put, setIfInBounds_toArray, set_cons_zero, set_cons_succ, getElem_toArray, getElem_cons_zero, getElem_cons_succ]
  refine AnyT.takeA (i := 18) (v := undef) rfl (by kernel_rfl) (by kernel_rfl) (by kernel_rfl) (fun _ _ _ h => h) (Or.inr ⟨by rfl, rfl⟩) ?_
  try simp only [Act.put, setIfInBounds_toArray, set_cons_zero, set_cons_succ, getElem_toArray, getElem_cons_zero, getElem_cons_succ]
  refine AnyT.takeA (i := 19) (v := undef) rfl (by kernel_rfl) (by kernel_rfl) (by kernel_rfl) (fun _ _ _ h => h) (Or.inr ⟨by rfl, rfl⟩) ?_
  try simp only [Act.put, setIfInBounds_toArray, set_cons_zero, set_cons_succ, getElem_toArray, getElem_cons_zero, getElem_cons_succ]
  refine AnyT.takeA (i := 20) (v := undef) rfl (by kernel_rfl) (by kernel_rfl) (by kernel_rfl) (fun _ _ _ h => h) (Or.inr ⟨by rfl, rfl⟩) ?_
  try simp only [Act.put, setIfInBounds_toArray, set_cons_zero, set_cons_succ, getElem_toArray, getElem_cons_zero, getElem_cons_succ]
  refine AnyT.takeA (i := 21) (v := undef) rfl (by kernel_rfl) (by kernel_rfl) (by kernel_rfl) (fun _ _ _ h => h) (Or.inr ⟨by rfl, rfl⟩) ?_
  try simp only [Act.put, setIfInBounds_toArray, set_cons_zero, set_cons_succ, getElem_toArray, getElem_cons_zero, getElem_cons_succ]
  refine AnyT.takeA (i := 22) (v := undef) rfl (by kernel_rfl) (by kernel_rfl) (by kernel_rfl) (fun _ _ _ h => h) (Or.inr ⟨by rfl, rfl⟩) ?_
  try simp only [Act.put, setIfInBounds_toArray, set_cons_zero, set_cons_succ, getElem_toArray, getElem_cons_zero, getElem_cons_succ]
  refine AnyT.takeA (i := 23) (v := undef) rfl (by kernel_rfl) (by kernel_rfl) (by kernel_rfl) (fun _ _ _ h => h) (Or.inr ⟨by rfl, rfl⟩) ?_
  try simp only [Act.put, setIfInBounds_toArray, set_cons_zero, set_cons_succ, getElem_toArray, getElem_cons_zero, getElem_cons_succ]
  refine AnyT.takeA (i := 24) (v := undef) rfl (by kernel_rfl) (by kernel_rfl) (by kernel_rfl) (fun _ _ _ h => h) (Or.inr ⟨by rfl, rfl⟩) ?_
  try simp only [Act.put, setIfInBounds_toArray, set_cons_zero, set_cons_succ, getElem_toArray, getElem_cons_zero, getElem_cons_succ]
  refine AnyT.takeA (i := 25) (v := undef) rfl (by kernel_rfl) (by kernel_rfl) (by kernel_rfl) (fun _ _ _ h => h) (Or.inr ⟨by rfl, rfl⟩) ?_
  try simp only [Act.put, setIfInBounds_toArray, set_cons_zero, set_cons_succ, getElem_toArray, getElem_cons_zero, getElem_cons_succ]
  refine AnyT.takeA (i := 27) (v := undef) rfl (by kernel_rfl) (by kernel_rfl) (by kernel_rfl) (fun _ _ _ h => h) (Or.inr ⟨by rfl, rfl⟩) ?_
  try simp only [Act.put, setIfInBounds_toArray, set_cons_zero, set_cons_succ, getElem_toArray, getElem_cons_zero, getElem_cons_succ]
  refine AnyT.call (i := 26) (by kernel_rfl) rfl (fun K hK => ?_)
  try simp only [Act.put, setIfInBounds_toArray, set_cons_zero, set_cons_succ, getElem_toArray, getElem_cons_zero, getElem_cons_succ]
  rw [if_neg (by intro h; cases h)]
  refine hK.out _ _ (fun _ h => h) (fun _ => ?_)
  clear hK K
  try simp only [Act.put, setIfInBounds_toArray, set_cons_zero, set_cons_succ, getElem_toArray, getElem_cons_zero, getElem_cons_succ]
  refine AnyT.call (i := 28) (by kernel_rfl) rfl (fun K hK => ?_)
  try simp only [Act.put, setIfInBounds_toArray, set_cons_zero, set_cons_succ, getElem_toArray, getElem_cons_zero, getElem_cons_succ]
  rw [if_neg (by intro h; cases h)]
  refine hK.out _ _ (fun _ h => h) (fun _ => ?_)
  clear hK K
  try simp only [Act.put, setIfInBounds_toArray, set_cons_zero, set_cons_succ, getElem_toArray, getElem_cons_zero, getElem_cons_succ]
  refine AnyT.takeA (i := 29) (v := ?_) rfl (by kernel_rfl) (by kernel_rfl) (by kernel_rfl) (fun _ _ _ h => h) (Or.inl ⟨by rfl, ?_⟩) ?_
  rotate_left 1
  ·(intro w0 _; go_simp; try with_reducible rfl)
  try simp only [Act.put, setIfInBounds_toArray, set_cons_zero, set_cons_succ, getElem_toArray, getElem_cons_zero, getElem_cons_succ]
  refine AnyT.takeA (i := 30) (v := ?_) rfl (by kernel_rfl) (by kernel_rfl) (by kernel_rfl) (fun _ _ _ h => h) (Or.inl ⟨by rfl, ?_⟩) ?_
  rotate_left 1
  ·(intro w0 _; go_simp; try with_reducible rfl)
  try simp only [Act.put, setIfInBounds_toArray, set_cons_zero, set_cons_succ, getElem_toArray, getElem_cons_zero, getElem_cons_succ]
  refine AnyT.done (by kernel_rfl) ?_ _
  have F := Lib.hid (ansB (b := mayB d.2 o x u) (a := false) HF.out.symm (next_trans BEL.out Bv1))
  clear b1 Bv1 LH1 LH2
  go_wp2
  go_ret
  exact F.out
 | true =>
  cases b2 with
  | false =>
   have HF := Lib.hid (show mayB d.2 o x u = false from may_no2 (by rw [hq]; exact hb2))
   clear hb1 hb2 hl hs hq hrs hsg hE bel
   go_enter Try.func66, Try.ntmps66
   go_upto_region 1 with fail
   rw [← HW.out]
   refine AnyT.start (S := (fun w' => w'.cell? ⟨w.heap.size, 0, none⟩ = some (.slice A n cs) ∧ w'.cell? ⟨w.heap.size, 1, none⟩ = some (.slice V q cv))) (fun _ => false) (by kernel_rfl) ⟨K0, K1⟩ (fun hHeld => ?_)
   refine AnyT.take (i := 0) (v := ?_) rfl (by kernel_rfl) (by kernel_rfl) (by kernel_rfl) (by kernel_rfl) (fun _ _ _ h => h) (Or.inl ⟨by rfl, ?_⟩) (by assumption) ?_
   rotate_left 1
   ·(intro w0 hSw; (try dsimp only at hSw); go_simp; try with_reducible rfl)
   try simp only [Act.put, setIfInBounds_toArray, set_cons_zero, set_cons_succ, getElem_toArray, getElem_cons_zero, getElem_cons_succ]
   refine AnyT.takeA (i := 1) (v := ?_) rfl (by kernel_rfl) (by kernel_rfl) (by kernel_rfl) (fun _ _ _ h => h) (Or.inl ⟨by rfl, ?_⟩) ?_
   rotate_left 1
   ·(intro w0 _; go_simp; try with_reducible rfl)
   try simp only [Act.put, setIfInBounds_toArray, set_cons_zero, set_cons_succ, getElem_toArray, getElem_cons_zero, getElem_cons_succ]
   refine AnyT.call (i := 2) (by kernel_rfl) rfl (fun K hK => ?_)
   try simp only [Act.put, setIfInBounds_toArray, set_cons_zero, set_cons_succ, getElem_toArray, getElem_cons_zero, getElem_cons_succ]
   rw [if_pos (by rfl)]
   go_simp
   (go_at_call 104; refine LH1.out.mono ?_; rintro e v1 ⟨rfl, b1⟩; have Bv1 : Below W.heap.size W v1 := next_trans (Below.refl W.heap.size W).drew b1; have hv1_0 : v1.cell? ⟨w.heap.size, 0, none⟩ = some (.slice A n cs) := (Bv1.cell (p := ⟨w.heap.size, 0, none⟩) ZA).trans K0; have hv1_1 : v1.cell? ⟨w.heap.size, 1, none⟩ = some (.slice V q cv) := (Bv1.cell (p := ⟨w.heap.size, 1, none⟩) ZA).trans K1; go_wp2_with fail)
   refine hK.out _ _ (fun _ _ => ?_) (fun hKeep => ?_)
   ·exact ⟨hv1_0, hv1_1⟩
   replace hHeld := hKeep (by first | rfl | trivial) hHeld
   clear hK K hKeep
   try simp only [Act.put, setIfInBounds_toArray, set_cons_zero, set_cons_succ, getElem_toArray, getElem_cons_zero, getElem_cons_succ]
   refine AnyT.takeA (i := 3) (v := ?_) rfl (by kernel_rfl) (by kernel_rfl) (by kernel_rfl) (fun _ _ _ h => h) (Or.inl ⟨by rfl, ?_⟩) ?_
   rotate_left 1
   ·(intro w0 _; go_simp; try with_reducible rfl)
   try simp only [Act.put, setIfInBounds_toArray, set_cons_zero, set_cons_succ, getElem_toArray, getElem_cons_zero, getElem_cons_succ]
   refine AnyT.take (i := 4) (v := ?_) rfl (by kernel_rfl) (by kernel_rfl) (by kernel_rfl) (by kernel_rfl) (fun _ _ _ h => h) (Or.inl ⟨by rfl, ?_⟩) (by assumption) ?_
   rotate_left 1
   ·(intro w0 hSw; (try dsimp only at hSw); go_simp; try with_reducible rfl)
   try simp only [Act.put, setIfInBounds_toArray, set_cons_zero, set_cons_succ, getElem_toArray, getElem_cons_zero, getElem_cons_succ]
   refine AnyT.takeA (i := 5) (v := ?_) rfl (by kernel_rfl) (by kernel_rfl) (by kernel_rfl) (fun _ _ _ h => h) (Or.inl ⟨by rfl, ?_⟩) ?_
   rotate_left 1
   ·(intro w0 _; go_simp; try with_reducible rfl)
   try simp only [Act.put, setIfInBounds_toArray, set_cons_zero, set_cons_succ, getElem_toArray, getElem_cons_zero, getElem_cons_succ]
   refine AnyT.call (i := 6) (by kernel_rfl) rfl (fun K hK => ?_)
   try simp only [Act.put, setIfInBounds_toArray, set_cons_zero, set_cons_succ, getElem_toArray, getElem_cons_zero, getElem_cons_succ]
   rw [if_pos (by rfl)]
   go_simp
   (go_at_call 104; refine (LH2.out v1).mono ?_; rintro e v2 ⟨rfl, b2⟩; have Bv2 : Below W.heap.size W v2 := next_trans Bv1 b2; have hv2_0 : v2.cell? ⟨w.heap.size, 0, none⟩ = some (.slice A n cs) := (Bv2.cell (p := ⟨w.heap.size, 0, none⟩) ZA).trans K0; have hv2_1 : v2.cell? ⟨w.heap.size, 1, none⟩ = some (.slice V q cv) := (Bv2.cell (p := ⟨w.heap.size, 1, none⟩) ZA).trans K1; go_wp2_with fail)
   refine hK.out _ _ (fun _ _ => ?_) (fun hKeep => ?_)
   ·exact ⟨hv2_0, hv2_1⟩
   replace hHeld := hKeep (by first | rfl | trivial) hHeld
   clear hK K hKeep
   try simp only [Act.put, setIfInBounds_toArray, set_cons_zero, set_cons_succ, getElem_toArray, getElem_cons_zero, getElem_cons_succ]
   refine AnyT.takeA (i := 7) (v := ?_) rfl (by kernel_rfl) (by kernel_rfl) (by kernel_rfl) (fun _ _ _ h => h) (Or.inl ⟨by rfl, ?_⟩) ?_
   rotate_left 1
   ·(intro w0 _; go_simp; try with_reducible rfl)
   try simp only [Act.put, setIfInBounds_toArray, set_cons_zero, set_cons_succ, getElem_toArray, getElem_cons_zero, getElem_cons_succ]
   refine AnyT.takeA (i := 8) (v := ?_) rfl (by kernel_rfl) (by kernel_rfl) (by kernel_rfl) (fun _ _ _ h => h) (Or.inl ⟨by rfl, ?_⟩) ?_
   rotate_left 1
   ·(intro w0 _; go_simp; try with_reducible rfl)
   try simp only [Act.put, setIfInBounds_toArray, set_cons_zero, set_cons_succ, getElem_toArray, getElem_cons_zero, getElem_cons_succ]
   refine AnyT.takeA (i := 9) (v := undef) rfl (by kernel_rfl) (by kernel_rfl) (by kernel_rfl) (fun _ _ _ h => h) (Or.inr ⟨by rfl, rfl⟩) ?_
   try simp only [Act.put, setIfInBounds_toArray, set_cons_zero, set_cons_succ, getElem_toArray, getElem_cons_zero, getElem_cons_succ]
   refine AnyT.takeA (i := 10) (v := undef) rfl (by kernel_rfl) (by kernel_rfl) (by kernel_rfl) (fun _ _ _ h => h) (Or.inr ⟨by rfl, rfl⟩) ?_
   try simp only [Act.put, setIfInBounds_toArray, set_cons_zero, set_cons_succ, getElem_toArray, getElem_cons_zero, getElem_cons_succ]
   refine AnyT.takeA (i := 11) (v := undef) rfl (by kernel_rfl) (by kernel_rfl) (by kernel_rfl) (fun _ _ _ h => h) (Or.inr ⟨by rfl, rfl⟩) ?_
   try simp only [Act.put, setIfInBounds_toArray, set_cons_zero, set_cons_succ, getElem_toArray, getElem_cons_zero, getElem_cons_succ]
   refine AnyT.takeA (i := 12) (v := undef) rfl (by kernel_rfl) (by kernel_rfl) (by kernel_rfl) (fun _ _ _ h => h) (Or.inr ⟨by rfl, rfl⟩) ?_
   try simp only [Act.put, setIfInBounds_toArray, set_cons_zero, set_cons_succ, getElem_toArray, getElem_cons_zero, getElem_cons_succ]
   refine AnyT.takeA (i := 13) (v := undef) rfl (by kernel_rfl) (by kernel_rfl) (by kernel_rfl) (fun _ _ _ h => h) (Or.inr ⟨by rfl, rfl⟩) ?_
   try simp only [Act.put, setIfInBounds_toArray, set_cons_zero, set_cons_succ, getElem_toArray, getElem_cons_zero, getElem_cons_succ]
   refine AnyT.takeA (i := 14) (v := undef) rfl (by kernel_rfl) (by kernel_rfl) (by kernel_rfl) (fun _ _ _ h => h) (Or.inr ⟨by rfl, rfl⟩) ?_
   try simp only [Act.put, setIfInBounds_toArray, set_cons_zero, set_cons_succ, getElem_toArray, getElem_cons_zero, getElem_cons_succ]
   refine AnyT.takeA (i := 15) (v := undef) rfl (by kernel_rfl) (by kernel_rfl) (by kernel_rfl) (fun _ _ _ h => h) (Or.inr ⟨by rfl, rfl⟩) ?_
   try simp only [Act.put, setIfInBounds_toArray, set_cons_zero, set_cons_succ, getElem_toArray, getElem_cons_zero, getElem_cons_succ]
   refine AnyT.takeA (i := 16) (v := ?_) rfl (by kernel_rfl) (by kernel_rfl) (by kernel_rfl) (fun _ _ _ h => h) (Or.inl ⟨by rfl, ?_⟩) ?_
   rotate_left 1
   ·(intro w0 _; go_simp; try with_reducible rfl)
   try simp only [Act.put, setIfInBounds_toArray, set_cons_zero, set_cons_succ, getElem_toArray, getElem_cons_zero, getElem_cons_succ]
   refine AnyT.takeA (i := 17) (v := ?_) rfl (by kernel_rfl) (by kernel_rfl) (by kernel_rfl) (fun _ _ _ h => h) (Or.inl ⟨by rfl, ?_⟩) ?_
   rotate_left 1
   ·(intro w0 _; go_simp; try with_reducible rfl)
   try simp only [Act.put, setIfInBounds_toArray, set_cons_zero, set_cons_succ, getElem_toArray, getElem_cons_zero, getElem_cons_succ]
   refine AnyT.takeA (i := 18) (v := undef) rfl (by kernel_rfl) (by kernel_rfl) (by kernel_rfl) (fun _ _ _ h => h) (Or.inr ⟨by rfl, rfl⟩) ?_
   try simp only [Act.put, setIfInBounds_toArray, set_cons_zero, set_cons_succ, getElem_toArray, getElem_cons_zero, getElem_cons_succ]
   refine AnyT.takeA (i := 19) (v := undef) rfl (by kernel_rfl) (by kernel_rfl) (by kernel_rfl) (fun _ _ _ h => h) (Or.inr ⟨by rfl, rfl⟩) ?_
   try simp only [Act.put, setIfInBounds_toArray, set_cons_zero, set_cons_succ, getElem_toArray, getElem_cons_zero, getElem_cons_succ]
   refine AnyT.takeA (i := 20) (v := undef) rfl (by kernel_rfl) (by kernel_rfl) (by kernel_rfl) (fun _ _ _ h => h) (Or.inr ⟨by rfl, rfl⟩) ?_
   try simp only [Act.put, setIfInBounds_toArray, set_cons_zero, set_cons_succ, getElem_toArray, getElem_cons_zero, getElem_cons_succ]
   refine AnyT.takeA (i := 21) (v := undef) rfl (by kernel_rfl) (by kernel_rfl) (by kernel_rfl) (fun _ _ _ h => h) (Or.inr ⟨by rfl, rfl⟩) ?_
   try simp only [Act.put, setIfInBounds_toArray, set_cons_zero, set_cons_succ, getElem_toArray, getElem_cons_zero, getElem_cons_succ]
   refine AnyT.takeA (i := 22) (v := undef) rfl (by kernel_rfl) (by kernel_rfl) (by kernel_rfl) (fun _ _ _ h => h) (Or.inr ⟨by rfl, rfl⟩) ?_
   try simp only [Act.put, setIfInBounds_toArray, set_cons_zero, set_cons_succ, getElem_toArray, getElem_cons_zero, getElem_cons_succ]
   refine AnyT.takeA (i := 23) (v := undef) rfl (by kernel_rfl) (by kernel_rfl) (by kernel_rfl) (fun _ _ _ h => h) (Or.inr ⟨by rfl, rfl⟩) ?_
   try simp only [Act.put, setIfInBounds_toArray, set_cons_zero, set_cons_succ, getElem_toArray, getElem_cons_zero, getElem_cons_succ]
   refine AnyT.takeA (i := 24) (v := undef) rfl (by kernel_rfl) (by kernel_rfl) (by kernel_rfl) (fun _ _ _ h => h) (Or.inr ⟨by rfl, rfl⟩) ?_
   try simp only [Act.put, setIfInBounds_toArray, set_cons_zero, set_cons_succ, getElem_toArray, getElem_cons_zero, getElem_cons_succ]
   refine AnyT.takeA (i := 25) (v := undef) rfl (by kernel_rfl) (by kernel_rfl) (by kernel_rfl) (fun _ _ _ h => h) (Or.inr ⟨by rfl, rfl⟩) ?_
   try simp only [Act.put, setIfInBounds_toArray, set_cons_zero, set_cons_succ, getElem_toArray, getElem_cons_zero, getElem_cons_succ]
   refine AnyT.takeA (i := 27) (v := undef) rfl (by kernel_rfl) (by kernel_rfl) (by kernel_rfl) (fun _ _ _ h => h) (Or.inr ⟨by rfl, rfl⟩) ?_
   try simp only [Act.put, setIfInBounds_toArray, set_cons_zero, set_cons_succ, getElem_toArray, getElem_cons_zero, getElem_cons_succ]
   refine AnyT.call (i := 26) (by kernel_rfl) rfl (fun K hK => ?_)
   try simp only [Act.put, setIfInBounds_toArray, set_cons_zero, set_cons_succ, getElem_toArray, getElem_cons_zero, getElem_cons_succ]
   rw [if_neg (by intro h; cases h)]
   refine hK.out _ _ (fun _ h => h) (fun _ => ?_)
   clear hK K
   try simp only [Act.put, setIfInBounds_toArray, set_cons_zero, set_cons_succ, getElem_toArray, getElem_cons_zero, getElem_cons_succ]
   refine AnyT.call (i := 28) (by kernel_rfl) rfl (fun K hK => ?_)
   try simp only [Act.put, setIfInBounds_toArray, set_cons_zero, set_cons_succ, getElem_toArray, getElem_cons_zero, getElem_cons_succ]
   rw [if_neg (by intro h; cases h)]
   refine hK.out _ _ (fun _ h => h) (fun _ => ?_)
   clear hK K
   try simp only [Act.put, setIfInBounds_toArray, set_cons_zero, set_cons_succ, getElem_toArray, getElem_cons_zero, getElem_cons_succ]
   refine AnyT.takeA (i := 29) (v := ?_) rfl (by kernel_rfl) (by kernel_rfl) (by kernel_rfl) (fun _ _ _ h => h) (Or.inl ⟨by rfl, ?_⟩) ?_
   rotate_left 1
   ·(intro w0 _; go_simp; try with_reducible rfl)
   try simp only [Act.put, setIfInBounds_toArray, set_cons_zero, set_cons_succ, getElem_toArray, getElem_cons_zero, getElem_cons_succ]
   refine AnyT.takeA (i := 30) (v := ?_) rfl (by kernel_rfl) (by kernel_rfl) (by kernel_rfl) (fun _ _ _ h => h) (Or.inl ⟨by rfl, ?_⟩) ?_
   rotate_left 1
   ·(intro w0 _; go_simp; try with_reducible rfl)
   try simp only [Act.put, setIfInBounds_toArray, set_cons_zero, set_cons_succ, getElem_toArray, getElem_cons_zero, getElem_cons_succ]
   refine AnyT.done (by kernel_rfl) ?_ _
   have F := Lib.hid (ansB (b := mayB d.2 o x u) (a := false) HF.out.symm (next_trans BEL.out Bv2))
   clear b1 Bv1 b2 Bv2 LH1 LH2
   go_wp2
   go_ret
   exact F.out
  | true =>
   by_cases hax : x = 0 ∧ o = u
   ·obtain ⟨rfl, rfl⟩ := hax
    have HF := Lib.hid (show mayB d.2 o 0 o = false from may_no4 ⟨rfl, rfl⟩)
    clear hb1 hb2 hl hs hq hrs hsg hE bel
    go_enter Try.func66, Try.ntmps66
    go_upto_region 1 with fail
    rw [← HW.out]
    refine AnyT.start (S := (fun w' => w'.cell? ⟨w.heap.size, 0, none⟩ = some (.slice A n cs) ∧ w'.cell? ⟨w.heap.size, 1, none⟩ = some (.slice V q cv))) (fun _ => false) (by kernel_rfl) ⟨K0, K1⟩ (fun hHeld => ?_)
    refine AnyT.take (i := 0) (v := ?_) rfl (by kernel_rfl) (by kernel_rfl) (by kernel_rfl) (by kernel_rfl) (fun _ _ _ h => h) (Or.inl ⟨by rfl, ?_⟩) (by assumption) ?_
    rotate_left 1
    ·(intro w0 hSw; (try dsimp only at hSw); go_simp; try with_reducible rfl)
    try simp only [Act.put, setIfInBounds_toArray, set_cons_zero, set_cons_succ, getElem_toArray, getElem_cons_zero, getElem_cons_succ]
    refine AnyT.takeA (i := 1) (v := ?_) rfl (by kernel_rfl) (by kernel_rfl) (by kernel_rfl) (fun _ _ _ h => h) (Or.inl ⟨by rfl, ?_⟩) ?_
    rotate_left 1
    ·(intro w0 _; go_simp; try with_reducible rfl)
    try simp only [Act.put, setIfInBounds_toArray, set_cons_zero, set_cons_succ, getElem_toArray, getElem_cons_zero, getElem_cons_succ]
    refine AnyT.call (i := 2) (by kernel_rfl) rfl (fun K hK => ?_)
    try simp only [Act.put, setIfInBounds_toArray, set_cons_zero, set_cons_succ, getElem_toArray, getElem_cons_zero, getElem_cons_succ]
    rw [if_pos (by rfl)]
    go_simp
    (go_at_call 104; refine LH1.out.mono ?_; rintro e v1 ⟨rfl, b1⟩; have Bv1 : Below W.heap.size W v1 := next_trans (Below.refl W.heap.size W).drew b1; have hv1_0 : v1.cell? ⟨w.heap.size, 0, none⟩ = some (.slice A n cs) := (Bv1.cell (p := ⟨w.heap.size, 0, none⟩) ZA).trans K0; have hv1_1 : v1.cell? ⟨w.heap.size, 1, none⟩ = some (.slice V q cv) := (Bv1.cell (p := ⟨w.heap.size, 1, none⟩) ZA).trans K1; go_wp2_with fail)
    refine hK.out _ _ (fun _ _ => ?_) (fun hKeep => ?_)
    ·exact ⟨hv1_0, hv1_1⟩
    replace hHeld := hKeep (by first | rfl | trivial) hHeld
    clear hK K hKeep
    try simp only [Act.put, setIfInBounds_toArray, set_cons_zero, set_cons_succ, getElem_toArray, getElem_cons_zero, getElem_cons_succ]
    refine AnyT.takeA (i := 3) (v := ?_) rfl (by kernel_rfl) (by kernel_rfl) (by kernel_rfl) (fun _ _ _ h => h) (Or.inl ⟨by rfl, ?_⟩) ?_
    rotate_left 1
    ·(intro w0 _; go_simp; try with_reducible rfl)
    try simp only [Act.put, setIfInBounds_toArray, set_cons_zero, set_cons_succ, getElem_toArray, getElem_cons_zero, getElem_cons_succ]
    refine AnyT.take (i := 4) (v := ?_) rfl (by kernel_rfl) (by kernel_rfl) (by kernel_rfl) (by kernel_rfl) (fun _ _ _ h => h) (Or.inl ⟨by rfl, ?_⟩) (by assumption) ?_
    rotate_left 1
    ·(intro w0 hSw; (try dsimp only at hSw); go_simp; try with_reducible rfl)
    try simp only [Act.put, setIfInBounds_toArray, set_cons_zero, set_cons_succ, getElem_toArray, getElem_cons_zero, getElem_cons_succ]
    refine AnyT.takeA (i := 5) (v := ?_) rfl (by kernel_rfl) (by kernel_rfl) (by kernel_rfl) (fun _ _ _ h => h) (Or.inl ⟨by rfl, ?_⟩) ?_
    rotate_left 1
    ·(intro w0 _; go_simp; try with_reducible rfl)
    try simp only [Act.put, setIfInBounds_toArray, set_cons_zero, set_cons_succ, getElem_toArray, getElem_cons_zero, getElem_cons_succ]
    refine AnyT.call (i := 6) (by kernel_rfl) rfl (fun K hK => ?_)
    try simp only [Act.put, setIfInBounds_toArray, set_cons_zero, set_cons_succ, getElem_toArray, getElem_cons_zero, getElem_cons_succ]
    rw [if_pos (by rfl)]
    go_simp
    (go_at_call 104; refine (LH2.out v1).mono ?_; rintro e v2 ⟨rfl, b2⟩; have Bv2 : Below W.heap.size W v2 := next_trans Bv1 b2; have hv2_0 : v2.cell? ⟨w.heap.size, 0, none⟩ = some (.slice A n cs) := (Bv2.cell (p := ⟨w.heap.size, 0, none⟩) ZA).trans K0; have hv2_1 : v2.cell? ⟨w.heap.size, 1, none⟩ = some (.slice V q cv) := (Bv2.cell (p := ⟨w.heap.size, 1, none⟩) ZA).trans K1; go_wp2_with fail)
    refine hK.out _ _ (fun _ _ => ?_) (fun hKeep => ?_)
    ·exact ⟨hv2_0, hv2_1⟩
    replace hHeld := hKeep (by first | rfl | trivial) hHeld
    clear hK K hKeep
    try simp only [Act.put, setIfInBounds_toArray, set_cons_zero, set_cons_succ, getElem_toArray, getElem_cons_zero, getElem_cons_succ]
    refine AnyT.takeA (i := 7) (v := ?_) rfl (by kernel_rfl) (by kernel_rfl) (by kernel_rfl) (fun _ _ _ h => h) (Or.inl ⟨by rfl, ?_⟩) ?_
    rotate_left 1
    ·(intro w0 _; go_simp; try with_reducible rfl)
    try simp only [Act.put, setIfInBounds_toArray, set_cons_zero, set_cons_succ, getElem_toArray, getElem_cons_zero, getElem_cons_succ]
    refine AnyT.takeA (i := 8) (v := ?_) rfl (by kernel_rfl) (by kernel_rfl) (by kernel_rfl) (fun _ _ _ h => h) (Or.inl ⟨by rfl, ?_⟩) ?_
    rotate_left 1
    ·(intro w0 _; go_simp; try with_reducible rfl)
    try simp only [Act.put, setIfInBounds_toArray, set_cons_zero, set_cons_succ, getElem_toArray, getElem_cons_zero, getElem_cons_succ]
    refine AnyT.takeA (i := 9) (v := ?_) rfl (by kernel_rfl) (by kernel_rfl) (by kernel_rfl) (fun _ _ _ h => h) (Or.inl ⟨by rfl, ?_⟩) ?_
    rotate_left 1
    ·(intro w0 _; go_simp; try with_reducible rfl)
    try simp only [Act.put, setIfInBounds_toArray, set_cons_zero, set_cons_succ, getElem_toArray, getElem_cons_zero, getElem_cons_succ]
    refine AnyT.takeA (i := 10) (v := ?_) rfl (by kernel_rfl) (by kernel_rfl) (by kernel_rfl) (fun _ _ _ h => h) (Or.inl ⟨by rfl, ?_⟩) ?_
    rotate_left 1
    ·(intro w0 _; go_simp; try with_reducible rfl)
    try simp only [Act.put, setIfInBounds_toArray, set_cons_zero, set_cons_succ, getElem_toArray, getElem_cons_zero, getElem_cons_succ]
    refine AnyT.takeA (i := 11) (v := ?_) rfl (by kernel_rfl) (by kernel_rfl) (by kernel_rfl) (fun _ _ _ h => h) (Or.inl ⟨by rfl, ?_⟩) ?_
    rotate_left 1
    ·(intro w0 _; go_simp; try with_reducible rfl)
    try simp only [Act.put, setIfInBounds_toArray, set_cons_zero, set_cons_succ, getElem_toArray, getElem_cons_zero, getElem_cons_succ]
    refine AnyT.takeA (i := 12) (v := ?_) rfl (by kernel_rfl) (by kernel_rfl) (by kernel_rfl) (fun _ _ _ h => h) (Or.inl ⟨by rfl, ?_⟩) ?_
    rotate_left 1
    ·(intro w0 _; go_simp; try with_reducible rfl)
    try simp only [Act.put, setIfInBounds_toArray, set_cons_zero, set_cons_succ, getElem_toArray, getElem_cons_zero, getElem_cons_succ]
    refine AnyT.takeA (i := 13) (v := ?_) rfl (by kernel_rfl) (by kernel_rfl) (by kernel_rfl) (fun _ _ _ h => h) (Or.inl ⟨by rfl, ?_⟩) ?_
    rotate_left 1
    ·(intro w0 _; go_simp; try with_reducible rfl)
    try simp only [Act.put, setIfInBounds_toArray, set_cons_zero, set_cons_succ, getElem_toArray, getElem_cons_zero, getElem_cons_succ]
    refine AnyT.takeA (i := 14) (v := ?_) rfl (by kernel_rfl) (by kernel_rfl) (by kernel_rfl) (fun _ _ _ h => h) (Or.inl ⟨by rfl, ?_⟩) ?_
    rotate_left 1
    ·(intro w0 _; go_simp; try with_reducible rfl)
    try simp only [Act.put, setIfInBounds_toArray, set_cons_zero, set_cons_succ, getElem_toArray, getElem_cons_zero, getElem_cons_succ]
    refine AnyT.takeA (i := 15) (v := ?_) rfl (by kernel_rfl) (by kernel_rfl) (by kernel_rfl) (fun _ _ _ h => h) (Or.inl ⟨by rfl, ?_⟩) ?_
    rotate_left 1
    ·(intro w0 _; go_simp; try with_reducible rfl)
    try simp only [Act.put, setIfInBounds_toArray, set_cons_zero, set_cons_succ, getElem_toArray, getElem_cons_zero, getElem_cons_succ]
    refine AnyT.takeA (i := 16) (v := ?_) rfl (by kernel_rfl) (by kernel_rfl) (by kernel_rfl) (fun _ _ _ h => h) (Or.inl ⟨by rfl, ?_⟩) ?_
    rotate_left 1
    ·(intro w0 _; go_simp; try with_reducible rfl)
    try simp only [Act.put, setIfInBounds_toArray, set_cons_zero, set_cons_succ, getElem_toArray, getElem_cons_zero, getElem_cons_succ]
    refine AnyT.takeA (i := 17) (v := ?_) rfl (by kernel_rfl) (by kernel_rfl) (by kernel_rfl) (fun _ _ _ h => h) (Or.inl ⟨by rfl, ?_⟩) ?_
    rotate_left 1
    ·(intro w0 _; go_simp; try with_reducible rfl)
    try simp only [Act.put, setIfInBounds_toArray, set_cons_zero, set_cons_succ, getElem_toArray, getElem_cons_zero, getElem_cons_succ]
    refine AnyT.takeA (i := 18) (v := undef) rfl (by kernel_rfl) (by kernel_rfl) (by kernel_rfl) (fun _ _ _ h => h) (Or.inr ⟨by rfl, rfl⟩) ?_
    try simp only [Act.put, setIfInBounds_toArray, set_cons_zero, set_cons_succ, getElem_toArray, getElem_cons_zero, getElem_cons_succ]
    refine AnyT.takeA (i := 19) (v := undef) rfl (by kernel_rfl) (by kernel_rfl) (by kernel_rfl) (fun _ _ _ h => h) (Or.inr ⟨by rfl, rfl⟩) ?_
    try simp only [Act.put, setIfInBounds_toArray, set_cons_zero, set_cons_succ, getElem_toArray, getElem_cons_zero, getElem_cons_succ]
    refine AnyT.takeA (i := 20) (v := undef) rfl (by kernel_rfl) (by kernel_rfl) (by kernel_rfl) (fun _ _ _ h => h) (Or.inr ⟨by rfl, rfl⟩) ?_
    try simp only [Act.put, setIfInBounds_toArray, set_cons_zero, set_cons_succ, getElem_toArray, getElem_cons_zero, getElem_cons_succ]
    refine AnyT.takeA (i := 21) (v := undef) rfl (by kernel_rfl) (by kernel_rfl) (by kernel_rfl) (fun _ _ _ h => h) (Or.inr ⟨by rfl, rfl⟩) ?_
    try simp only [Act.put, setIfInBounds_toArray, set_cons_zero, set_cons_succ, getElem_toArray, getElem_cons_zero, getElem_cons_succ]
    refine AnyT.takeA (i := 22) (v := undef) rfl (by kernel_rfl) (by kernel_rfl) (by kernel_rfl) (fun _ _ _ h => h) (Or.inr ⟨by rfl, rfl⟩) ?_
    try simp only [Act.put, setIfInBounds_toArray, set_cons_zero, set_cons_succ, getElem_toArray, getElem_cons_zero, getElem_cons_succ]
    refine AnyT.takeA (i := 23) (v := undef) rfl (by kernel_rfl) (by kernel_rfl) (by kernel_rfl) (fun _ _ _ h => h) (Or.inr ⟨by rfl, rfl⟩) ?_
    try simp only [Act.put, setIfInBounds_toArray, set_cons_zero, set_cons_succ, getElem_toArray, getElem_cons_zero, getElem_cons_succ]
    refine AnyT.takeA (i := 24) (v := undef) rfl (by kernel_rfl) (by kernel_rfl) (by kernel_rfl) (fun _ _ _ h => h) (Or.inr ⟨by rfl, rfl⟩) ?_
    try simp only [Act.put, setIfInBounds_toArray, set_cons_zero, set_cons_succ, getElem_toArray, getElem_cons_zero, getElem_cons_succ]
    refine AnyT.takeA (i := 25) (v := undef) rfl (by kernel_rfl) (by kernel_rfl) (by kernel_rfl) (fun _ _ _ h => h) (Or.inr ⟨by rfl, rfl⟩) ?_
    try simp only [Act.put, setIfInBounds_toArray, set_cons_zero, set_cons_succ, getElem_toArray, getElem_cons_zero, getElem_cons_succ]
    refine AnyT.takeA (i := 27) (v := undef) rfl (by kernel_rfl) (by kernel_rfl) (by kernel_rfl) (fun _ _ _ h => h) (Or.inr ⟨by rfl, rfl⟩) ?_
    try simp only [Act.put, setIfInBounds_toArray, set_cons_zero, set_cons_succ, getElem_toArray, getElem_cons_zero, getElem_cons_succ]
    refine AnyT.call (i := 26) (by kernel_rfl) rfl (fun K hK => ?_)
    try simp only [Act.put, setIfInBounds_toArray, set_cons_zero, set_cons_succ, getElem_toArray, getElem_cons_zero, getElem_cons_succ]
    rw [if_neg (by intro h; cases h)]
    refine hK.out _ _ (fun _ h => h) (fun _ => ?_)
    clear hK K
    try simp only [Act.put, setIfInBounds_toArray, set_cons_zero, set_cons_succ, getElem_toArray, getElem_cons_zero, getElem_cons_succ]
    refine AnyT.call (i := 28) (by kernel_rfl) rfl (fun K hK => ?_)
    try simp only [Act.put, setIfInBounds_toArray, set_cons_zero, set_cons_succ, getElem_toArray, getElem_cons_zero, getElem_cons_succ]
    rw [if_neg (by intro h; cases h)]
    refine hK.out _ _ (fun _ h => h) (fun _ => ?_)
    clear hK K
    try simp only [Act.put, setIfInBounds_toArray, set_cons_zero, set_cons_succ, getElem_toArray, getElem_cons_zero, getElem_cons_succ]
    refine AnyT.takeA (i := 29) (v := ?_) rfl (by kernel_rfl) (by kernel_rfl) (by kernel_rfl) (fun _ _ _ h => h) (Or.inl ⟨by rfl, ?_⟩) ?_
    rotate_left 1
    ·(intro w0 _; go_simp; try with_reducible rfl)
    try simp only [Act.put, setIfInBounds_toArray, set_cons_zero, set_cons_succ, getElem_toArray, getElem_cons_zero, getElem_cons_succ]
    refine AnyT.takeA (i := 30) (v := ?_) rfl (by kernel_rfl) (by kernel_rfl) (by kernel_rfl) (fun _ _ _ h => h) (Or.inl ⟨by rfl, ?_⟩) ?_
    rotate_left 1
    ·(intro w0 _; go_simp; try with_reducible rfl)
    try simp only [Act.put, setIfInBounds_toArray, set_cons_zero, set_cons_succ, getElem_toArray, getElem_cons_zero, getElem_cons_succ]
    refine AnyT.done (by kernel_rfl) ?_ _
    have F := Lib.hid (ansB (b := mayB d.2 o 0 o) (a := false) HF.out.symm (next_trans BEL.out Bv2))
    clear b1 Bv1 b2 Bv2 LH1 LH2
    go_wp2
    go_ret
    exact F.out
   ·have hkk : 0 ≤ o ∧ o < (q : Int) := of_decide_eq_true hb1
    obtain ⟨k, rfl⟩ := Int.eq_ofNat_of_zero_le hkk.1
    have hkq : k < q := by omega
    have hkl : k < d.2.length := by rw [hq]; exact hkq
    obtain ⟨b, off, l, r, y, rfl, hb, ex, c0, -, hy⟩ := rd_at hrs bel hq hkq
    have hzy : sz sRule y ≤ 1048576 := by rw [← ex.out]; exact hE k hkq
    obtain ⟨L, ln, lc, L', ln', lc', rfl, rfl, sL, qL, -, -, hln, -⟩ := rd_rule hy hzy
    have tL : termOkB d.1 y.1 = true := by rw [← ex.out]; exact hl k hkl
    have HSY := Lib.hid (symI_len (sg := d.1) sL.1 hln)
    have LS := Lib.hid (fun (w1 : World) (bb : Below W.heap.size W w1) => implSym A L n cs ln lc d.1 y.1 w1 ((hs.next bel).next bb) ((sL.more bel.size).next bb) hn hln)
    have HV := Lib.hid (show mayB d.2 (k : Int) x u = decide (x ∈ symI d.1 y.1) by
     rw [sym_mem tL]
     unfold mayB
     rw [hq, hb1, hb2, decide_eq_false hax]
     unfold lhsI
     rw [Int.toNat_natCast, ex.out]
     simp)
    have K2 : W.cell? ⟨b, off + k * 2, none⟩ = some (.slice L ln lc) := c0
    have ZB : b < W.heap.size := by have := bel.size; omega
    have i0 : (0 : Int) ≤ (k : Int) := by omega
    have i1 : (k : Int) < (q : Int) := by omega
    clear hb1 hb2 hl hs hq hrs hsg hE bel hkk hy hzy sL qL tL ex c0 hkl
    by_cases hou : (k : Int) = u
    ·have hx0 : ¬ x = 0 := fun q => hax ⟨q, hou⟩
     subst hou
     clear hax
     go_enter Try.func66, Try.ntmps66
     go_upto_region 1 with fail
     rw [← HW.out]
     refine AnyT.start (S := (fun w' => w'.cell? ⟨w.heap.size, 0, none⟩ = some (.slice A n cs) ∧ w'.cell? ⟨w.heap.size, 1, none⟩ = some (.slice (some ⟨b, off, none⟩) q cv) ∧ w'.cell? ⟨b, off + k * 2, none⟩ = some (.slice L ln lc))) (fun _ => false) (by kernel_rfl) ⟨K0, K1, K2⟩ (fun hHeld => ?_)
     refine AnyT.take (i := 0) (v := ?_) rfl (by kernel_rfl) (by kernel_rfl) (by kernel_rfl) (by kernel_rfl) (fun _ _ _ h => h) (Or.inl ⟨by rfl, ?_⟩) (by assumption) ?_
     rotate_left 1
     ·(intro w0 hSw; (try dsimp only at hSw); go_simp; try with_reducible rfl)
     try simp only [Act.put, setIfInBounds_toArray, set_cons_zero, set_cons_succ, getElem_toArray, getElem_cons_zero, getElem_cons_succ]
     refine AnyT.takeA (i := 1) (v := ?_) rfl (by kernel_rfl) (by kernel_rfl) (by kernel_rfl) (fun _ _ _ h => h) (Or.inl ⟨by rfl, ?_⟩) ?_
     rotate_left 1
     ·(intro w0 _; go_simp; try with_reducible rfl)
     try simp only [Act.put, setIfInBounds_toArray, set_cons_zero, set_cons_succ, getElem_toArray, getElem_cons_zero, getElem_cons_succ]
     refine AnyT.call (i := 2) (by kernel_rfl) rfl (fun K hK => ?_)
     try simp only [Act.put, setIfInBounds_toArray, set_cons_zero, set_cons_succ, getElem_toArray, getElem_cons_zero, getElem_cons_succ]
     rw [if_pos (by rfl)]
     go_simp
     (go_at_call 104; refine LH1.out.mono ?_; rintro e v1 ⟨rfl, b1⟩; have Bv1 : Below W.heap.size W v1 := next_trans (Below.refl W.heap.size W).drew b1; have hv1_0 : v1.cell? ⟨w.heap.size, 0, none⟩ = some (.slice A n cs) := (Bv1.cell (p := ⟨w.heap.size, 0, none⟩) ZA).trans K0; have hv1_1 : v1.cell? ⟨w.heap.size, 1, none⟩ = some (.slice (some ⟨b, off, none⟩) q cv) := (Bv1.cell (p := ⟨w.heap.size, 1, none⟩) ZA).trans K1; have hv1_2 : v1.cell? ⟨b, off + k * 2, none⟩ = some (.slice L ln lc) := (Bv1.cell (p := ⟨b, off + k * 2, none⟩) ZB).trans K2; go_wp2_with fail)
     refine hK.out _ _ (fun _ _ => ?_) (fun hKeep => ?_)
     ·exact ⟨hv1_0, hv1_1, hv1_2⟩
     replace hHeld := hKeep (by first | rfl | trivial) hHeld
     clear hK K hKeep
     try simp only [Act.put, setIfInBounds_toArray, set_cons_zero, set_cons_succ, getElem_toArray, getElem_cons_zero, getElem_cons_succ]
     refine AnyT.takeA (i := 3) (v := ?_) rfl (by kernel_rfl) (by kernel_rfl) (by kernel_rfl) (fun _ _ _ h => h) (Or.inl ⟨by rfl, ?_⟩) ?_
     rotate_left 1
     ·(intro w0 _; go_simp; try with_reducible rfl)
     try simp only [Act.put, setIfInBounds_toArray, set_cons_zero, set_cons_succ, getElem_toArray, getElem_cons_zero, getElem_cons_succ]
     refine AnyT.take (i := 4) (v := ?_) rfl (by kernel_rfl) (by kernel_rfl) (by kernel_rfl) (by kernel_rfl) (fun _ _ _ h => h) (Or.inl ⟨by rfl, ?_⟩) (by assumption) ?_
     rotate_left 1
     ·(intro w0 hSw; (try dsimp only at hSw); go_simp; try with_reducible rfl)
     try simp only [Act.put, setIfInBounds_toArray, set_cons_zero, set_cons_succ, getElem_toArray, getElem_cons_zero, getElem_cons_succ]
     refine AnyT.takeA (i := 5) (v := ?_) rfl (by kernel_rfl) (by kernel_rfl) (by kernel_rfl) (fun _ _ _ h => h) (Or.inl ⟨by rfl, ?_⟩) ?_
     rotate_left 1
     ·(intro w0 _; go_simp; try with_reducible rfl)
     try simp only [Act.put, setIfInBounds_toArray, set_cons_zero, set_cons_succ, getElem_toArray, getElem_cons_zero, getElem_cons_succ]
     refine AnyT.call (i := 6) (by kernel_rfl) rfl (fun K hK => ?_)
     try simp only [Act.put, setIfInBounds_toArray, set_cons_zero, set_cons_succ, getElem_toArray, getElem_cons_zero, getElem_cons_succ]
     rw [if_pos (by rfl)]
     go_simp
     (go_at_call 104; refine (LH2.out v1).mono ?_; rintro e v2 ⟨rfl, b2⟩; have Bv2 : Below W.heap.size W v2 := next_trans Bv1 b2; have hv2_0 : v2.cell? ⟨w.heap.size, 0, none⟩ = some (.slice A n cs) := (Bv2.cell (p := ⟨w.heap.size, 0, none⟩) ZA).trans K0; have hv2_1 : v2.cell? ⟨w.heap.size, 1, none⟩ = some (.slice (some ⟨b, off, none⟩) q cv) := (Bv2.cell (p := ⟨w.heap.size, 1, none⟩) ZA).trans K1; have hv2_2 : v2.cell? ⟨b, off + k * 2, none⟩ = some (.slice L ln lc) := (Bv2.cell (p := ⟨b, off + k * 2, none⟩) ZB).trans K2; go_wp2_with fail)
     refine hK.out _ _ (fun _ _ => ?_) (fun hKeep => ?_)
     ·exact ⟨hv2_0, hv2_1, hv2_2⟩
     replace hHeld := hKeep (by first | rfl | trivial) hHeld
     clear hK K hKeep
     try simp only [Act.put, setIfInBounds_toArray, set_cons_zero, set_cons_succ, getElem_toArray, getElem_cons_zero, getElem_cons_succ]
     refine AnyT.takeA (i := 7) (v := ?_) rfl (by kernel_rfl) (by kernel_rfl) (by kernel_rfl) (fun _ _ _ h => h) (Or.inl ⟨by rfl, ?_⟩) ?_
     rotate_left 1
     ·(intro w0 _; go_simp; try with_reducible rfl)
     try simp only [Act.put, setIfInBounds_toArray, set_cons_zero, set_cons_succ, getElem_toArray, getElem_cons_zero, getElem_cons_succ]
     refine AnyT.takeA (i := 8) (v := ?_) rfl (by kernel_rfl) (by kernel_rfl) (by kernel_rfl) (fun _ _ _ h => h) (Or.inl ⟨by rfl, ?_⟩) ?_
     rotate_left 1
     ·(intro w0 _; go_simp; try with_reducible rfl)
     try simp only [Act.put, setIfInBounds_toArray, set_cons_zero, set_cons_succ, getElem_toArray, getElem_cons_zero, getElem_cons_succ]
     refine AnyT.takeA (i := 9) (v := ?_) rfl (by kernel_rfl) (by kernel_rfl) (by kernel_rfl) (fun _ _ _ h => h) (Or.inl ⟨by rfl, ?_⟩) ?_
     rotate_left 1
     ·(intro w0 _; go_simp; try with_reducible rfl)
     try simp only [Act.put, setIfInBounds_toArray, set_cons_zero, set_cons_succ, getElem_toArray, getElem_cons_zero, getElem_cons_succ]
     refine AnyT.takeA (i := 10) (v := ?_) rfl (by kernel_rfl) (by kernel_rfl) (by kernel_rfl) (fun _ _ _ h => h) (Or.inl ⟨by rfl, ?_⟩) ?_
     rotate_left 1
     ·(intro w0 _; go_simp; try with_reducible rfl)
     try simp only [Act.put, setIfInBounds_toArray, set_cons_zero, set_cons_succ, getElem_toArray, getElem_cons_zero, getElem_cons_succ]
     refine AnyT.takeA (i := 11) (v := .bool false) rfl (by kernel_rfl) (by kernel_rfl) (by kernel_rfl) (fun _ _ _ h => h) (Or.inl ⟨by rfl, fun w0 _ => (by (try go_simp); (try simp))⟩) ?_
     try simp only [Act.put, setIfInBounds_toArray, set_cons_zero, set_cons_succ, getElem_toArray, getElem_cons_zero, getElem_cons_succ]
     refine AnyT.takeA (i := 12) (v := ?_) rfl (by kernel_rfl) (by kernel_rfl) (by kernel_rfl) (fun _ _ _ h => h) (Or.inl ⟨by rfl, ?_⟩) ?_
     rotate_left 1
     ·(intro w0 _; go_simp; try with_reducible rfl)
     try simp only [Act.put, setIfInBounds_toArray, set_cons_zero, set_cons_succ, getElem_toArray, getElem_cons_zero, getElem_cons_succ]
     refine AnyT.takeA (i := 13) (v := ?_) rfl (by kernel_rfl) (by kernel_rfl) (by kernel_rfl) (fun _ _ _ h => h) (Or.inl ⟨by rfl, ?_⟩) ?_
     rotate_left 1
     ·(intro w0 _; go_simp; try with_reducible rfl)
     try simp only [Act.put, setIfInBounds_toArray, set_cons_zero, set_cons_succ, getElem_toArray, getElem_cons_zero, getElem_cons_succ]
     refine AnyT.takeA (i := 14) (v := .bool true) rfl (by kernel_rfl) (by kernel_rfl) (by kernel_rfl) (fun _ _ _ h => h) (Or.inl ⟨by rfl, fun w0 _ => (by (try go_simp); (try simp [hx0]))⟩) ?_
     try simp only [Act.put, setIfInBounds_toArray, set_cons_zero, set_cons_succ, getElem_toArray, getElem_cons_zero, getElem_cons_succ]
     refine AnyT.takeA (i := 15) (v := ?_) rfl (by kernel_rfl) (by kernel_rfl) (by kernel_rfl) (fun _ _ _ h => h) (Or.inl ⟨by rfl, ?_⟩) ?_
     rotate_left 1
     ·(intro w0 _; go_simp; try with_reducible rfl)
     try simp only [Act.put, setIfInBounds_toArray, set_cons_zero, set_cons_succ, getElem_toArray, getElem_cons_zero, getElem_cons_succ]
     refine AnyT.takeA (i := 16) (v := ?_) rfl (by kernel_rfl) (by kernel_rfl) (by kernel_rfl) (fun _ _ _ h => h) (Or.inl ⟨by rfl, ?_⟩) ?_
     rotate_left 1
     ·(intro w0 _; go_simp; try with_reducible rfl)
     try simp only [Act.put, setIfInBounds_toArray, set_cons_zero, set_cons_succ, getElem_toArray, getElem_cons_zero, getElem_cons_succ]
     refine AnyT.takeA (i := 17) (v := ?_) rfl (by kernel_rfl) (by kernel_rfl) (by kernel_rfl) (fun _ _ _ h => h) (Or.inl ⟨by rfl, ?_⟩) ?_
     rotate_left 1
     ·(intro w0 _; go_simp; try with_reducible rfl)
     try simp only [Act.put, setIfInBounds_toArray, set_cons_zero, set_cons_succ, getElem_toArray, getElem_cons_zero, getElem_cons_succ]
     refine AnyT.takeA (i := 18) (v := ?_) rfl (by kernel_rfl) (by kernel_rfl) (by kernel_rfl) (fun _ _ _ h => h) (Or.inl ⟨by rfl, ?_⟩) ?_
     rotate_left 1
     ·(intro w0 _; go_simp; try with_reducible rfl)
     try simp only [Act.put, setIfInBounds_toArray, set_cons_zero, set_cons_succ, getElem_toArray, getElem_cons_zero, getElem_cons_succ]
     refine AnyT.take (i := 19) (v := ?_) rfl (by kernel_rfl) (by kernel_rfl) (by kernel_rfl) (by kernel_rfl) (fun _ _ _ h => h) (Or.inl ⟨by rfl, ?_⟩) (by assumption) ?_
     rotate_left 1
     ·(intro w0 hSw; (try dsimp only at hSw); go_simp; try with_reducible rfl)
     try simp only [Act.put, setIfInBounds_toArray, set_cons_zero, set_cons_succ, getElem_toArray, getElem_cons_zero, getElem_cons_succ]
     refine AnyT.takeA (i := 20) (v := ?_) rfl (by kernel_rfl) (by kernel_rfl) (by kernel_rfl) (fun _ _ _ h => h) (Or.inl ⟨by rfl, ?_⟩) ?_
     rotate_left 1
     ·(intro w0 _; go_simp; try with_reducible rfl)
     try simp only [Act.put, setIfInBounds_toArray, set_cons_zero, set_cons_succ, getElem_toArray, getElem_cons_zero, getElem_cons_succ]
     refine AnyT.take (i := 21) (v := ?_) rfl (by kernel_rfl) (by kernel_rfl) (by kernel_rfl) (by kernel_rfl) (fun _ _ _ h => h) (Or.inl ⟨by rfl, ?_⟩) (by assumption) ?_
     rotate_left 1
     ·(intro w0 hSw; (try dsimp only at hSw); go_simp; try with_reducible rfl)
     try simp only [Act.put, setIfInBounds_toArray, set_cons_zero, set_cons_succ, getElem_toArray, getElem_cons_zero, getElem_cons_succ]
     refine AnyT.takeA (i := 22) (v := ?_) rfl (by kernel_rfl) (by kernel_rfl) (by kernel_rfl) (fun _ _ _ h => h) (Or.inl ⟨by rfl, ?_⟩) ?_
     rotate_left 1
     ·(intro w0 _; go_simp; try with_reducible rfl)
     try simp only [Act.put, setIfInBounds_toArray, set_cons_zero, set_cons_succ, getElem_toArray, getElem_cons_zero, getElem_cons_succ]
     refine AnyT.takeA (i := 23) (v := ?_) rfl (by kernel_rfl) (by kernel_rfl) (by kernel_rfl) (fun _ _ _ h => h) (Or.inl ⟨by rfl, ?_⟩) ?_
     rotate_left 1
     ·(intro w0 _; go_simp; try with_reducible rfl)
     try simp only [Act.put, setIfInBounds_toArray, set_cons_zero, set_cons_succ, getElem_toArray, getElem_cons_zero, getElem_cons_succ]
     refine AnyT.takeA (i := 24) (v := ?_) rfl (by kernel_rfl) (by kernel_rfl) (by kernel_rfl) (fun _ _ _ h => h) (Or.inl ⟨by rfl, ?_⟩) ?_
     rotate_left 1
     ·(intro w0 _; go_simp; try with_reducible rfl)
     try simp only [Act.put, setIfInBounds_toArray, set_cons_zero, set_cons_succ, getElem_toArray, getElem_cons_zero, getElem_cons_succ]
     refine AnyT.take (i := 25) (v := ?_) rfl (by kernel_rfl) (by kernel_rfl) (by kernel_rfl) (by kernel_rfl) (fun _ _ _ h => h) (Or.inl ⟨by rfl, ?_⟩) (by assumption) ?_
     rotate_left 1
     ·(intro w0 hSw; (try dsimp only at hSw); go_simp; try with_reducible rfl)
     try simp only [Act.put, setIfInBounds_toArray, set_cons_zero, set_cons_succ, getElem_toArray, getElem_cons_zero, getElem_cons_succ]
     refine AnyT.takeA (i := 27) (v := ?_) rfl (by kernel_rfl) (by kernel_rfl) (by kernel_rfl) (fun _ _ _ h => h) (Or.inl ⟨by rfl, ?_⟩) ?_
     rotate_left 1
     ·(intro w0 _; go_simp; try with_reducible rfl)
     try simp only [Act.put, setIfInBounds_toArray, set_cons_zero, set_cons_succ, getElem_toArray, getElem_cons_zero, getElem_cons_succ]
     refine AnyT.call (i := 26) (by kernel_rfl) rfl (fun K hK => ?_)
     try simp only [Act.put, setIfInBounds_toArray, set_cons_zero, set_cons_succ, getElem_toArray, getElem_cons_zero, getElem_cons_succ]
     rw [if_pos (by rfl)]
     go_simp
     (go_at_call 106; refine (LS.out v2 Bv2).mono ?_; rintro e v3 ⟨P, pn, pc, rfl, oP, b3⟩; have Bv3 : Below W.heap.size W v3 := next_trans Bv2 b3; have hv3_0 : v3.cell? ⟨w.heap.size, 0, none⟩ = some (.slice A n cs) := (Bv3.cell (p := ⟨w.heap.size, 0, none⟩) ZA).trans K0; have hv3_1 : v3.cell? ⟨w.heap.size, 1, none⟩ = some (.slice (some ⟨b, off, none⟩) q cv) := (Bv3.cell (p := ⟨w.heap.size, 1, none⟩) ZA).trans K1; have hv3_2 : v3.cell? ⟨b, off + k * 2, none⟩ = some (.slice L ln lc) := (Bv3.cell (p := ⟨b, off + k * 2, none⟩) ZB).trans K2; go_wp2_with fail)
     refine hK.out _ _ (fun _ _ => ?_) (fun hKeep => ?_)
     ·exact ⟨hv3_0, hv3_1, hv3_2⟩
     replace hHeld := hKeep (by first | rfl | trivial) hHeld
     clear hK K hKeep
     try simp only [Act.put, setIfInBounds_toArray, set_cons_zero, set_cons_succ, getElem_toArray, getElem_cons_zero, getElem_cons_succ]
     refine AnyT.call (i := 28) (by kernel_rfl) rfl (fun K hK => ?_)
     try simp only [Act.put, setIfInBounds_toArray, set_cons_zero, set_cons_succ, getElem_toArray, getElem_cons_zero, getElem_cons_succ]
     rw [if_pos (by rfl)]
     go_simp
     (go_at_call 105; refine (containsI P pn pc _ x v3 (Own.seg oP) (by have q1 := Own.len oP; have q2 := HSY.out; omega)).mono ?_; rintro e v4 ⟨rfl, rfl⟩; go_wp2_with fail)
     refine hK.out _ _ (fun _ _ => ?_) (fun hKeep => ?_)
     ·exact ⟨hv3_0, hv3_1, hv3_2⟩
     replace hHeld := hKeep (by first | rfl | trivial) hHeld
     clear hK K hKeep
     try simp only [Act.put, setIfInBounds_toArray, set_cons_zero, set_cons_succ, getElem_toArray, getElem_cons_zero, getElem_cons_succ]
     refine AnyT.takeA (i := 29) (v := ?_) rfl (by kernel_rfl) (by kernel_rfl) (by kernel_rfl) (fun _ _ _ h => h) (Or.inl ⟨by rfl, ?_⟩) ?_
     rotate_left 1
     ·(intro w0 _; go_simp; try with_reducible rfl)
     try simp only [Act.put, setIfInBounds_toArray, set_cons_zero, set_cons_succ, getElem_toArray, getElem_cons_zero, getElem_cons_succ]
     refine AnyT.takeA (i := 30) (v := ?_) rfl (by kernel_rfl) (by kernel_rfl) (by kernel_rfl) (fun _ _ _ h => h) (Or.inl ⟨by rfl, ?_⟩) ?_
     rotate_left 1
     ·(intro w0 _; go_simp; try with_reducible rfl)
     try simp only [Act.put, setIfInBounds_toArray, set_cons_zero, set_cons_succ, getElem_toArray, getElem_cons_zero, getElem_cons_succ]
     refine AnyT.done (by kernel_rfl) ?_ _
     have F := Lib.hid (ansB (b := mayB d.2 (k : Int) x (k : Int)) (a := decide (x ∈ symI d.1 y.1)) HV.out.symm (next_trans BEL.out Bv3))
     clear b1 Bv1 b2 Bv2 b3 Bv3 oP LH1 LH2 LS
     generalize decide (x ∈ symI d.1 y.1) = bz at *
     go_wp2
     go_ret
     exact F.out
    ·clear hax
     go_enter Try.func66, Try.ntmps66
     go_upto_region 1 with fail
     rw [← HW.out]
     refine AnyT.start (S := (fun w' => w'.cell? ⟨w.heap.size, 0, none⟩ = some (.slice A n cs) ∧ w'.cell? ⟨w.heap.size, 1, none⟩ = some (.slice (some ⟨b, off, none⟩) q cv) ∧ w'.cell? ⟨b, off + k * 2, none⟩ = some (.slice L ln lc))) (fun _ => false) (by kernel_rfl) ⟨K0, K1, K2⟩ (fun hHeld => ?_)
     refine AnyT.take (i := 0) (v := ?_) rfl (by kernel_rfl) (by kernel_rfl) (by kernel_rfl) (by kernel_rfl) (fun _ _ _ h => h) (Or.inl ⟨by rfl, ?_⟩) (by assumption) ?_
     rotate_left 1
     ·(intro w0 hSw; (try dsimp only at hSw); go_simp; try with_reducible rfl)
     try simp only [Act.put, setIfInBounds_toArray, set_cons_zero, set_cons_succ, getElem_toArray, getElem_cons_zero, getElem_cons_succ]
     refine AnyT.takeA (i := 1) (v := ?_) rfl (by kernel_rfl) (by kernel_rfl) (by kernel_rfl) (fun _ _ _ h => h) (Or.inl ⟨by rfl, ?_⟩) ?_
     rotate_left 1
     ·(intro w0 _; go_simp; try with_reducible rfl)
     try simp only [Act.put, setIfInBounds_toArray, set_cons_zero, set_cons_succ, getElem_toArray, getElem_cons_zero, getElem_cons_succ]
     refine AnyT.call (i := 2) (by kernel_rfl) rfl (fun K hK => ?_)
     try simp only [Act.put, setIfInBounds_toArray, set_cons_zero, set_cons_succ, getElem_toArray, getElem_cons_zero, getElem_cons_succ]
     rw [if_pos (by rfl)]
     go_simp
     (go_at_call 104; refine LH1.out.mono ?_; rintro e v1 ⟨rfl, b1⟩; have Bv1 : Below W.heap.size W v1 := next_trans (Below.refl W.heap.size W).drew b1; have hv1_0 : v1.cell? ⟨w.heap.size, 0, none⟩ = some (.slice A n cs) := (Bv1.cell (p := ⟨w.heap.size, 0, none⟩) ZA).trans K0; have hv1_1 : v1.cell? ⟨w.heap.size, 1, none⟩ = some (.slice (some ⟨b, off, none⟩) q cv) := (Bv1.cell (p := ⟨w.heap.size, 1, none⟩) ZA).trans K1; have hv1_2 : v1.cell? ⟨b, off + k * 2, none⟩ = some (.slice L ln lc) := (Bv1.cell (p := ⟨b, off + k * 2, none⟩) ZB).trans K2; go_wp2_with fail)
     refine hK.out _ _ (fun _ _ => ?_) (fun hKeep => ?_)
     ·exact ⟨hv1_0, hv1_1, hv1_2⟩
     replace hHeld := hKeep (by first | rfl | trivial) hHeld
     clear hK K hKeep
     try simp only [Act.put, setIfInBounds_toArray, set_cons_zero, set_cons_succ, getElem_toArray, getElem_cons_zero, getElem_cons_succ]
     refine AnyT.takeA (i := 3) (v := ?_) rfl (by kernel_rfl) (by kernel_rfl) (by kernel_rfl) (fun _ _ _ h => h) (Or.inl ⟨by rfl, ?_⟩) ?_
     rotate_left 1
     ·(intro w0 _; go_simp; try with_reducible rfl)
     try simp only [Act.put, setIfInBounds_toArray, set_cons_zero, set_cons_succ, getElem_toArray, getElem_cons_zero, getElem_cons_succ]
     refine AnyT.take (i := 4) (v := ?_) rfl (by kernel_rfl) (by kernel_rfl) (by kernel_rfl) (by kernel_rfl) (fun _ _ _ h => h) (Or.inl ⟨by rfl, ?_⟩) (by assumption) ?_
     rotate_left 1
     ·(intro w0 hSw; (try dsimp only at hSw); go_simp; try with_reducible rfl)
     try simp only [Act.put, setIfInBounds_toArray, set_cons_zero, set_cons_succ, getElem_toArray, getElem_cons_zero, getElem_cons_succ]
     refine AnyT.takeA (i := 5) (v := ?_) rfl (by kernel_rfl) (by kernel_rfl) (by kernel_rfl) (fun _ _ _ h => h) (Or.inl ⟨by rfl, ?_⟩) ?_
     rotate_left 1
     ·(intro w0 _; go_simp; try with_reducible rfl)
     try simp only [Act.put, setIfInBounds_toArray, set_cons_zero, set_cons_succ, getElem_toArray, getElem_cons_zero, getElem_cons_succ]
     refine AnyT.call (i := 6) (by kernel_rfl) rfl (fun K hK => ?_)
     try simp only [Act.put, setIfInBounds_toArray, set_cons_zero, set_cons_succ, getElem_toArray, getElem_cons_zero, getElem_cons_succ]
     rw [if_pos (by rfl)]
     go_simp
     (go_at_call 104; refine (LH2.out v1).mono ?_; rintro e v2 ⟨rfl, b2⟩; have Bv2 : Below W.heap.size W v2 := next_trans Bv1 b2; have hv2_0 : v2.cell? ⟨w.heap.size, 0, none⟩ = some (.slice A n cs) := (Bv2.cell (p := ⟨w.heap.size, 0, none⟩) ZA).trans K0; have hv2_1 : v2.cell? ⟨w.heap.size, 1, none⟩ = some (.slice (some ⟨b, off, none⟩) q cv) := (Bv2.cell (p := ⟨w.heap.size, 1, none⟩) ZA).trans K1; have hv2_2 : v2.cell? ⟨b, off + k * 2, none⟩ = some (.slice L ln lc) := (Bv2.cell (p := ⟨b, off + k * 2, none⟩) ZB).trans K2; go_wp2_with fail)
     refine hK.out _ _ (fun _ _ => ?_) (fun hKeep => ?_)
     ·exact ⟨hv2_0, hv2_1, hv2_2⟩
     replace hHeld := hKeep (by first | rfl | trivial) hHeld
     clear hK K hKeep
     try simp only [Act.put, setIfInBounds_toArray, set_cons_zero, set_cons_succ, getElem_toArray, getElem_cons_zero, getElem_cons_succ]
     refine AnyT.takeA (i := 7) (v := ?_) rfl (by kernel_rfl) (by kernel_rfl) (by kernel_rfl) (fun _ _ _ h => h) (Or.inl ⟨by rfl, ?_⟩) ?_
     rotate_left 1
     ·(intro w0 _; go_simp; try with_reducible rfl)
     try simp only [Act.put, setIfInBounds_toArray, set_cons_zero, set_cons_succ, getElem_toArray, getElem_cons_zero, getElem_cons_succ]
     refine AnyT.takeA (i := 8) (v := ?_) rfl (by kernel_rfl) (by kernel_rfl) (by kernel_rfl) (fun _ _ _ h => h) (Or.inl ⟨by rfl, ?_⟩) ?_
     rotate_left 1
     ·(intro w0 _; go_simp; try with_reducible rfl)
     try simp only [Act.put, setIfInBounds_toArray, set_cons_zero, set_cons_succ, getElem_toArray, getElem_cons_zero, getElem_cons_succ]
     refine AnyT.takeA (i := 9) (v := ?_) rfl (by kernel_rfl) (by kernel_rfl) (by kernel_rfl) (fun _ _ _ h => h) (Or.inl ⟨by rfl, ?_⟩) ?_
     rotate_left 1
     ·(intro w0 _; go_simp; try with_reducible rfl)
     try simp only [Act.put, setIfInBounds_toArray, set_cons_zero, set_cons_succ, getElem_toArray, getElem_cons_zero, getElem_cons_succ]
     refine AnyT.takeA (i := 10) (v := ?_) rfl (by kernel_rfl) (by kernel_rfl) (by kernel_rfl) (fun _ _ _ h => h) (Or.inl ⟨by rfl, ?_⟩) ?_
     rotate_left 1
     ·(intro w0 _; go_simp; try with_reducible rfl)
     try simp only [Act.put, setIfInBounds_toArray, set_cons_zero, set_cons_succ, getElem_toArray, getElem_cons_zero, getElem_cons_succ]
     refine AnyT.takeA (i := 11) (v := .bool true) rfl (by kernel_rfl) (by kernel_rfl) (by kernel_rfl) (fun _ _ _ h => h) (Or.inl ⟨by rfl, fun w0 _ => (by (try go_simp); (try simp [hou]))⟩) ?_
     try simp only [Act.put, setIfInBounds_toArray, set_cons_zero, set_cons_succ, getElem_toArray, getElem_cons_zero, getElem_cons_succ]
     refine AnyT.takeA (i := 12) (v := ?_) rfl (by kernel_rfl) (by kernel_rfl) (by kernel_rfl) (fun _ _ _ h => h) (Or.inl ⟨by rfl, ?_⟩) ?_
     rotate_left 1
     ·(intro w0 _; go_simp; try with_reducible rfl)
     try simp only [Act.put, setIfInBounds_toArray, set_cons_zero, set_cons_succ, getElem_toArray, getElem_cons_zero, getElem_cons_succ]
     refine AnyT.takeA (i := 13) (v := undef) rfl (by kernel_rfl) (by kernel_rfl) (by kernel_rfl) (fun _ _ _ h => h) (Or.inr ⟨by rfl, rfl⟩) ?_
     try simp only [Act.put, setIfInBounds_toArray, set_cons_zero, set_cons_succ, getElem_toArray, getElem_cons_zero, getElem_cons_succ]
     refine AnyT.takeA (i := 14) (v := undef) rfl (by kernel_rfl) (by kernel_rfl) (by kernel_rfl) (fun _ _ _ h => h) (Or.inr ⟨by rfl, rfl⟩) ?_
     try simp only [Act.put, setIfInBounds_toArray, set_cons_zero, set_cons_succ, getElem_toArray, getElem_cons_zero, getElem_cons_succ]
     refine AnyT.takeA (i := 15) (v := ?_) rfl (by kernel_rfl) (by kernel_rfl) (by kernel_rfl) (fun _ _ _ h => h) (Or.inl ⟨by rfl, ?_⟩) ?_
     rotate_left 1
     ·(intro w0 _; go_simp; try with_reducible rfl)
     try simp only [Act.put, setIfInBounds_toArray, set_cons_zero, set_cons_succ, getElem_toArray, getElem_cons_zero, getElem_cons_succ]
     refine AnyT.takeA (i := 16) (v := ?_) rfl (by kernel_rfl) (by kernel_rfl) (by kernel_rfl) (fun _ _ _ h => h) (Or.inl ⟨by rfl, ?_⟩) ?_
     rotate_left 1
     ·(intro w0 _; go_simp; try with_reducible rfl)
     try simp only [Act.put, setIfInBounds_toArray, set_cons_zero, set_cons_succ, getElem_toArray, getElem_cons_zero, getElem_cons_succ]
     refine AnyT.takeA (i := 17) (v := ?_) rfl (by kernel_rfl) (by kernel_rfl) (by kernel_rfl) (fun _ _ _ h => h) (Or.inl ⟨by rfl, ?_⟩) ?_
     rotate_left 1
     ·(intro w0 _; go_simp; try with_reducible rfl)
     try simp only [Act.put, setIfInBounds_toArray, set_cons_zero, set_cons_succ, getElem_toArray, getElem_cons_zero, getElem_cons_succ]
     refine AnyT.takeA (i := 18) (v := ?_) rfl (by kernel_rfl) (by kernel_rfl) (by kernel_rfl) (fun _ _ _ h => h) (Or.inl ⟨by rfl, ?_⟩) ?_
     rotate_left 1
     ·(intro w0 _; go_simp; try with_reducible rfl)
     try simp only [Act.put, setIfInBounds_toArray, set_cons_zero, set_cons_succ, getElem_toArray, getElem_cons_zero, getElem_cons_succ]
     refine AnyT.take (i := 19) (v := ?_) rfl (by kernel_rfl) (by kernel_rfl) (by kernel_rfl) (by kernel_rfl) (fun _ _ _ h => h) (Or.inl ⟨by rfl, ?_⟩) (by assumption) ?_
     rotate_left 1
     ·(intro w0 hSw; (try dsimp only at hSw); go_simp; try with_reducible rfl)
     try simp only [Act.put, setIfInBounds_toArray, set_cons_zero, set_cons_succ, getElem_toArray, getElem_cons_zero, getElem_cons_succ]
     refine AnyT.takeA (i := 20) (v := ?_) rfl (by kernel_rfl) (by kernel_rfl) (by kernel_rfl) (fun _ _ _ h => h) (Or.inl ⟨by rfl, ?_⟩) ?_
     rotate_left 1
     ·(intro w0 _; go_simp; try with_reducible rfl)
     try simp only [Act.put, setIfInBounds_toArray, set_cons_zero, set_cons_succ, getElem_toArray, getElem_cons_zero, getElem_cons_succ]
     refine AnyT.take (i := 21) (v := ?_) rfl (by kernel_rfl) (by kernel_rfl) (by kernel_rfl) (by kernel_rfl) (fun _ _ _ h => h) (Or.inl ⟨by rfl, ?_⟩) (by assumption) ?_
     rotate_left 1
     ·(intro w0 hSw; (try dsimp only at hSw); go_simp; try with_reducible rfl)
     try simp only [Act.put, setIfInBounds_toArray, set_cons_zero, set_cons_succ, getElem_toArray, getElem_cons_zero, getElem_cons_succ]
     refine AnyT.takeA (i := 22) (v := ?_) rfl (by kernel_rfl) (by kernel_rfl) (by kernel_rfl) (fun _ _ _ h => h) (Or.inl ⟨by rfl, ?_⟩) ?_
     rotate_left 1
     ·(intro w0 _; go_simp; try with_reducible rfl)
     try simp only [Act.put, setIfInBounds_toArray, set_cons_zero, set_cons_succ, getElem_toArray, getElem_cons_zero, getElem_cons_succ]
     refine AnyT.takeA (i := 23) (v := ?_) rfl (by kernel_rfl) (by kernel_rfl) (by kernel_rfl) (fun _ _ _ h => h) (Or.inl ⟨by rfl, ?_⟩) ?_
     rotate_left 1
     ·(intro w0 _; go_simp; try with_reducible rfl)
     try simp only [Act.put, setIfInBounds_toArray, set_cons_zero, set_cons_succ, getElem_toArray, getElem_cons_zero, getElem_cons_succ]
     refine AnyT.takeA (i := 24) (v := ?_) rfl (by kernel_rfl) (by kernel_rfl) (by kernel_rfl) (fun _ _ _ h => h) (Or.inl ⟨by rfl, ?_⟩) ?_
     rotate_left 1
     ·(intro w0 _; go_simp; try with_reducible rfl)
     try simp only [Act.put, setIfInBounds_toArray, set_cons_zero, set_cons_succ, getElem_toArray, getElem_cons_zero, getElem_cons_succ]
     refine AnyT.take (i := 25) (v := ?_) rfl (by kernel_rfl) (by kernel_rfl) (by kernel_rfl) (by kernel_rfl) (fun _ _ _ h => h) (Or.inl ⟨by rfl, ?_⟩) (by assumption) ?_
     rotate_left 1
     ·(intro w0 hSw; (try dsimp only at hSw); go_simp; try with_reducible rfl)
     try simp only [Act.put, setIfInBounds_toArray, set_cons_zero, set_cons_succ, getElem_toArray, getElem_cons_zero, getElem_cons_succ]
     refine AnyT.takeA (i := 27) (v := ?_) rfl (by kernel_rfl) (by kernel_rfl) (by kernel_rfl) (fun _ _ _ h => h) (Or.inl ⟨by rfl, ?_⟩) ?_
     rotate_left 1
     ·(intro w0 _; go_simp; try with_reducible rfl)
     try simp only [Act.put, setIfInBounds_toArray, set_cons_zero, set_cons_succ, getElem_toArray, getElem_cons_zero, getElem_cons_succ]
     refine AnyT.call (i := 26) (by kernel_rfl) rfl (fun K hK => ?_)
     try simp only [Act.put, setIfInBounds_toArray, set_cons_zero, set_cons_succ, getElem_toArray, getElem_cons_zero, getElem_cons_succ]
     rw [if_pos (by rfl)]
     go_simp
     (go_at_call 106; refine (LS.out v2 Bv2).mono ?_; rintro e v3 ⟨P, pn, pc, rfl, oP, b3⟩; have Bv3 : Below W.heap.size W v3 := next_trans Bv2 b3; have hv3_0 : v3.cell? ⟨w.heap.size, 0, none⟩ = some (.slice A n cs) := (Bv3.cell (p := ⟨w.heap.size, 0, none⟩) ZA).trans K0; have hv3_1 : v3.cell? ⟨w.heap.size, 1, none⟩ = some (.slice (some ⟨b, off, none⟩) q cv) := (Bv3.cell (p := ⟨w.heap.size, 1, none⟩) ZA).trans K1; have hv3_2 : v3.cell? ⟨b, off + k * 2, none⟩ = some (.slice L ln lc) := (Bv3.cell (p := ⟨b, off + k * 2, none⟩) ZB).trans K2; go_wp2_with fail)
     refine hK.out _ _ (fun _ _ => ?_) (fun hKeep => ?_)
     ·exact ⟨hv3_0, hv3_1, hv3_2⟩
     replace hHeld := hKeep (by first | rfl | trivial) hHeld
     clear hK K hKeep
     try simp only [Act.put, setIfInBounds_toArray, set_cons_zero, set_cons_succ, getElem_toArray, getElem_cons_zero, getElem_cons_succ]
     refine AnyT.call (i := 28) (by kernel_rfl) rfl (fun K hK => ?_)
     try simp only [Act.put, setIfInBounds_toArray, set_cons_zero, set_cons_succ, getElem_toArray, getElem_cons_zero, getElem_cons_succ]
     rw [if_pos (by rfl)]
     go_simp
     (go_at_call 105; refine (containsI P pn pc _ x v3 (Own.seg oP) (by have q1 := Own.len oP; have q2 := HSY.out; omega)).mono ?_; rintro e v4 ⟨rfl, rfl⟩; go_wp2_with fail)
     refine hK.out _ _ (fun _ _ => ?_) (fun hKeep => ?_)
     ·exact ⟨hv3_0, hv3_1, hv3_2⟩
     replace hHeld := hKeep (by first | rfl | trivial) hHeld
     clear hK K hKeep
     try simp only [Act.put, setIfInBounds_toArray, set_cons_zero, set_cons_succ, getElem_toArray, getElem_cons_zero, getElem_cons_succ]
     refine AnyT.takeA (i := 29) (v := ?_) rfl (by kernel_rfl) (by kernel_rfl) (by kernel_rfl) (fun _ _ _ h => h) (Or.inl ⟨by rfl, ?_⟩) ?_
     rotate_left 1
     ·(intro w0 _; go_simp; try with_reducible rfl)
     try simp only [Act.put, setIfInBounds_toArray, set_cons_zero, set_cons_succ, getElem_toArray, getElem_cons_zero, getElem_cons_succ]
     refine AnyT.takeA (i := 30) (v := ?_) rfl (by kernel_rfl) (by kernel_rfl) (by kernel_rfl) (fun _ _ _ h => h) (Or.inl ⟨by rfl, ?_⟩) ?_
     rotate_left 1
     ·(intro w0 _; go_simp; try with_reducible rfl)
     try simp only [Act.put, setIfInBounds_toArray, set_cons_zero, set_cons_succ, getElem_toArray, getElem_cons_zero, getElem_cons_succ]
     refine AnyT.done (by kernel_rfl) ?_ _
     have F := Lib.hid (ansB (b := mayB d.2 (k : Int) x u) (a := decide (x ∈ symI d.1 y.1)) HV.out.symm (next_trans BEL.out Bv3))
     clear b1 Bv1 b2 Bv2 b3 Bv3 oP LH1 LH2 LS
     generalize decide (x ∈ symI d.1 y.1) = bz at *
     go_wp2
     go_ret
     exact F.out
end peakImpl
end
section
namespace peakImpl
open Go.RowKit heldT base ints sig term termOk endAt marks app sym pathSpec wayTo place segs segsHelp kinds termFacts same shape kindsR kindsW kindsP varsOf ruleMath ruleSpec ruleImpl stepMath walkMath stepSpec stepImpl walkSpec walkImpl peakMath peakSame
set_option maxRecDepth 100000
theorem rd_zero (w : World) (B : Nat) : Rd w B sSystem [.slice none 0 0, .slice none 0 0] (([], []) : Dat sSystem) :=
 ⟨[.slice none 0 0], [.slice none 0 0], rfl, ⟨none, 0, 0, rfl, ⟨Nat.le_refl _, by omega, fun _ => rfl⟩, rfl, fun h => absurd h (by omega)⟩, ⟨none, 0, 0, rfl, ⟨Nat.le_refl _, by omega, fun _ => rfl⟩, rfl, fun h => absurd h (by omega)⟩⟩
theorem may_zero (o x u : Int) : mayB [] o x u = false := may_no1 (by unfold walkMath.inB; exact decide_eq_false (by simp))
set_option maxHeartbeats 2000000 in
theorem implPeakC (A V T0 T1 T2 : Option Addr) (n cs q cv tn tc un uc yn yc : Nat) (d : Dat sSystem) (t0 t1 t2 : List Int) (xa xu xo : Int) (w : World) (h : Rd w w.heap.size sSystem [.slice A n cs, .slice V q cv] d) (g0 : Rd w w.heap.size sI [.slice T0 tn tc] t0) (s0 : Seg w w.heap.size T0 tn t0) (s1 : Seg w w.heap.size T1 un t1) (s2 : Seg w w.heap.size T2 yn t2) (hz : sz sSystem d ≤ 1048576) (z0 : sz sI t0 ≤ 1048576) (b0 : tn ≤ 1048576) (b1 : un ≤ 1048576) (b2 : yn ≤ 1048576) :
  Calls Try.prog 36 #[.agg #[.slice A n cs, .slice V q cv], .agg #[.slice T0 tn tc, .slice T1 un uc, .slice T2 yn yc, .int .i64 xa, .int .i64 xu, .int .i64 xo]] w (AnsB w (peakB d.1 d.2 (t0, t1, t2, xa, xu, xo))) := by
 obtain ⟨W, hW, rS, rP, bel⟩ := box2 w 33 41 #[.slice A n cs, .slice V q cv] #[.slice T0 tn tc, .slice T1 un uc, .slice T2 yn yc, .int .i64 xa, .int .i64 xu, .int .i64 xo]
 have HW := Lib.hid hW
 have LS := Lib.hid (systemOf _ _ d W (h.next bel) hz)
 obtain ⟨A', n', cs', V', q', cv', e1, e2, hs, hc, hcv, hq, hn, hq1, hrs, hsg, hE⟩ := rd_sys h hz
 injection e1 with e1 e3 e4
 injection e2 with e2 e5 e6
 subst e1 e3 e4 e2 e5 e6
 clear hW
 cases ok : sysOkB d.1 d.2 with
 | false =>
  have HS := Lib.hid ok
  have HF := Lib.hid (peak_sys (p := (t0, t1, t2, xa, xu, xo)) ok)
  clear ok h g0 s0 s1 s2 hs hc hcv hq hrs hsg hE
  go_enter Try.func36, Try.ntmps36
  go_wp2_with fail
  rw [← HW.out]
  refine LS.out.mono ?_
  rintro e w1 ⟨he, bb⟩
  rw [HS.out] at he
  have he : e = .returned (.tuple #[.agg #[.slice none 0 0, .slice none 0 0], .bool false]) := he
  subst he
  obtain ⟨w2, hw2⟩ : ∃ w2, w2 = w1.alloc (.cells #[.slice none 0 0, .slice none 0 0] 72) := ⟨_, rfl⟩
  have b3 : Below w1.heap.size w1 w2 := by rw [hw2]; exact (Below.refl w1.heap.size w1).alloc (Nat.le_refl _) _
  have r2 := (rP.next bb).next b3
  have bel2 := next_trans (next_trans bel bb) b3
  have k0 : (w1.alloc (.cells #[.slice none 0 0, .slice none 0 0] 72)).cell? ⟨w.heap.size + 1, 0, none⟩ = some (.slice T0 tn tc) := by rw [← hw2]; exact r2.cell 0
  have k1 : (w1.alloc (.cells #[.slice none 0 0, .slice none 0 0] 72)).cell? ⟨w.heap.size + 1, 1, none⟩ = some (.slice T1 un uc) := by rw [← hw2]; exact r2.cell 1
  have k2 : (w1.alloc (.cells #[.slice none 0 0, .slice none 0 0] 72)).cell? ⟨w.heap.size + 1, 2, none⟩ = some (.slice T2 yn yc) := by rw [← hw2]; exact r2.cell 2
  have k3 : (w1.alloc (.cells #[.slice none 0 0, .slice none 0 0] 72)).cell? ⟨w.heap.size + 1, 3, none⟩ = some (.int .i64 xa) := by rw [← hw2]; exact r2.cell 3
  have k4 : (w1.alloc (.cells #[.slice none 0 0, .slice none 0 0] 72)).cell? ⟨w.heap.size + 1, 4, none⟩ = some (.int .i64 xu) := by rw [← hw2]; exact r2.cell 4
  have k5 : (w1.alloc (.cells #[.slice none 0 0, .slice none 0 0] 72)).cell? ⟨w.heap.size + 1, 5, none⟩ = some (.int .i64 xo) := by rw [← hw2]; exact r2.cell 5
  have LM := Lib.hid (mayOverlap _ _ (([], []) : Dat sSystem) xo xa xu w2 (rd_zero w2 _) (by simp [sz]) (fun k hk => absurd hk (by simp)))
  have HW2 := Lib.hid hw2
  clear hw2 bb b3 r2 bel rS rP
  go_wp2_with fail
  rw [← HW2.out]
  refine LM.out.mono ?_
  rintro e w3 ⟨he, bb⟩
  have he : e = .returned (.bool false) := by rw [he]; exact congrArg (fun z => Ending.returned (.bool z)) (may_zero xo xa xu)
  subst he
  have F := Lib.hid (ansB (b := peakB d.1 d.2 (t0, t1, t2, xa, xu, xo)) (a := false) HF.out.symm (next_trans bel2 bb))
  clear bb bel2 k0 k1 k2 k3 k4 k5 LM HW2 LS
  go_wp2
  go_ret
  exact F.out
 | true =>
  have HS := Lib.hid ok
  have hlt : ∀ k, k < d.2.length → termOkB d.1 (d.2.getD k ([], [])).1 = true := fun k hk => (rule_parts (sys_rule ok hk)).1
  have LM := Lib.hid (fun (w1 : World) (bb : Below w.heap.size w w1) => mayOverlap _ _ d xo xa xu w1 (h.next bb) hz hlt)
  have LL := Lib.hid (fun (w1 : World) (bb : Below w.heap.size w w1) (U : Option Addr) (un uc : Nat) (y : List Int) (x r : Int) (hU : Seg w1 w1.heap.size U un y) (hun : un ≤ 1048576) => leads (.slice A n cs) (.slice V q cv) (.slice T0 tn tc) U un uc d t0 y x r w1 (h.next bb) (g0.next bb) hU hz z0 hun ok)
  have H1 := Lib.hid s1
  have H2 := Lib.hid s2
  obtain ⟨bm, hbm⟩ : ∃ z, mayB d.2 xo xa xu = z := ⟨_, rfl⟩
  simp only [hbm] at LM
  go_enter Try.func36, Try.ntmps36
  have PARTS : Hid (bm = true → ∃ (k : Nat) (b off : Nat) (L : Option Addr) (ln lc : Nat) (y : List Int), xo = (k : Int) ∧ k < q ∧ V = some ⟨b, off, none⟩ ∧ b < w.heap.size ∧ w.cell? ⟨b, off + k * 2, none⟩ = some (.slice L ln lc) ∧ Seg w w.heap.size L ln y ∧ ln ≤ 1048576 ∧ lhsI d.2 (k : Int) = y) := Lib.hid (fun hb => by
   subst hb
   have hkk : 0 ≤ xo ∧ xo < (q : Int) := by have := (may_parts hbm).1.1; rw [hq] at this; exact of_decide_eq_true this
   obtain ⟨k, rfl⟩ := Int.eq_ofNat_of_zero_le hkk.1
   obtain ⟨b, off, l, r, y, rfl, hb, ex, c0, -, hy⟩ := rd_at hrs (Below.refl _ _) hq (show k < q by omega)
   have hzy : sz sRule y ≤ 1048576 := by rw [← ex.out]; exact hE k (by omega)
   obtain ⟨L, ln, lc, L', ln', lc', rfl, rfl, sL, qL, -, -, hln, -⟩ := rd_rule hy hzy
   exact ⟨k, b, off, L, ln, lc, y.1, rfl, by omega, rfl, hb, c0, sL, hln, by unfold lhsI; rw [Int.toNat_natCast, ex.out]⟩)
  have HA := Lib.hid hs
  have HT := Lib.hid s0
  have HBM := Lib.hid hbm
  clear ok h g0 s0 s1 s2 hs hc hcv hq hrs hsg hE hlt hbm
  go_wp2_with fail
  rw [← HW.out]
  refine LS.out.mono ?_
  rintro e w1 ⟨he, bb⟩
  rw [HS.out] at he
  have he : e = .returned (.tuple #[.agg #[.slice A n cs, .slice V q cv], .bool true]) := he
  subst he
  obtain ⟨w2, hw2⟩ : ∃ w2, w2 = w1.alloc (.cells #[.slice A n cs, .slice V q cv] 72) := ⟨_, rfl⟩
  have b3 : Below w1.heap.size w1 w2 := by rw [hw2]; exact (Below.refl w1.heap.size w1).alloc (Nat.le_refl _) _
  have rQ : Row w2 w1.heap.size 72 #[.slice A n cs, .slice V q cv] := by rw [hw2]; exact Row.new _ _ _
  have r2 := (rP.next bb).next b3
  have bel2 := next_trans (next_trans bel bb) b3
  have k0 : (w1.alloc (.cells #[.slice A n cs, .slice V q cv] 72)).cell? ⟨w.heap.size + 1, 0, none⟩ = some (.slice T0 tn tc) := by rw [← hw2]; exact r2.cell 0
  have k1 : (w1.alloc (.cells #[.slice A n cs, .slice V q cv] 72)).cell? ⟨w.heap.size + 1, 1, none⟩ = some (.slice T1 un uc) := by rw [← hw2]; exact r2.cell 1
  have k2 : (w1.alloc (.cells #[.slice A n cs, .slice V q cv] 72)).cell? ⟨w.heap.size + 1, 2, none⟩ = some (.slice T2 yn yc) := by rw [← hw2]; exact r2.cell 2
  have k3 : (w1.alloc (.cells #[.slice A n cs, .slice V q cv] 72)).cell? ⟨w.heap.size + 1, 3, none⟩ = some (.int .i64 xa) := by rw [← hw2]; exact r2.cell 3
  have k4 : (w1.alloc (.cells #[.slice A n cs, .slice V q cv] 72)).cell? ⟨w.heap.size + 1, 4, none⟩ = some (.int .i64 xu) := by rw [← hw2]; exact r2.cell 4
  have k5 : (w1.alloc (.cells #[.slice A n cs, .slice V q cv] 72)).cell? ⟨w.heap.size + 1, 5, none⟩ = some (.int .i64 xo) := by rw [← hw2]; exact r2.cell 5
  have LM1 := Lib.hid (LM.out w2 bel2)
  have HW2 := Lib.hid hw2
  clear hw2 bb b3 bel rS rP LM LS
  go_wp2_with fail
  rw [← HW2.out]
  refine LM1.out.mono ?_
  rintro e w3 ⟨rfl, bb⟩
  cases bm with
  | false =>
   have F := Lib.hid (ansB (b := peakB d.1 d.2 (t0, t1, t2, xa, xu, xo)) (a := false) (peak_may HBM.out).symm (next_trans bel2 bb))
   clear bb bel2 k0 k1 k2 k3 k4 k5 LM1 HW2 rQ r2 LL PARTS
   go_wp2
   go_ret
   exact F.out
  | true =>
   obtain ⟨k, b, off, L, ln, lc, y, rfl, hkq, rfl, hb, cL, sL, hln, hLy⟩ := PARTS.out rfl
   have HPK := Lib.hid (fun hr => peak_yes (p := (t0, t1, t2, xa, xu, (k : Int))) HS.out HBM.out hr)
   have HPN := Lib.hid (fun hr => peak_right (sg := d.1) (rs := d.2) (p := (t0, t1, t2, xa, xu, (k : Int))) hr)
   replace r2 := r2.next bb
   replace rQ := rQ.next bb
   replace bel2 := next_trans bel2 bb
   have zP : w.heap.size + 1 < w3.heap.size := r2.lt
   have zQ : w1.heap.size < w3.heap.size := rQ.lt
   have zb : b < w3.heap.size := by have := bel2.size; omega
   have ka : w3.cell? ⟨w1.heap.size, 0, none⟩ = some (.slice A n cs) := rQ.cell 0
   have kb : w3.cell? ⟨w1.heap.size, 1, none⟩ = some (.slice (some ⟨b, off, none⟩) q cv) := rQ.cell 1
   clear k0 k1 k2 k3 k4 k5
   have k0 : w3.cell? ⟨w.heap.size + 1, 0, none⟩ = some (.slice T0 tn tc) := r2.cell 0
   have k1 : w3.cell? ⟨w.heap.size + 1, 1, none⟩ = some (.slice T1 un uc) := r2.cell 1
   have k2 : w3.cell? ⟨w.heap.size + 1, 2, none⟩ = some (.slice T2 yn yc) := r2.cell 2
   have k3 : w3.cell? ⟨w.heap.size + 1, 3, none⟩ = some (.int .i64 xa) := r2.cell 3
   have k4 : w3.cell? ⟨w.heap.size + 1, 4, none⟩ = some (.int .i64 xu) := r2.cell 4
   have k5 : w3.cell? ⟨w.heap.size + 1, 5, none⟩ = some (.int .i64 (k : Int)) := r2.cell 5
   have kl : w3.cell? ⟨b, off + k * 2, none⟩ = some (.slice L ln lc) := (bel2.cell (p := ⟨b, off + k * 2, none⟩) hb).trans cL
   have i0 : (0 : Int) ≤ (k : Int) := by omega
   have i1 : (k : Int) < (q : Int) := by omega
   have LPA := Lib.hid (implPathOf A L n cs ln lc d.1 y xa (pathI d.1 y xa) w3.drew (HA.out.next bel2.drew) (sL.next bel2.drew) hn hln (pathI_is d.1 y xa))
   have LPL := Lib.hid (fun (w4 : World) (P : Option Addr) (pn pc : Nat) (bb : Below w3.heap.size w3 w4) (hP : Seg w4 w4.heap.size P pn (pathI d.1 y xa)) => implPlaceOf A T0 P n cs tn tc pn pc d.1 t0 (pathI d.1 y xa) w4 ((HA.out.next bel2).next bb) ((HT.out.next bel2).next bb) hP hn b0 (by have := hP.1; have := pathI_len d.1 y xa; omega))
   have HZP := Lib.hid (show placeP d.1 d.2 t0 (k : Int) xa = placeI d.1 t0 (pathI d.1 y xa) by unfold placeP; rw [hLy])
   have BEL2 := Lib.hid bel2
   clear bb cL sL hLy LM1 HW2
   go_wp2_with fail
   go_region_held3 (fun w' => (w'.cell? ⟨w1.heap.size, 0, none⟩ = some (.slice A n cs) ∧ w'.cell? ⟨w1.heap.size, 1, none⟩ = some (.slice (some ⟨b, off, none⟩) q cv)) ∧ w'.cell? ⟨w.heap.size + 1, 0, none⟩ = some (.slice T0 tn tc) ∧ w'.cell? ⟨w.heap.size + 1, 3, none⟩ = some (.int .i64 xa) ∧ w'.cell? ⟨w.heap.size + 1, 5, none⟩ = some (.int .i64 (k : Int)) ∧ w'.cell? ⟨b, off + k * 2, none⟩ = some (.slice L ln lc))
    (go_keep)
    (first
     | (go_at_call 68; refine LPA.out.mono ?_; rintro e w4 ⟨P, pn, pc, rfl, oP, b4⟩; have B4 : Below w3.heap.size w3 w4 := next_trans (Below.refl w3.heap.size w3).drew b4; have h0 := (B4.cell (p := ⟨w1.heap.size, 0, none⟩) zQ).trans ka; have h1 := (B4.cell (p := ⟨w1.heap.size, 1, none⟩) zQ).trans kb; have h2 := (B4.cell (p := ⟨w.heap.size + 1, 0, none⟩) zP).trans k0; have h3 := (B4.cell (p := ⟨w.heap.size + 1, 3, none⟩) zP).trans k3; have h4 := (B4.cell (p := ⟨w.heap.size + 1, 5, none⟩) zP).trans k5; have h5 := (B4.cell (p := ⟨b, off + k * 2, none⟩) zb).trans kl)
     | (go_at_call 67; refine (LPL.out w4 P pn pc B4 (Own.seg oP)).mono ?_; rintro e w5 ⟨rfl, b5⟩; have B5 : Below w3.heap.size w3 w5 := next_trans B4 b5; have h0' := (B5.cell (p := ⟨w1.heap.size, 0, none⟩) zQ).trans ka; have h1' := (B5.cell (p := ⟨w1.heap.size, 1, none⟩) zQ).trans kb; have h2' := (B5.cell (p := ⟨w.heap.size + 1, 0, none⟩) zP).trans k0; have h3' := (B5.cell (p := ⟨w.heap.size + 1, 3, none⟩) zP).trans k3; have h4' := (B5.cell (p := ⟨w.heap.size + 1, 5, none⟩) zP).trans k5; have h5' := (B5.cell (p := ⟨b, off + k * 2, none⟩) zb).trans kl))
   clear h0 h1 h2 h3 h4 h5 h0' h1' h2' h3' h4' h5' ka kb k0 k1 k2 k3 k4 k5 kl oP b4 b5 LPA LPL
   obtain ⟨zp, hzp⟩ : ∃ z, placeI d.1 t0 (pathI d.1 y xa) = z := ⟨_, rfl⟩
   rw [hzp]
   have HZ2 := Lib.hid (HZP.out.trans hzp)
   clear hzp HZP
   replace r2 := r2.next B5
   replace rQ := rQ.next B5
   have bel5 := next_trans BEL2.out B5
   have ka : w5.cell? ⟨w1.heap.size, 0, none⟩ = some (.slice A n cs) := rQ.cell 0
   have kb : w5.cell? ⟨w1.heap.size, 1, none⟩ = some (.slice (some ⟨b, off, none⟩) q cv) := rQ.cell 1
   have k0 : w5.cell? ⟨w.heap.size + 1, 0, none⟩ = some (.slice T0 tn tc) := r2.cell 0
   have k1 : w5.cell? ⟨w.heap.size + 1, 1, none⟩ = some (.slice T1 un uc) := r2.cell 1
   have k2 : w5.cell? ⟨w.heap.size + 1, 2, none⟩ = some (.slice T2 yn yc) := r2.cell 2
   have k3 : w5.cell? ⟨w.heap.size + 1, 3, none⟩ = some (.int .i64 xa) := r2.cell 3
   have k4 : w5.cell? ⟨w.heap.size + 1, 4, none⟩ = some (.int .i64 xu) := r2.cell 4
   have k5 : w5.cell? ⟨w.heap.size + 1, 5, none⟩ = some (.int .i64 (k : Int)) := r2.cell 5
   have LL1 := Lib.hid (LL.out w5 bel5 T2 yn yc t2 0 (k : Int) (H2.out.next bel5) b2)
   clear B4 B5 BEL2 bel2
   go_wp2_with fail
   refine LL1.out.mono ?_
   rintro e w6 ⟨rfl, bb⟩
   replace r2 := r2.next bb
   replace rQ := rQ.next bb
   replace bel5 := next_trans bel5 bb
   clear bb ka kb k0 k1 k2 k3 k4 k5 LL1
   by_cases hr : stepAtO d.1 d.2 t0 0 (k : Int) = some t2
   ·have HV := Lib.hid (HPK.out hr)
    rw [decide_eq_true hr]
    clear hr HPK HPN
    have ka : w6.cell? ⟨w1.heap.size, 0, none⟩ = some (.slice A n cs) := rQ.cell 0
    have kb : w6.cell? ⟨w1.heap.size, 1, none⟩ = some (.slice (some ⟨b, off, none⟩) q cv) := rQ.cell 1
    have k0 : w6.cell? ⟨w.heap.size + 1, 0, none⟩ = some (.slice T0 tn tc) := r2.cell 0
    have k1 : w6.cell? ⟨w.heap.size + 1, 1, none⟩ = some (.slice T1 un uc) := r2.cell 1
    have k2 : w6.cell? ⟨w.heap.size + 1, 2, none⟩ = some (.slice T2 yn yc) := r2.cell 2
    have k3 : w6.cell? ⟨w.heap.size + 1, 3, none⟩ = some (.int .i64 xa) := r2.cell 3
    have k4 : w6.cell? ⟨w.heap.size + 1, 4, none⟩ = some (.int .i64 xu) := r2.cell 4
    have k5 : w6.cell? ⟨w.heap.size + 1, 5, none⟩ = some (.int .i64 (k : Int)) := r2.cell 5
    have LL2 := Lib.hid (LL.out w6 bel5 T1 un uc t1 zp xu (H1.out.next bel5) b1)
    clear LL rQ r2
    go_wp2_with fail
    refine LL2.out.mono ?_
    rintro e w7 ⟨rfl, bb⟩
    have F := Lib.hid (show AnsB w (peakB d.1 d.2 (t0, t1, t2, xa, xu, (k : Int))) (.returned (.bool (decide (stepAtO d.1 d.2 t0 zp xu = some t1)))) w7 from ⟨by rw [HV.out]; show _ = Ending.returned (.bool (decide (stepAtO d.1 d.2 t0 (placeP d.1 d.2 t0 (k : Int) xa) xu = some t1))); rw [HZ2.out], next_trans bel5 bb⟩)
    clear bb bel5 ka kb k0 k1 k2 k3 k4 k5 LL2
    generalize decide (stepAtO d.1 d.2 t0 zp xu = some t1) = bz at *
    go_wp2
    go_ret
    exact F.out
   ·have F := Lib.hid (ansB (b := peakB d.1 d.2 (t0, t1, t2, xa, xu, (k : Int))) (a := false) (HPN.out hr).symm bel5)
    rw [decide_eq_false hr]
    clear hr HPK HPN rQ r2 LL bel5
    go_wp2
    go_ret
    exact F.out
theorem implPeakOk (a v v0 v1 v2 : Value) (d : Dat sSystem) (p : Dat sPeak) (w : World) (h : Rd w w.heap.size sSystem [a, v] d) (h' : Rd w w.heap.size sPeak [v0, v1, v2, .int .i64 p.2.2.2.1, .int .i64 p.2.2.2.2.1, .int .i64 p.2.2.2.2.2] p) (hz : sz sSystem d ≤ 1048576) (hz' : sz sPeak p ≤ 1048576) :
  Calls Try.prog 36 #[.agg #[a, v], .agg #[v0, v1, v2, .int .i64 p.2.2.2.1, .int .i64 p.2.2.2.2.1, .int .i64 p.2.2.2.2.2]] w (AnsB w (peakB d.1 d.2 p)) := by
 obtain ⟨A, n, cs, V, q, cv, rfl, rfl, -⟩ := rd_sys h hz
 obtain ⟨T0, tn, tc, T1, un, uc, T2, yn, yc, rfl, rfl, rfl, s0, s1, s2, b0, b1, b2⟩ := rd_peak h' hz'
 obtain ⟨g0, -⟩ := parts_Peak h'
 have hz0 : sz sI p.1 + (sz sI p.2.1 + (sz sI p.2.2.1 + (0 + (0 + 0)))) ≤ 1048576 := hz'
 exact implPeakC A V T0 T1 T2 n cs q cv tn tc un uc yn yc d p.1 p.2.1 p.2.2.1 _ _ _ w h g0 s0 s1 s2 hz (by omega) b0 b1 b2
end peakImpl
end
section
namespace wPeakOk
open Go.RowKit base ints sig cursor marks app sym appAt segs segsHelp segsMark kinds shape varsOf kindsR kindsP ruleMath ruleSpec stepMath walkMath peakMath peakSpec peakImpl
set_option maxRecDepth 100000
set_option maxHeartbeats 8000000 in
theorem law (v0_0 v0_1 : Value) (d0 : Dat sSystem) (v1_0 v1_1 v1_2 : Value) (d1 : Dat sPeak) (w : World) (s0 : Rd w w.heap.size sSystem [v0_0, v0_1] d0) (s1 : Rd w w.heap.size sPeak [v1_0, v1_1, v1_2, .int .i64 d1.2.2.2.1, .int .i64 d1.2.2.2.2.1, .int .i64 d1.2.2.2.2.2] d1) :
  Calls Try.prog 8 #[.agg #[v0_0, v0_1], .agg #[v1_0, v1_1, v1_2, .int .i64 d1.2.2.2.1, .int .i64 d1.2.2.2.2.1, .int .i64 d1.2.2.2.2.2]] w (Fine w) := by
 obtain ⟨W, hW⟩ : ∃ W, W = (w.alloc (.cells #[v0_0, v0_1] 27)).alloc (.cells #[v1_0, v1_1, v1_2, .int .i64 d1.2.2.2.1, .int .i64 d1.2.2.2.2.1, .int .i64 d1.2.2.2.2.2] 53) := ⟨_, rfl⟩
 have rA0 : Row W (w.heap.size) 27 #[v0_0, v0_1] := by rw [hW]; have := (Row.new (w) 27 #[v0_0, v0_1]).alloc (.cells #[v1_0, v1_1, v1_2, .int .i64 d1.2.2.2.1, .int .i64 d1.2.2.2.2.1, .int .i64 d1.2.2.2.2.2] 53); simpa using this
 have rA1 : Row W (w.heap.size + 1) 53 #[v1_0, v1_1, v1_2, .int .i64 d1.2.2.2.1, .int .i64 d1.2.2.2.2.1, .int .i64 d1.2.2.2.2.2] := by rw [hW]; have := Row.new (w.alloc (.cells #[v0_0, v0_1] 27)) 53 #[v1_0, v1_1, v1_2, .int .i64 d1.2.2.2.1, .int .i64 d1.2.2.2.2.1, .int .i64 d1.2.2.2.2.2]; simpa using this
 have bW : Below w.heap.size w W := by rw [hW]; exact ((Below.refl w.heap.size w).alloc (by simp) (.cells #[v0_0, v0_1] 27)).alloc (by simp) (.cells #[v1_0, v1_1, v1_2, .int .i64 d1.2.2.2.1, .int .i64 d1.2.2.2.2.1, .int .i64 d1.2.2.2.2.2] 53)
 have zA0 := rA0.lt
 have zA1 := rA1.lt
 replace s0 := s0.next bW
 replace s1 := s1.next bW
 have HW := Lib.hid hW
 clear hW
 obtain ⟨t0, ht0⟩ : ∃ z, sz sSystem d0 = z := ⟨_, rfl⟩
 have HT0 := Lib.hid ht0
 clear ht0
 obtain ⟨t1, ht1⟩ : ∃ z, sz sPeak d1 = z := ⟨_, rfl⟩
 have HT1 := Lib.hid ht1
 clear ht1
 obtain ⟨v, hv⟩ : ∃ v, peakB d0.1 d0.2 d1 = v := ⟨_, rfl⟩
 have HV := Lib.hid hv
 clear hv
 have ev : (v != v) = false := by simp
 go_enter Try.func8, Try.ntmps8
 go_wp2_with fail
 rw [← HW.out]
 clear HW
 have bel := Below.refl W.heap.size W
 have cA0_0 : W.cell? ⟨w.heap.size, 0, none⟩ = some (v0_0) := (rA0.next bel).cell 0
 have cA0_1 : W.cell? ⟨w.heap.size, 1, none⟩ = some (v0_1) := (rA0.next bel).cell 1
 have cA1_0 : W.cell? ⟨w.heap.size + 1, 0, none⟩ = some (v1_0) := (rA1.next bel).cell 0
 have cA1_1 : W.cell? ⟨w.heap.size + 1, 1, none⟩ = some (v1_1) := (rA1.next bel).cell 1
 have cA1_2 : W.cell? ⟨w.heap.size + 1, 2, none⟩ = some (v1_2) := (rA1.next bel).cell 2
 have cA1_3 : W.cell? ⟨w.heap.size + 1, 3, none⟩ = some (.int .i64 d1.2.2.2.1) := (rA1.next bel).cell 3
 have cA1_4 : W.cell? ⟨w.heap.size + 1, 4, none⟩ = some (.int .i64 d1.2.2.2.2.1) := (rA1.next bel).cell 4
 have cA1_5 : W.cell? ⟨w.heap.size + 1, 5, none⟩ = some (.int .i64 d1.2.2.2.2.2) := (rA1.next bel).cell 5
 refine (szK_System _ _ d0 (1048576) _ (s0.next bel) (by omega) (by omega)).mono ?_
 rintro e w1 ⟨he, bb⟩
 rw [HT0.out] at he
 replace bel := next_trans bel bb
 have zw1 := bb.size
 clear bb
 by_cases q0 : t0 ≤ 1048576
 case neg =>
  rw [if_pos (by omega)] at he
  subst he
  have F := Lib.hid (bW.trans (bel.mono bW.size))
  clear bel bW cA0_0 cA0_1 cA1_0 cA1_1 cA1_2 cA1_3 cA1_4 cA1_5
  go_wp2
  go_ret
  exact ⟨rfl, F.out⟩
 rw [if_neg (by omega)] at he
 subst he
 have h0 : Hid (sz sSystem d0 ≤ 1048576) := Lib.hid (by rw [HT0.out]; omega)
 clear cA0_0 cA0_1 cA1_0 cA1_1 cA1_2 cA1_3 cA1_4 cA1_5
 have cA0_0 : w1.cell? ⟨w.heap.size, 0, none⟩ = some (v0_0) := (rA0.next bel).cell 0
 have cA0_1 : w1.cell? ⟨w.heap.size, 1, none⟩ = some (v0_1) := (rA0.next bel).cell 1
 have cA1_0 : w1.cell? ⟨w.heap.size + 1, 0, none⟩ = some (v1_0) := (rA1.next bel).cell 0
 have cA1_1 : w1.cell? ⟨w.heap.size + 1, 1, none⟩ = some (v1_1) := (rA1.next bel).cell 1
 have cA1_2 : w1.cell? ⟨w.heap.size + 1, 2, none⟩ = some (v1_2) := (rA1.next bel).cell 2
 have cA1_3 : w1.cell? ⟨w.heap.size + 1, 3, none⟩ = some (.int .i64 d1.2.2.2.1) := (rA1.next bel).cell 3
 have cA1_4 : w1.cell? ⟨w.heap.size + 1, 4, none⟩ = some (.int .i64 d1.2.2.2.2.1) := (rA1.next bel).cell 4
 have cA1_5 : w1.cell? ⟨w.heap.size + 1, 5, none⟩ = some (.int .i64 d1.2.2.2.2.2) := (rA1.next bel).cell 5
 go_wp2_with fail
 refine (szK_Peak _ _ _ d1 (1048576 - (t0 : Int)) _ (s1.next bel) (by omega) (by omega)).mono ?_
 rintro e w2 ⟨he, bb⟩
 rw [HT1.out] at he
 replace bel := next_trans bel bb
 have zw2 := bb.size
 clear bb
 by_cases q1 : t0 + t1 ≤ 1048576
 case neg =>
  rw [if_pos (by omega)] at he
  subst he
  have F := Lib.hid (bW.trans (bel.mono bW.size))
  clear bel bW cA0_0 cA0_1 cA1_0 cA1_1 cA1_2 cA1_3 cA1_4 cA1_5
  go_wp2
  go_ret
  exact ⟨rfl, F.out⟩
 rw [if_neg (by omega)] at he
 subst he
 have h1 : Hid (sz sPeak d1 ≤ 1048576) := Lib.hid (by rw [HT1.out]; omega)
 clear cA0_0 cA0_1 cA1_0 cA1_1 cA1_2 cA1_3 cA1_4 cA1_5
 have cA0_0 : w2.cell? ⟨w.heap.size, 0, none⟩ = some (v0_0) := (rA0.next bel).cell 0
 have cA0_1 : w2.cell? ⟨w.heap.size, 1, none⟩ = some (v0_1) := (rA0.next bel).cell 1
 have cA1_0 : w2.cell? ⟨w.heap.size + 1, 0, none⟩ = some (v1_0) := (rA1.next bel).cell 0
 have cA1_1 : w2.cell? ⟨w.heap.size + 1, 1, none⟩ = some (v1_1) := (rA1.next bel).cell 1
 have cA1_2 : w2.cell? ⟨w.heap.size + 1, 2, none⟩ = some (v1_2) := (rA1.next bel).cell 2
 have cA1_3 : w2.cell? ⟨w.heap.size + 1, 3, none⟩ = some (.int .i64 d1.2.2.2.1) := (rA1.next bel).cell 3
 have cA1_4 : w2.cell? ⟨w.heap.size + 1, 4, none⟩ = some (.int .i64 d1.2.2.2.2.1) := (rA1.next bel).cell 4
 have cA1_5 : w2.cell? ⟨w.heap.size + 1, 5, none⟩ = some (.int .i64 d1.2.2.2.2.2) := (rA1.next bel).cell 5
 go_wp2_with fail
 replace bel := bel.drew
 have zdw2 := (drew_below w2).size
 go_region_held3 (fun w' => w'.cell? ⟨w.heap.size, 0, none⟩ = some (v0_0) ∧ w'.cell? ⟨w.heap.size, 1, none⟩ = some (v0_1) ∧ w'.cell? ⟨w.heap.size + 1, 0, none⟩ = some (v1_0) ∧ w'.cell? ⟨w.heap.size + 1, 1, none⟩ = some (v1_1) ∧ w'.cell? ⟨w.heap.size + 1, 2, none⟩ = some (v1_2) ∧ w'.cell? ⟨w.heap.size + 1, 3, none⟩ = some (.int .i64 d1.2.2.2.1) ∧ w'.cell? ⟨w.heap.size + 1, 4, none⟩ = some (.int .i64 d1.2.2.2.2.1) ∧ w'.cell? ⟨w.heap.size + 1, 5, none⟩ = some (.int .i64 d1.2.2.2.2.2))
  (go_keep)
  (first
   | (go_at_call_of 12 (Value.agg #[v0_0, v0_1]); refine (toK_System _ _ d0 _ (s0.next bel) h0.out).mono ?_; rintro e w3 ⟨p0A0, p0n0, p0c0, p0A1, p0n1, p0c1, rfl, op0, bb⟩; replace bel := next_trans bel bb; have cA0_0w3 : w3.cell? ⟨w.heap.size, 0, none⟩ = some (v0_0) := (rA0.next bel).cell 0; have cA0_1w3 : w3.cell? ⟨w.heap.size, 1, none⟩ = some (v0_1) := (rA0.next bel).cell 1; have cA1_0w3 : w3.cell? ⟨w.heap.size + 1, 0, none⟩ = some (v1_0) := (rA1.next bel).cell 0; have cA1_1w3 : w3.cell? ⟨w.heap.size + 1, 1, none⟩ = some (v1_1) := (rA1.next bel).cell 1; have cA1_2w3 : w3.cell? ⟨w.heap.size + 1, 2, none⟩ = some (v1_2) := (rA1.next bel).cell 2; have cA1_3w3 : w3.cell? ⟨w.heap.size + 1, 3, none⟩ = some (.int .i64 d1.2.2.2.1) := (rA1.next bel).cell 3; have cA1_4w3 : w3.cell? ⟨w.heap.size + 1, 4, none⟩ = some (.int .i64 d1.2.2.2.2.1) := (rA1.next bel).cell 4; have cA1_5w3 : w3.cell? ⟨w.heap.size + 1, 5, none⟩ = some (.int .i64 d1.2.2.2.2.2) := (rA1.next bel).cell 5; have zqw3 := bb.size; clear bb)
   | (go_at_call_of 31 (Value.agg #[v1_0, v1_1, v1_2, .int .i64 d1.2.2.2.1, .int .i64 d1.2.2.2.2.1, .int .i64 d1.2.2.2.2.2]); refine (toK_Peak _ _ _ d1 _ (s1.next bel) h1.out).mono ?_; rintro e w4 ⟨p1A0, p1n0, p1c0, p1A1, p1n1, p1c1, p1A2, p1n2, p1c2, rfl, op1, bb⟩; replace op0 := op0.next bb; replace bel := next_trans bel bb; have cA0_0w4 : w4.cell? ⟨w.heap.size, 0, none⟩ = some (v0_0) := (rA0.next bel).cell 0; have cA0_1w4 : w4.cell? ⟨w.heap.size, 1, none⟩ = some (v0_1) := (rA0.next bel).cell 1; have cA1_0w4 : w4.cell? ⟨w.heap.size + 1, 0, none⟩ = some (v1_0) := (rA1.next bel).cell 0; have cA1_1w4 : w4.cell? ⟨w.heap.size + 1, 1, none⟩ = some (v1_1) := (rA1.next bel).cell 1; have cA1_2w4 : w4.cell? ⟨w.heap.size + 1, 2, none⟩ = some (v1_2) := (rA1.next bel).cell 2; have cA1_3w4 : w4.cell? ⟨w.heap.size + 1, 3, none⟩ = some (.int .i64 d1.2.2.2.1) := (rA1.next bel).cell 3; have cA1_4w4 : w4.cell? ⟨w.heap.size + 1, 4, none⟩ = some (.int .i64 d1.2.2.2.2.1) := (rA1.next bel).cell 4; have cA1_5w4 : w4.cell? ⟨w.heap.size + 1, 5, none⟩ = some (.int .i64 d1.2.2.2.2.2) := (rA1.next bel).cell 5; have zqw4 := bb.size; clear bb)
   | (go_at_call 35; refine (specPeakOk _ _ _ _ _ d0 d1 _ op0.rd op1.rd h0.out h1.out).mono ?_; rintro e w5 ⟨he, bb⟩; rw [HV.out] at he; subst he; replace bel := next_trans bel bb; have cA0_0w5 : w5.cell? ⟨w.heap.size, 0, none⟩ = some (v0_0) := (rA0.next bel).cell 0; have cA0_1w5 : w5.cell? ⟨w.heap.size, 1, none⟩ = some (v0_1) := (rA0.next bel).cell 1; have cA1_0w5 : w5.cell? ⟨w.heap.size + 1, 0, none⟩ = some (v1_0) := (rA1.next bel).cell 0; have cA1_1w5 : w5.cell? ⟨w.heap.size + 1, 1, none⟩ = some (v1_1) := (rA1.next bel).cell 1; have cA1_2w5 : w5.cell? ⟨w.heap.size + 1, 2, none⟩ = some (v1_2) := (rA1.next bel).cell 2; have cA1_3w5 : w5.cell? ⟨w.heap.size + 1, 3, none⟩ = some (.int .i64 d1.2.2.2.1) := (rA1.next bel).cell 3; have cA1_4w5 : w5.cell? ⟨w.heap.size + 1, 4, none⟩ = some (.int .i64 d1.2.2.2.2.1) := (rA1.next bel).cell 4; have cA1_5w5 : w5.cell? ⟨w.heap.size + 1, 5, none⟩ = some (.int .i64 d1.2.2.2.2.2) := (rA1.next bel).cell 5; have zqw5 := bb.size; clear bb op0 op1))
 clear cA0_0 cA0_1 cA1_0 cA1_1 cA1_2 cA1_3 cA1_4 cA1_5 cA0_0w5 cA0_1w5 cA1_0w5 cA1_1w5 cA1_2w5 cA1_3w5 cA1_4w5 cA1_5w5
 have cA0_0 : w5.cell? ⟨w.heap.size, 0, none⟩ = some (v0_0) := (rA0.next bel).cell 0
 have cA0_1 : w5.cell? ⟨w.heap.size, 1, none⟩ = some (v0_1) := (rA0.next bel).cell 1
 have cA1_0 : w5.cell? ⟨w.heap.size + 1, 0, none⟩ = some (v1_0) := (rA1.next bel).cell 0
 have cA1_1 : w5.cell? ⟨w.heap.size + 1, 1, none⟩ = some (v1_1) := (rA1.next bel).cell 1
 have cA1_2 : w5.cell? ⟨w.heap.size + 1, 2, none⟩ = some (v1_2) := (rA1.next bel).cell 2
 have cA1_3 : w5.cell? ⟨w.heap.size + 1, 3, none⟩ = some (.int .i64 d1.2.2.2.1) := (rA1.next bel).cell 3
 have cA1_4 : w5.cell? ⟨w.heap.size + 1, 4, none⟩ = some (.int .i64 d1.2.2.2.2.1) := (rA1.next bel).cell 4
 have cA1_5 : w5.cell? ⟨w.heap.size + 1, 5, none⟩ = some (.int .i64 d1.2.2.2.2.2) := (rA1.next bel).cell 5
 go_wp2_with fail
 refine (toK_System _ _ d0 _ (s0.next bel) h0.out).mono ?_
 rintro e w6 ⟨x0A0, x0n0, x0c0, x0A1, x0n1, x0c1, rfl, ox0, bb⟩
 replace bel := next_trans bel bb
 have zw6 := bb.size
 clear bb
 clear cA0_0 cA0_1 cA1_0 cA1_1 cA1_2 cA1_3 cA1_4 cA1_5
 have cA0_0 : w6.cell? ⟨w.heap.size, 0, none⟩ = some (v0_0) := (rA0.next bel).cell 0
 have cA0_1 : w6.cell? ⟨w.heap.size, 1, none⟩ = some (v0_1) := (rA0.next bel).cell 1
 have cA1_0 : w6.cell? ⟨w.heap.size + 1, 0, none⟩ = some (v1_0) := (rA1.next bel).cell 0
 have cA1_1 : w6.cell? ⟨w.heap.size + 1, 1, none⟩ = some (v1_1) := (rA1.next bel).cell 1
 have cA1_2 : w6.cell? ⟨w.heap.size + 1, 2, none⟩ = some (v1_2) := (rA1.next bel).cell 2
 have cA1_3 : w6.cell? ⟨w.heap.size + 1, 3, none⟩ = some (.int .i64 d1.2.2.2.1) := (rA1.next bel).cell 3
 have cA1_4 : w6.cell? ⟨w.heap.size + 1, 4, none⟩ = some (.int .i64 d1.2.2.2.2.1) := (rA1.next bel).cell 4
 have cA1_5 : w6.cell? ⟨w.heap.size + 1, 5, none⟩ = some (.int .i64 d1.2.2.2.2.2) := (rA1.next bel).cell 5
 have dA0_0 : (w6.alloc (.cells #[.slice x0A0 x0n0 x0c0, .slice x0A1 x0n1 x0c1] 33)).cell? ⟨w.heap.size, 0, none⟩ = some (v0_0) := ((rA0.next bel).alloc _).cell 0
 have dA0_1 : (w6.alloc (.cells #[.slice x0A0 x0n0 x0c0, .slice x0A1 x0n1 x0c1] 33)).cell? ⟨w.heap.size, 1, none⟩ = some (v0_1) := ((rA0.next bel).alloc _).cell 1
 have dA1_0 : (w6.alloc (.cells #[.slice x0A0 x0n0 x0c0, .slice x0A1 x0n1 x0c1] 33)).cell? ⟨w.heap.size + 1, 0, none⟩ = some (v1_0) := ((rA1.next bel).alloc _).cell 0
 have dA1_1 : (w6.alloc (.cells #[.slice x0A0 x0n0 x0c0, .slice x0A1 x0n1 x0c1] 33)).cell? ⟨w.heap.size + 1, 1, none⟩ = some (v1_1) := ((rA1.next bel).alloc _).cell 1
 have dA1_2 : (w6.alloc (.cells #[.slice x0A0 x0n0 x0c0, .slice x0A1 x0n1 x0c1] 33)).cell? ⟨w.heap.size + 1, 2, none⟩ = some (v1_2) := ((rA1.next bel).alloc _).cell 2
 have dA1_3 : (w6.alloc (.cells #[.slice x0A0 x0n0 x0c0, .slice x0A1 x0n1 x0c1] 33)).cell? ⟨w.heap.size + 1, 3, none⟩ = some (.int .i64 d1.2.2.2.1) := ((rA1.next bel).alloc _).cell 3
 have dA1_4 : (w6.alloc (.cells #[.slice x0A0 x0n0 x0c0, .slice x0A1 x0n1 x0c1] 33)).cell? ⟨w.heap.size + 1, 4, none⟩ = some (.int .i64 d1.2.2.2.2.1) := ((rA1.next bel).alloc _).cell 4
 have dA1_5 : (w6.alloc (.cells #[.slice x0A0 x0n0 x0c0, .slice x0A1 x0n1 x0c1] 33)).cell? ⟨w.heap.size + 1, 5, none⟩ = some (.int .i64 d1.2.2.2.2.2) := ((rA1.next bel).alloc _).cell 5
 go_wp2_with fail
 obtain ⟨w7, hw⟩ : ∃ W, W = w6.alloc (.cells #[.slice x0A0 x0n0 x0c0, .slice x0A1 x0n1 x0c1] 33) := ⟨_, rfl⟩
 rw [← hw]
 have rx0 : Row w7 w6.heap.size 33 #[.slice x0A0 x0n0 x0c0, .slice x0A1 x0n1 x0c1] := by rw [hw]; exact Row.new _ _ _
 have bb : Below w6.heap.size w6 w7 := by rw [hw]; exact (Below.refl _ _).alloc (Nat.le_refl _) _
 have yrx0 : w6.heap.size < w7.heap.size := by rw [hw]; simp
 clear hw
 replace ox0 := ox0.next bb
 replace bel := next_trans bel bb
 have zw7 := bb.size
 clear bb
 clear dA0_0 dA0_1 dA1_0 dA1_1 dA1_2 dA1_3 dA1_4 dA1_5
 clear cA0_0 cA0_1 cA1_0 cA1_1 cA1_2 cA1_3 cA1_4 cA1_5
 have cA0_0 : w7.cell? ⟨w.heap.size, 0, none⟩ = some (v0_0) := (rA0.next bel).cell 0
 have cA0_1 : w7.cell? ⟨w.heap.size, 1, none⟩ = some (v0_1) := (rA0.next bel).cell 1
 have cA1_0 : w7.cell? ⟨w.heap.size + 1, 0, none⟩ = some (v1_0) := (rA1.next bel).cell 0
 have cA1_1 : w7.cell? ⟨w.heap.size + 1, 1, none⟩ = some (v1_1) := (rA1.next bel).cell 1
 have cA1_2 : w7.cell? ⟨w.heap.size + 1, 2, none⟩ = some (v1_2) := (rA1.next bel).cell 2
 have cA1_3 : w7.cell? ⟨w.heap.size + 1, 3, none⟩ = some (.int .i64 d1.2.2.2.1) := (rA1.next bel).cell 3
 have cA1_4 : w7.cell? ⟨w.heap.size + 1, 4, none⟩ = some (.int .i64 d1.2.2.2.2.1) := (rA1.next bel).cell 4
 have cA1_5 : w7.cell? ⟨w.heap.size + 1, 5, none⟩ = some (.int .i64 d1.2.2.2.2.2) := (rA1.next bel).cell 5
 have cx0_0 : w7.cell? ⟨w6.heap.size, 0, none⟩ = some (.slice x0A0 x0n0 x0c0) := (rx0).cell 0
 have cx0_1 : w7.cell? ⟨w6.heap.size, 1, none⟩ = some (.slice x0A1 x0n1 x0c1) := (rx0).cell 1
 refine (toK_Peak _ _ _ d1 _ (s1.next bel) h1.out).mono ?_
 rintro e w8 ⟨x1A0, x1n0, x1c0, x1A1, x1n1, x1c1, x1A2, x1n2, x1c2, rfl, ox1, bb⟩
 replace ox0 := ox0.next bb
 replace rx0 := rx0.next bb
 replace bel := next_trans bel bb
 have zw8 := bb.size
 clear bb
 clear cA0_0 cA0_1 cA1_0 cA1_1 cA1_2 cA1_3 cA1_4 cA1_5 cx0_0 cx0_1
 have cA0_0 : w8.cell? ⟨w.heap.size, 0, none⟩ = some (v0_0) := (rA0.next bel).cell 0
 have cA0_1 : w8.cell? ⟨w.heap.size, 1, none⟩ = some (v0_1) := (rA0.next bel).cell 1
 have cA1_0 : w8.cell? ⟨w.heap.size + 1, 0, none⟩ = some (v1_0) := (rA1.next bel).cell 0
 have cA1_1 : w8.cell? ⟨w.heap.size + 1, 1, none⟩ = some (v1_1) := (rA1.next bel).cell 1
 have cA1_2 : w8.cell? ⟨w.heap.size + 1, 2, none⟩ = some (v1_2) := (rA1.next bel).cell 2
 have cA1_3 : w8.cell? ⟨w.heap.size + 1, 3, none⟩ = some (.int .i64 d1.2.2.2.1) := (rA1.next bel).cell 3
 have cA1_4 : w8.cell? ⟨w.heap.size + 1, 4, none⟩ = some (.int .i64 d1.2.2.2.2.1) := (rA1.next bel).cell 4
 have cA1_5 : w8.cell? ⟨w.heap.size + 1, 5, none⟩ = some (.int .i64 d1.2.2.2.2.2) := (rA1.next bel).cell 5
 have cx0_0 : w8.cell? ⟨w6.heap.size, 0, none⟩ = some (.slice x0A0 x0n0 x0c0) := (rx0).cell 0
 have cx0_1 : w8.cell? ⟨w6.heap.size, 1, none⟩ = some (.slice x0A1 x0n1 x0c1) := (rx0).cell 1
 have dA0_0 : (w8.alloc (.cells #[.slice x1A0 x1n0 x1c0, .slice x1A1 x1n1 x1c1, .slice x1A2 x1n2 x1c2, .int .i64 d1.2.2.2.1, .int .i64 d1.2.2.2.2.1, .int .i64 d1.2.2.2.2.2] 41)).cell? ⟨w.heap.size, 0, none⟩ = some (v0_0) := ((rA0.next bel).alloc _).cell 0
 have dA0_1 : (w8.alloc (.cells #[.slice x1A0 x1n0 x1c0, .slice x1A1 x1n1 x1c1, .slice x1A2 x1n2 x1c2, .int .i64 d1.2.2.2.1, .int .i64 d1.2.2.2.2.1, .int .i64 d1.2.2.2.2.2] 41)).cell? ⟨w.heap.size, 1, none⟩ = some (v0_1) := ((rA0.next bel).alloc _).cell 1
 have dA1_0 : (w8.alloc (.cells #[.slice x1A0 x1n0 x1c0, .slice x1A1 x1n1 x1c1, .slice x1A2 x1n2 x1c2, .int .i64 d1.2.2.2.1, .int .i64 d1.2.2.2.2.1, .int .i64 d1.2.2.2.2.2] 41)).cell? ⟨w.heap.size + 1, 0, none⟩ = some (v1_0) := ((rA1.next bel).alloc _).cell 0
 have dA1_1 : (w8.alloc (.cells #[.slice x1A0 x1n0 x1c0, .slice x1A1 x1n1 x1c1, .slice x1A2 x1n2 x1c2, .int .i64 d1.2.2.2.1, .int .i64 d1.2.2.2.2.1, .int .i64 d1.2.2.2.2.2] 41)).cell? ⟨w.heap.size + 1, 1, none⟩ = some (v1_1) := ((rA1.next bel).alloc _).cell 1
 have dA1_2 : (w8.alloc (.cells #[.slice x1A0 x1n0 x1c0, .slice x1A1 x1n1 x1c1, .slice x1A2 x1n2 x1c2, .int .i64 d1.2.2.2.1, .int .i64 d1.2.2.2.2.1, .int .i64 d1.2.2.2.2.2] 41)).cell? ⟨w.heap.size + 1, 2, none⟩ = some (v1_2) := ((rA1.next bel).alloc _).cell 2
 have dA1_3 : (w8.alloc (.cells #[.slice x1A0 x1n0 x1c0, .slice x1A1 x1n1 x1c1, .slice x1A2 x1n2 x1c2, .int .i64 d1.2.2.2.1, .int .i64 d1.2.2.2.2.1, .int .i64 d1.2.2.2.2.2] 41)).cell? ⟨w.heap.size + 1, 3, none⟩ = some (.int .i64 d1.2.2.2.1) := ((rA1.next bel).alloc _).cell 3
 have dA1_4 : (w8.alloc (.cells #[.slice x1A0 x1n0 x1c0, .slice x1A1 x1n1 x1c1, .slice x1A2 x1n2 x1c2, .int .i64 d1.2.2.2.1, .int .i64 d1.2.2.2.2.1, .int .i64 d1.2.2.2.2.2] 41)).cell? ⟨w.heap.size + 1, 4, none⟩ = some (.int .i64 d1.2.2.2.2.1) := ((rA1.next bel).alloc _).cell 4
 have dA1_5 : (w8.alloc (.cells #[.slice x1A0 x1n0 x1c0, .slice x1A1 x1n1 x1c1, .slice x1A2 x1n2 x1c2, .int .i64 d1.2.2.2.1, .int .i64 d1.2.2.2.2.1, .int .i64 d1.2.2.2.2.2] 41)).cell? ⟨w.heap.size + 1, 5, none⟩ = some (.int .i64 d1.2.2.2.2.2) := ((rA1.next bel).alloc _).cell 5
 have dx0_0 : (w8.alloc (.cells #[.slice x1A0 x1n0 x1c0, .slice x1A1 x1n1 x1c1, .slice x1A2 x1n2 x1c2, .int .i64 d1.2.2.2.1, .int .i64 d1.2.2.2.2.1, .int .i64 d1.2.2.2.2.2] 41)).cell? ⟨w6.heap.size, 0, none⟩ = some (.slice x0A0 x0n0 x0c0) := ((rx0).alloc _).cell 0
 have dx0_1 : (w8.alloc (.cells #[.slice x1A0 x1n0 x1c0, .slice x1A1 x1n1 x1c1, .slice x1A2 x1n2 x1c2, .int .i64 d1.2.2.2.1, .int .i64 d1.2.2.2.2.1, .int .i64 d1.2.2.2.2.2] 41)).cell? ⟨w6.heap.size, 1, none⟩ = some (.slice x0A1 x0n1 x0c1) := ((rx0).alloc _).cell 1
 go_wp2_with fail
 obtain ⟨w9, hw⟩ : ∃ W, W = w8.alloc (.cells #[.slice x1A0 x1n0 x1c0, .slice x1A1 x1n1 x1c1, .slice x1A2 x1n2 x1c2, .int .i64 d1.2.2.2.1, .int .i64 d1.2.2.2.2.1, .int .i64 d1.2.2.2.2.2] 41) := ⟨_, rfl⟩
 rw [← hw]
 have rx1 : Row w9 w8.heap.size 41 #[.slice x1A0 x1n0 x1c0, .slice x1A1 x1n1 x1c1, .slice x1A2 x1n2 x1c2, .int .i64 d1.2.2.2.1, .int .i64 d1.2.2.2.2.1, .int .i64 d1.2.2.2.2.2] := by rw [hw]; exact Row.new _ _ _
 have bb : Below w8.heap.size w8 w9 := by rw [hw]; exact (Below.refl _ _).alloc (Nat.le_refl _) _
 have yrx1 : w8.heap.size < w9.heap.size := by rw [hw]; simp
 clear hw
 replace ox0 := ox0.next bb
 replace rx0 := rx0.next bb
 replace ox1 := ox1.next bb
 replace bel := next_trans bel bb
 have zw9 := bb.size
 clear bb
 clear dA0_0 dA0_1 dA1_0 dA1_1 dA1_2 dA1_3 dA1_4 dA1_5 dx0_0 dx0_1
 clear cA0_0 cA0_1 cA1_0 cA1_1 cA1_2 cA1_3 cA1_4 cA1_5 cx0_0 cx0_1
 have cA0_0 : w9.cell? ⟨w.heap.size, 0, none⟩ = some (v0_0) := (rA0.next bel).cell 0
 have cA0_1 : w9.cell? ⟨w.heap.size, 1, none⟩ = some (v0_1) := (rA0.next bel).cell 1
 have cA1_0 : w9.cell? ⟨w.heap.size + 1, 0, none⟩ = some (v1_0) := (rA1.next bel).cell 0
 have cA1_1 : w9.cell? ⟨w.heap.size + 1, 1, none⟩ = some (v1_1) := (rA1.next bel).cell 1
 have cA1_2 : w9.cell? ⟨w.heap.size + 1, 2, none⟩ = some (v1_2) := (rA1.next bel).cell 2
 have cA1_3 : w9.cell? ⟨w.heap.size + 1, 3, none⟩ = some (.int .i64 d1.2.2.2.1) := (rA1.next bel).cell 3
 have cA1_4 : w9.cell? ⟨w.heap.size + 1, 4, none⟩ = some (.int .i64 d1.2.2.2.2.1) := (rA1.next bel).cell 4
 have cA1_5 : w9.cell? ⟨w.heap.size + 1, 5, none⟩ = some (.int .i64 d1.2.2.2.2.2) := (rA1.next bel).cell 5
 have cx0_0 : w9.cell? ⟨w6.heap.size, 0, none⟩ = some (.slice x0A0 x0n0 x0c0) := (rx0).cell 0
 have cx0_1 : w9.cell? ⟨w6.heap.size, 1, none⟩ = some (.slice x0A1 x0n1 x0c1) := (rx0).cell 1
 have cx1_0 : w9.cell? ⟨w8.heap.size, 0, none⟩ = some (.slice x1A0 x1n0 x1c0) := (rx1).cell 0
 have cx1_1 : w9.cell? ⟨w8.heap.size, 1, none⟩ = some (.slice x1A1 x1n1 x1c1) := (rx1).cell 1
 have cx1_2 : w9.cell? ⟨w8.heap.size, 2, none⟩ = some (.slice x1A2 x1n2 x1c2) := (rx1).cell 2
 have cx1_3 : w9.cell? ⟨w8.heap.size, 3, none⟩ = some (.int .i64 d1.2.2.2.1) := (rx1).cell 3
 have cx1_4 : w9.cell? ⟨w8.heap.size, 4, none⟩ = some (.int .i64 d1.2.2.2.2.1) := (rx1).cell 4
 have cx1_5 : w9.cell? ⟨w8.heap.size, 5, none⟩ = some (.int .i64 d1.2.2.2.2.2) := (rx1).cell 5
 refine (implPeakOk _ _ _ _ _ d0 d1 _ ox0.rd ox1.rd h0.out h1.out).mono ?_
 rintro e w10 ⟨he, bb⟩
 rw [HV.out] at he
 subst he
 replace ox0 := ox0.next bb
 replace rx0 := rx0.next bb
 replace ox1 := ox1.next bb
 replace rx1 := rx1.next bb
 replace bel := next_trans bel bb
 have zw10 := bb.size
 clear bb
 clear cA0_0 cA0_1 cA1_0 cA1_1 cA1_2 cA1_3 cA1_4 cA1_5 cx0_0 cx0_1 cx1_0 cx1_1 cx1_2 cx1_3 cx1_4 cx1_5
 have cA0_0 : w10.cell? ⟨w.heap.size, 0, none⟩ = some (v0_0) := (rA0.next bel).cell 0
 have cA0_1 : w10.cell? ⟨w.heap.size, 1, none⟩ = some (v0_1) := (rA0.next bel).cell 1
 have cA1_0 : w10.cell? ⟨w.heap.size + 1, 0, none⟩ = some (v1_0) := (rA1.next bel).cell 0
 have cA1_1 : w10.cell? ⟨w.heap.size + 1, 1, none⟩ = some (v1_1) := (rA1.next bel).cell 1
 have cA1_2 : w10.cell? ⟨w.heap.size + 1, 2, none⟩ = some (v1_2) := (rA1.next bel).cell 2
 have cA1_3 : w10.cell? ⟨w.heap.size + 1, 3, none⟩ = some (.int .i64 d1.2.2.2.1) := (rA1.next bel).cell 3
 have cA1_4 : w10.cell? ⟨w.heap.size + 1, 4, none⟩ = some (.int .i64 d1.2.2.2.2.1) := (rA1.next bel).cell 4
 have cA1_5 : w10.cell? ⟨w.heap.size + 1, 5, none⟩ = some (.int .i64 d1.2.2.2.2.2) := (rA1.next bel).cell 5
 have cx0_0 : w10.cell? ⟨w6.heap.size, 0, none⟩ = some (.slice x0A0 x0n0 x0c0) := (rx0).cell 0
 have cx0_1 : w10.cell? ⟨w6.heap.size, 1, none⟩ = some (.slice x0A1 x0n1 x0c1) := (rx0).cell 1
 have cx1_0 : w10.cell? ⟨w8.heap.size, 0, none⟩ = some (.slice x1A0 x1n0 x1c0) := (rx1).cell 0
 have cx1_1 : w10.cell? ⟨w8.heap.size, 1, none⟩ = some (.slice x1A1 x1n1 x1c1) := (rx1).cell 1
 have cx1_2 : w10.cell? ⟨w8.heap.size, 2, none⟩ = some (.slice x1A2 x1n2 x1c2) := (rx1).cell 2
 have cx1_3 : w10.cell? ⟨w8.heap.size, 3, none⟩ = some (.int .i64 d1.2.2.2.1) := (rx1).cell 3
 have cx1_4 : w10.cell? ⟨w8.heap.size, 4, none⟩ = some (.int .i64 d1.2.2.2.2.1) := (rx1).cell 4
 have cx1_5 : w10.cell? ⟨w8.heap.size, 5, none⟩ = some (.int .i64 d1.2.2.2.2.2) := (rx1).cell 5
 go_wp2_with fail
 replace ox0 := ox0.drew
 replace rx0 := rx0.drew
 replace ox1 := ox1.drew
 replace rx1 := rx1.drew
 replace bel := bel.drew
 have zdw10 := (drew_below w10).size
 go_region_held3 (fun w' => w'.cell? ⟨w6.heap.size, 0, none⟩ = some (.slice x0A0 x0n0 x0c0) ∧ w'.cell? ⟨w6.heap.size, 1, none⟩ = some (.slice x0A1 x0n1 x0c1) ∧ w'.cell? ⟨w.heap.size, 0, none⟩ = some (v0_0) ∧ w'.cell? ⟨w.heap.size, 1, none⟩ = some (v0_1))
  (go_keep)
  (first
   | (go_at_call 12; refine (toK_System _ _ d0 _ (s0.next bel) h0.out).mono ?_; rintro e w11 ⟨t0A0, t0n0, t0c0, t0A1, t0n1, t0c1, rfl, ot, bb⟩; replace ox0 := ox0.next bb; replace rx0 := rx0.next bb; replace ox1 := ox1.next bb; replace rx1 := rx1.next bb; replace bel := next_trans bel bb; have k0_0w11 : w11.cell? ⟨w.heap.size, 0, none⟩ = some (v0_0) := (rA0.next bel).cell 0; have k0_1w11 : w11.cell? ⟨w.heap.size, 1, none⟩ = some (v0_1) := (rA0.next bel).cell 1; have l0_0w11 : w11.cell? ⟨w6.heap.size, 0, none⟩ = some (.slice x0A0 x0n0 x0c0) := rx0.cell 0; have l0_1w11 : w11.cell? ⟨w6.heap.size, 1, none⟩ = some (.slice x0A1 x0n1 x0c1) := rx0.cell 1; have zqw11 := bb.size; clear bb)
   | (go_at_call 15; refine (eqK_System _ _ _ _ d0 _ ox0.rd ot.rd h0.out).mono ?_; rintro e w12 ⟨rfl, bb⟩; replace ox0 := ox0.next bb; replace rx0 := rx0.next bb; replace ox1 := ox1.next bb; replace rx1 := rx1.next bb; replace bel := next_trans bel bb; have k0_0w12 : w12.cell? ⟨w.heap.size, 0, none⟩ = some (v0_0) := (rA0.next bel).cell 0; have k0_1w12 : w12.cell? ⟨w.heap.size, 1, none⟩ = some (v0_1) := (rA0.next bel).cell 1; have l0_0w12 : w12.cell? ⟨w6.heap.size, 0, none⟩ = some (.slice x0A0 x0n0 x0c0) := rx0.cell 0; have l0_1w12 : w12.cell? ⟨w6.heap.size, 1, none⟩ = some (.slice x0A1 x0n1 x0c1) := rx0.cell 1; have zqw12 := bb.size; clear bb ot))
 clear k0_0w11 l0_0w11 k0_1w11 l0_1w11 k0_0w12 l0_0w12 k0_1w12 l0_1w12
 clear ox0 rx0
 clear cA0_0 cA0_1 cA1_0 cA1_1 cA1_2 cA1_3 cA1_4 cA1_5 cx0_0 cx0_1 cx1_0 cx1_1 cx1_2 cx1_3 cx1_4 cx1_5
 have cA0_0 : w12.cell? ⟨w.heap.size, 0, none⟩ = some (v0_0) := (rA0.next bel).cell 0
 have cA0_1 : w12.cell? ⟨w.heap.size, 1, none⟩ = some (v0_1) := (rA0.next bel).cell 1
 have cA1_0 : w12.cell? ⟨w.heap.size + 1, 0, none⟩ = some (v1_0) := (rA1.next bel).cell 0
 have cA1_1 : w12.cell? ⟨w.heap.size + 1, 1, none⟩ = some (v1_1) := (rA1.next bel).cell 1
 have cA1_2 : w12.cell? ⟨w.heap.size + 1, 2, none⟩ = some (v1_2) := (rA1.next bel).cell 2
 have cA1_3 : w12.cell? ⟨w.heap.size + 1, 3, none⟩ = some (.int .i64 d1.2.2.2.1) := (rA1.next bel).cell 3
 have cA1_4 : w12.cell? ⟨w.heap.size + 1, 4, none⟩ = some (.int .i64 d1.2.2.2.2.1) := (rA1.next bel).cell 4
 have cA1_5 : w12.cell? ⟨w.heap.size + 1, 5, none⟩ = some (.int .i64 d1.2.2.2.2.2) := (rA1.next bel).cell 5
 have cx1_0 : w12.cell? ⟨w8.heap.size, 0, none⟩ = some (.slice x1A0 x1n0 x1c0) := (rx1).cell 0
 have cx1_1 : w12.cell? ⟨w8.heap.size, 1, none⟩ = some (.slice x1A1 x1n1 x1c1) := (rx1).cell 1
 have cx1_2 : w12.cell? ⟨w8.heap.size, 2, none⟩ = some (.slice x1A2 x1n2 x1c2) := (rx1).cell 2
 have cx1_3 : w12.cell? ⟨w8.heap.size, 3, none⟩ = some (.int .i64 d1.2.2.2.1) := (rx1).cell 3
 have cx1_4 : w12.cell? ⟨w8.heap.size, 4, none⟩ = some (.int .i64 d1.2.2.2.2.1) := (rx1).cell 4
 have cx1_5 : w12.cell? ⟨w8.heap.size, 5, none⟩ = some (.int .i64 d1.2.2.2.2.2) := (rx1).cell 5
 go_wp2_with fail
 replace ox1 := ox1.drew
 replace rx1 := rx1.drew
 replace bel := bel.drew
 have zdw12 := (drew_below w12).size
 go_region_held3 (fun w' => w'.cell? ⟨w8.heap.size, 0, none⟩ = some (.slice x1A0 x1n0 x1c0) ∧ w'.cell? ⟨w8.heap.size, 1, none⟩ = some (.slice x1A1 x1n1 x1c1) ∧ w'.cell? ⟨w8.heap.size, 2, none⟩ = some (.slice x1A2 x1n2 x1c2) ∧ w'.cell? ⟨w8.heap.size, 3, none⟩ = some (.int .i64 d1.2.2.2.1) ∧ w'.cell? ⟨w8.heap.size, 4, none⟩ = some (.int .i64 d1.2.2.2.2.1) ∧ w'.cell? ⟨w8.heap.size, 5, none⟩ = some (.int .i64 d1.2.2.2.2.2) ∧ w'.cell? ⟨w.heap.size + 1, 0, none⟩ = some (v1_0) ∧ w'.cell? ⟨w.heap.size + 1, 1, none⟩ = some (v1_1) ∧ w'.cell? ⟨w.heap.size + 1, 2, none⟩ = some (v1_2) ∧ w'.cell? ⟨w.heap.size + 1, 3, none⟩ = some (.int .i64 d1.2.2.2.1) ∧ w'.cell? ⟨w.heap.size + 1, 4, none⟩ = some (.int .i64 d1.2.2.2.2.1) ∧ w'.cell? ⟨w.heap.size + 1, 5, none⟩ = some (.int .i64 d1.2.2.2.2.2))
  (go_keep)
  (first
   | (go_at_call 31; refine (toK_Peak _ _ _ d1 _ (s1.next bel) h1.out).mono ?_; rintro e w13 ⟨t1A0, t1n0, t1c0, t1A1, t1n1, t1c1, t1A2, t1n2, t1c2, rfl, ot, bb⟩; replace ox1 := ox1.next bb; replace rx1 := rx1.next bb; replace bel := next_trans bel bb; have k1_0w13 : w13.cell? ⟨w.heap.size + 1, 0, none⟩ = some (v1_0) := (rA1.next bel).cell 0; have k1_1w13 : w13.cell? ⟨w.heap.size + 1, 1, none⟩ = some (v1_1) := (rA1.next bel).cell 1; have k1_2w13 : w13.cell? ⟨w.heap.size + 1, 2, none⟩ = some (v1_2) := (rA1.next bel).cell 2; have k1_3w13 : w13.cell? ⟨w.heap.size + 1, 3, none⟩ = some (.int .i64 d1.2.2.2.1) := (rA1.next bel).cell 3; have k1_4w13 : w13.cell? ⟨w.heap.size + 1, 4, none⟩ = some (.int .i64 d1.2.2.2.2.1) := (rA1.next bel).cell 4; have k1_5w13 : w13.cell? ⟨w.heap.size + 1, 5, none⟩ = some (.int .i64 d1.2.2.2.2.2) := (rA1.next bel).cell 5; have l1_0w13 : w13.cell? ⟨w8.heap.size, 0, none⟩ = some (.slice x1A0 x1n0 x1c0) := rx1.cell 0; have l1_1w13 : w13.cell? ⟨w8.heap.size, 1, none⟩ = some (.slice x1A1 x1n1 x1c1) := rx1.cell 1; have l1_2w13 : w13.cell? ⟨w8.heap.size, 2, none⟩ = some (.slice x1A2 x1n2 x1c2) := rx1.cell 2; have l1_3w13 : w13.cell? ⟨w8.heap.size, 3, none⟩ = some (.int .i64 d1.2.2.2.1) := rx1.cell 3; have l1_4w13 : w13.cell? ⟨w8.heap.size, 4, none⟩ = some (.int .i64 d1.2.2.2.2.1) := rx1.cell 4; have l1_5w13 : w13.cell? ⟨w8.heap.size, 5, none⟩ = some (.int .i64 d1.2.2.2.2.2) := rx1.cell 5; have zqw13 := bb.size; clear bb)
   | (go_at_call 21; refine (eqK_Peak _ _ _ _ _ _ d1 _ ox1.rd ot.rd h1.out).mono ?_; rintro e w14 ⟨rfl, bb⟩; replace ox1 := ox1.next bb; replace rx1 := rx1.next bb; replace bel := next_trans bel bb; have k1_0w14 : w14.cell? ⟨w.heap.size + 1, 0, none⟩ = some (v1_0) := (rA1.next bel).cell 0; have k1_1w14 : w14.cell? ⟨w.heap.size + 1, 1, none⟩ = some (v1_1) := (rA1.next bel).cell 1; have k1_2w14 : w14.cell? ⟨w.heap.size + 1, 2, none⟩ = some (v1_2) := (rA1.next bel).cell 2; have k1_3w14 : w14.cell? ⟨w.heap.size + 1, 3, none⟩ = some (.int .i64 d1.2.2.2.1) := (rA1.next bel).cell 3; have k1_4w14 : w14.cell? ⟨w.heap.size + 1, 4, none⟩ = some (.int .i64 d1.2.2.2.2.1) := (rA1.next bel).cell 4; have k1_5w14 : w14.cell? ⟨w.heap.size + 1, 5, none⟩ = some (.int .i64 d1.2.2.2.2.2) := (rA1.next bel).cell 5; have l1_0w14 : w14.cell? ⟨w8.heap.size, 0, none⟩ = some (.slice x1A0 x1n0 x1c0) := rx1.cell 0; have l1_1w14 : w14.cell? ⟨w8.heap.size, 1, none⟩ = some (.slice x1A1 x1n1 x1c1) := rx1.cell 1; have l1_2w14 : w14.cell? ⟨w8.heap.size, 2, none⟩ = some (.slice x1A2 x1n2 x1c2) := rx1.cell 2; have l1_3w14 : w14.cell? ⟨w8.heap.size, 3, none⟩ = some (.int .i64 d1.2.2.2.1) := rx1.cell 3; have l1_4w14 : w14.cell? ⟨w8.heap.size, 4, none⟩ = some (.int .i64 d1.2.2.2.2.1) := rx1.cell 4; have l1_5w14 : w14.cell? ⟨w8.heap.size, 5, none⟩ = some (.int .i64 d1.2.2.2.2.2) := rx1.cell 5; have zqw14 := bb.size; clear bb ot))
 clear k1_0w13 l1_0w13 k1_1w13 l1_1w13 k1_2w13 l1_2w13 k1_3w13 l1_3w13 k1_4w13 l1_4w13 k1_5w13 l1_5w13 k1_0w14 l1_0w14 k1_1w14 l1_1w14 k1_2w14 l1_2w14 k1_3w14 l1_3w14 k1_4w14 l1_4w14 k1_5w14 l1_5w14
 clear ox1 rx1
 clear cA0_0 cA0_1 cA1_0 cA1_1 cA1_2 cA1_3 cA1_4 cA1_5 cx1_0 cx1_1 cx1_2 cx1_3 cx1_4 cx1_5
 have cA0_0 : w14.cell? ⟨w.heap.size, 0, none⟩ = some (v0_0) := (rA0.next bel).cell 0
 have cA0_1 : w14.cell? ⟨w.heap.size, 1, none⟩ = some (v0_1) := (rA0.next bel).cell 1
 have cA1_0 : w14.cell? ⟨w.heap.size + 1, 0, none⟩ = some (v1_0) := (rA1.next bel).cell 0
 have cA1_1 : w14.cell? ⟨w.heap.size + 1, 1, none⟩ = some (v1_1) := (rA1.next bel).cell 1
 have cA1_2 : w14.cell? ⟨w.heap.size + 1, 2, none⟩ = some (v1_2) := (rA1.next bel).cell 2
 have cA1_3 : w14.cell? ⟨w.heap.size + 1, 3, none⟩ = some (.int .i64 d1.2.2.2.1) := (rA1.next bel).cell 3
 have cA1_4 : w14.cell? ⟨w.heap.size + 1, 4, none⟩ = some (.int .i64 d1.2.2.2.2.1) := (rA1.next bel).cell 4
 have cA1_5 : w14.cell? ⟨w.heap.size + 1, 5, none⟩ = some (.int .i64 d1.2.2.2.2.2) := (rA1.next bel).cell 5
 have F := Lib.hid (bW.trans (bel.mono bW.size))
 clear bel bW cA0_0 cA0_1 cA1_0 cA1_1 cA1_2 cA1_3 cA1_4 cA1_5
 go_wp2
 go_ret
 exact ⟨rfl, F.out⟩
end wPeakOk
end
end Go.Proofs.Ytlaloakegajheaa
