/-
  MERGED: my texts WFnUnified, one behind the other, as they are. By an AI agent.
-/
import Derived.Test.YtobedfmagjgdcaaMFnUnified5
namespace Go.Proofs.Ytobedfmagjgdcaa
section
open Go.Lib (hid)
namespace wFnUnified
open Go.RowKit base ints sig same term cursor termOk marks app sym segs segsHelp dice inside Go.Proofs.Ytobedfmagjgdcaa.look drawVar drawMatched drawUni drawSS varsOf substOk gives filled shifted sameSubst compMath compSpec compImpl unifMath unifLaw unified unifImpl bigs lawT
set_option maxRecDepth 100000 in
set_option maxHeartbeats 16000000 in
theorem law (A : Option Addr) (n c : Nat) (_ : List Int) (w : World) (h : SegB w w.heap.size A n) (hN : n ≤ 9223372036854775807) :
  Calls Try.prog 8 #[.slice A n c] w (Fine w) := by
 by_cases hbig : n ≤ 4096
 ·have LB := hid (bigAns A n c false w (by simp; omega) hN)
  go_enter Try.func8, Try.ntmps8
  go_wp2_with fail
  refine LB.out.mono ?_
  rintro e w' ⟨rfl, rfl⟩
  clear LB
  go_wp2_with fail
  refine (drawUnified A n c w h hbig).mono ?_
  rintro e w2 ⟨S, sn, sc, sg, O, on, oc, a, Q, qn, qc, b, rfl, s1, s2, s3, hsn, ⟨hon, hoc⟩, ⟨hqn, hqc⟩, b2⟩
  obtain ⟨v3, h3⟩ : ∃ v, w2.heap.size = v := ⟨_, rfl⟩
  obtain ⟨W, hW⟩ : ∃ W, W = w2.alloc (.cells #[.slice S sn sc] 29) := ⟨_, rfl⟩
  have T : T1 w v3 S sn sc sg O on a Q qn b W := by
   have bb : Below w2.heap.size w2 W := by rw [hW]; exact below_alloc _ _
   exact ⟨s1.next bb, s2.next bb, s3.next bb, by rw [hW, ← h3]; exact Row.new _ _ _, next_trans b2 bb⟩
  have HW := hid hW
  have H3 := hid h3
  have c30 : (w2.alloc (.cells #[.slice S sn sc] 29)).cell? ⟨v3, 0, none⟩ = some (.slice S sn sc) := by rw [← hW]; exact T.cell
  obtain ⟨v, F, hU⟩ := isU_ex sg a b
  have HU := hid hU
  have HUB := hid (isU_symm hU)
  have HTF := hid (isU_each hU)
  have hBS := hid h
  clear h hW h3 b2 s1 s2 s3 hU
  have cT := T.cell
  go_wp2_with fail
  rw [← HW.out, H3.out]
  refine (implUnified S O Q sn sc on oc qn qc sg a b W v F HU.out T.s T.o T.q (by omega) (by omega) (by omega) hoc hqc).mono ?_
  rintro e w4 ⟨D, dn, dc, rfl, od, bb⟩
  clear c30
  replace T := T.next bb
  obtain ⟨v6, hv6⟩ : ∃ v, w4.heap.size = v := ⟨_, rfl⟩
  obtain ⟨W4, hW4⟩ : ∃ W, W = w4.alloc (.cells #[.slice D dn dc] 39) := ⟨_, rfl⟩
  have bx : Below w4.heap.size w4 W4 := by rw [hW4]; exact below_alloc _ _
  have U6 : Sv W4 v6 D dn dc F := ⟨by rw [hW4, ← hv6]; exact Row.new _ _ _, (od.segs).next bx⟩
  replace T := T.next bx
  have kT : (w4.alloc (.cells #[.slice D dn dc] 39)).cell? ⟨v3, 0, none⟩ = some (.slice S sn sc) := by rw [← hW4]; exact T.cell
  have kU6 : (w4.alloc (.cells #[.slice D dn dc] 39)).cell? ⟨v6, 0, none⟩ = some (.slice D dn dc) := by rw [← hW4]; exact U6.cell
  have HW4 := hid hW4
  have Hv6 := hid hv6
  clear bb bx od hW4 hv6
  replace cT := T.cell
  have cU6 := U6.cell
  go_wp2_with fail
  rw [← HW4.out, Hv6.out]
  refine (specUnified S O Q sn sc on oc qn qc sg a b W4 v F HU.out T.s T.o T.q (by omega) (by omega) (by omega)).mono ?_
  rintro e w6 ⟨E, en, ec, rfl, oe, bb⟩
  clear kT kU6
  replace T := T.next bb
  replace U6 := U6.next bb
  obtain ⟨v8, hv8⟩ : ∃ v, w6.heap.size = v := ⟨_, rfl⟩
  obtain ⟨W6, hW6⟩ : ∃ W, W = w6.alloc (.cells #[.slice E en ec] 39) := ⟨_, rfl⟩
  have bx : Below w6.heap.size w6 W6 := by rw [hW6]; exact below_alloc _ _
  have U8 : Sv W6 v8 E en ec F := ⟨by rw [hW6, ← hv8]; exact Row.new _ _ _, (oe.segs).next bx⟩
  replace T := T.next bx
  replace U6 := U6.next bx
  have kT : (w6.alloc (.cells #[.slice E en ec] 39)).cell? ⟨v3, 0, none⟩ = some (.slice S sn sc) := by rw [← hW6]; exact T.cell
  have kU6 : (w6.alloc (.cells #[.slice E en ec] 39)).cell? ⟨v6, 0, none⟩ = some (.slice D dn dc) := by rw [← hW6]; exact U6.cell
  have kU8 : (w6.alloc (.cells #[.slice E en ec] 39)).cell? ⟨v8, 0, none⟩ = some (.slice E en ec) := by rw [← hW6]; exact U8.cell
  have HW6 := hid hW6
  have Hv8 := hid hv8
  clear bb bx oe hW6 hv8
  replace cT := T.cell
  replace cU6 := U6.cell
  have cU8 := U8.cell
  cases v with
  | false =>
   clear U8 kU8 cU8 HUB
   go_wp2_with fail
   rw [← HW6.out, Hv8.out]
   refine (drawFilled A n c _ (segB_below hBS.out T.bel) hbig).mono ?_
   rintro e w8 ⟨S', sn', sc', sg', B, m, cB, us, V, vn, vc, vs, rfl, -, q2, q3, -, hut, hvn, bb⟩
   clear kT kU6
   obtain ⟨v10, h10⟩ : ∃ v, w8.heap.size = v := ⟨_, rfl⟩
   obtain ⟨W9, hW9⟩ : ∃ W, W = (w8.alloc (.cells #[.slice S' sn' sc'] 29)).alloc (.cells #[.slice B m cB] 39) := ⟨_, rfl⟩
   have bb9 : Below w8.heap.size w8 W9 := by rw [hW9]; exact (below_alloc _ _).trans ((below_alloc _ _).mono (by simp))
   have U11 : Sv W9 (v10 + 1) B m cB us := ⟨by rw [hW9, ← h10]; have := Row.new (w8.alloc (.cells #[.slice S' sn' sc'] 29)) 39 #[.slice B m cB]; simpa using this, q2.next bb9⟩
   replace T := T.next bb
   replace U6 := U6.next bb
   replace T := T.next bb9
   replace U6 := U6.next bb9
   have HW9 := hid hW9
   have H10 := hid h10
   have kT : ((w8.alloc (.cells #[.slice S' sn' sc'] 29)).alloc (.cells #[.slice B m cB] 39)).cell? ⟨v3, 0, none⟩ = some (.slice S sn sc) := by rw [← hW9]; exact T.cell
   have kU6 : ((w8.alloc (.cells #[.slice S' sn' sc'] 29)).alloc (.cells #[.slice B m cB] 39)).cell? ⟨v6, 0, none⟩ = some (.slice D dn dc) := by rw [← hW9]; exact U6.cell
   have kU11 : ((w8.alloc (.cells #[.slice S' sn' sc'] 29)).alloc (.cells #[.slice B m cB] 39)).cell? ⟨v10 + 1, 0, none⟩ = some (.slice B m cB) := by rw [← hW9]; exact U11.cell
   obtain ⟨b1, hb1⟩ : ∃ z, filledB sg us a = z := ⟨_, rfl⟩
   obtain ⟨xs, hxs⟩ : ∃ z, filledL sg us a = z := ⟨_, rfl⟩
   have HB1 := hid hb1
   have HXS := hid hxs
   have hxs60 : xs.length ≤ 65 := by rw [← hxs]; exact Nat.le_trans (filled_len _ _ _) (by omega)
   obtain ⟨b2, hb2⟩ : ∃ z, filledB sg us b = z := ⟨_, rfl⟩
   obtain ⟨ys, hys⟩ : ∃ z, filledL sg us b = z := ⟨_, rfl⟩
   have HB2 := hid hb2
   have HYS := hid hys
   have hys60 : ys.length ≤ 65 := by rw [← hys]; exact Nat.le_trans (filled_len _ _ _) (by omega)
   clear bb bb9 q2 q3 hW9 h10 hb1 hb2 hxs hys
   replace cT := T.cell
   replace cU6 := U6.cell
   have cU11 := U11.cell
   go_wp2_with fail
   rw [← HW9.out, H10.out]
   refine (specFilledO S B O sn sc m cB on oc sg us a W9 T.s U11.s T.o (by omega) hut (by omega)).mono ?_
   rintro e w10 ⟨X, xn, xc, he, ox, bb⟩
   rw [HB1.out] at he
   subst he
   rw [HXS.out] at ox
   have sX := Own.seg ox
   have hxn : xn ≤ 65 := by rw [Own.len ox]; exact hxs60
   replace T := T.next bb
   replace U6 := U6.next bb
   replace U11 := U11.next bb
   clear kT kU6 kU11
   clear bb ox
   replace cT := T.cell
   replace cU6 := U6.cell
   replace cU11 := U11.cell
   go_wp2_with fail
   refine (specFilledO S B Q sn sc m cB qn qc sg us b w10 T.s U11.s T.q (by omega) hut (by omega)).mono ?_
   rintro e w11 ⟨Y, yn, yc, he, ox, bb⟩
   rw [HB2.out] at he
   subst he
   rw [HYS.out] at ox
   have sY := Own.seg ox
   have hyn : yn ≤ 65 := by rw [Own.len ox]; exact hys60
   replace T := T.next bb
   replace U6 := U6.next bb
   replace U11 := U11.next bb
   replace sX := sX.next bb
   clear bb ox
   replace cT := T.cell
   replace cU6 := U6.cell
   replace cU11 := U11.cell
   cases b1 with
   | false =>
    clear U6 cU6
    clear U11 cU11
    clear sX
    clear sY
    go_wp2_with fail
    refine (implUnifiesIn S O Q sn sc on oc qn qc sg a b w11 false F HU.out T.s T.o T.q (by omega) (by omega) (by omega) hoc hqc).mono ?_
    rintro e w30 ⟨rfl, bb⟩
    replace T := T.next bb
    clear bb
    replace cT := T.cell
    have TB := hid T.bel
    clear T cT
    go_wp2
    go_ret
    exact ⟨rfl, TB.out⟩
   | true =>
    cases b2 with
    | false =>
     clear U6 cU6
     clear U11 cU11
     clear sX
     clear sY
     go_wp2_with fail
     refine (implUnifiesIn S O Q sn sc on oc qn qc sg a b w11 false F HU.out T.s T.o T.q (by omega) (by omega) (by omega) hoc hqc).mono ?_
     rintro e w30 ⟨rfl, bb⟩
     replace T := T.next bb
     clear bb
     replace cT := T.cell
     have TB := hid T.bel
     clear T cT
     go_wp2
     go_ret
     exact ⟨rfl, TB.out⟩
    | true =>
     go_wp2_with fail
     refine (specSame X Y xn yn xc yc xs ys w11 sX sY (by omega) (by omega)).mono ?_
     rintro e w12 ⟨he, d, hd⟩
     have bb : Below w11.heap.size w11 w12 := by rw [hd]; exact below_drewN w11 d
     clear hd
     replace T := T.next bb
     replace U6 := U6.next bb
     replace U11 := U11.next bb
     replace sX := sX.next bb
     replace sY := sY.next bb
     clear bb
     replace cT := T.cell
     replace cU6 := U6.cell
     replace cU11 := U11.cell
     by_cases hxy : xs = ys
     ·rw [decide_eq_true hxy] at he
      subst he
      exact absurd (isU_true HU.out HB1.out HB2.out (by rw [HXS.out, HYS.out]; exact hxy)) (by simp)
     ·rw [decide_eq_false hxy] at he
      subst he
      clear hxy
      clear U6 cU6
      clear U11 cU11
      clear sX
      clear sY
      go_wp2_with fail
      refine (implUnifiesIn S O Q sn sc on oc qn qc sg a b w12 false F HU.out T.s T.o T.q (by omega) (by omega) (by omega) hoc hqc).mono ?_
      rintro e w30 ⟨rfl, bb⟩
      replace T := T.next bb
      clear bb
      replace cT := T.cell
      have TB := hid T.bel
      clear T cT
      go_wp2
      go_ret
      exact ⟨rfl, TB.out⟩
  | true =>
   have HF := hid (isU_facts HU.out)
   have HSF := hid HF.out.2.1
   have HFA := hid HF.out.2.2.1
   have HFB := hid HF.out.2.2.2.1
   obtain ⟨fa, hfa⟩ : ∃ z, filledL sg F a = z := ⟨_, rfl⟩
   have HLA := hid hfa
   have HLB := hid (HF.out.2.2.2.2.1.symm.trans hfa)
   have HL60 := hid (show fa.length ≤ 65 by rw [← hfa]; exact Nat.le_trans (filled_len _ _ _) (by omega))
   clear hfa
   go_wp2_with fail
   rw [← HW6.out, Hv8.out]
   refine (specSameSubst S D E sn sc dn dc en ec sg F F W6 T.s U6.s U8.s (by omega) HTF.out HTF.out).mono ?_
   rintro e wq ⟨he, bb⟩
   rw [HSF.out] at he
   subst he
   replace T := T.next bb
   replace U6 := U6.next bb
   replace U8 := U8.next bb
   clear kT kU6 kU8
   clear bb
   replace cT := T.cell
   replace cU6 := U6.cell
   replace cU8 := U8.cell
   clear U8 cU8
   go_wp2_with fail
   refine (drawFilled A n c _ (segB_below hBS.out T.bel) hbig).mono ?_
   rintro e w8 ⟨S', sn', sc', sg', B, m, cB, us, V, vn, vc, vs, rfl, -, q2, q3, -, hut, hvn, bb⟩
   obtain ⟨v10, h10⟩ : ∃ v, w8.heap.size = v := ⟨_, rfl⟩
   obtain ⟨W9, hW9⟩ : ∃ W, W = (w8.alloc (.cells #[.slice S' sn' sc'] 29)).alloc (.cells #[.slice B m cB] 39) := ⟨_, rfl⟩
   have bb9 : Below w8.heap.size w8 W9 := by rw [hW9]; exact (below_alloc _ _).trans ((below_alloc _ _).mono (by simp))
   have U11 : Sv W9 (v10 + 1) B m cB us := ⟨by rw [hW9, ← h10]; have := Row.new (w8.alloc (.cells #[.slice S' sn' sc'] 29)) 39 #[.slice B m cB]; simpa using this, q2.next bb9⟩
   replace T := T.next bb
   replace U6 := U6.next bb
   replace T := T.next bb9
   replace U6 := U6.next bb9
   have HW9 := hid hW9
   have H10 := hid h10
   have kT : ((w8.alloc (.cells #[.slice S' sn' sc'] 29)).alloc (.cells #[.slice B m cB] 39)).cell? ⟨v3, 0, none⟩ = some (.slice S sn sc) := by rw [← hW9]; exact T.cell
   have kU6 : ((w8.alloc (.cells #[.slice S' sn' sc'] 29)).alloc (.cells #[.slice B m cB] 39)).cell? ⟨v6, 0, none⟩ = some (.slice D dn dc) := by rw [← hW9]; exact U6.cell
   have kU11 : ((w8.alloc (.cells #[.slice S' sn' sc'] 29)).alloc (.cells #[.slice B m cB] 39)).cell? ⟨v10 + 1, 0, none⟩ = some (.slice B m cB) := by rw [← hW9]; exact U11.cell
   obtain ⟨b1, hb1⟩ : ∃ z, filledB sg us a = z := ⟨_, rfl⟩
   obtain ⟨xs, hxs⟩ : ∃ z, filledL sg us a = z := ⟨_, rfl⟩
   have HB1 := hid hb1
   have HXS := hid hxs
   have hxs60 : xs.length ≤ 65 := by rw [← hxs]; exact Nat.le_trans (filled_len _ _ _) (by omega)
   obtain ⟨b2, hb2⟩ : ∃ z, filledB sg us b = z := ⟨_, rfl⟩
   obtain ⟨ys, hys⟩ : ∃ z, filledL sg us b = z := ⟨_, rfl⟩
   have HB2 := hid hb2
   have HYS := hid hys
   have hys60 : ys.length ≤ 65 := by rw [← hys]; exact Nat.le_trans (filled_len _ _ _) (by omega)
   clear bb bb9 q2 q3 hW9 h10 hb1 hb2 hxs hys
   replace cT := T.cell
   replace cU6 := U6.cell
   have cU11 := U11.cell
   go_wp2_with fail
   rw [← HW9.out, H10.out]
   refine (specFilledO S B O sn sc m cB on oc sg us a W9 T.s U11.s T.o (by omega) hut (by omega)).mono ?_
   rintro e w10 ⟨X, xn, xc, he, ox, bb⟩
   rw [HB1.out] at he
   subst he
   rw [HXS.out] at ox
   have sX := Own.seg ox
   have hxn : xn ≤ 65 := by rw [Own.len ox]; exact hxs60
   replace T := T.next bb
   replace U6 := U6.next bb
   replace U11 := U11.next bb
   clear kT kU6 kU11
   clear bb ox
   replace cT := T.cell
   replace cU6 := U6.cell
   replace cU11 := U11.cell
   go_wp2_with fail
   refine (specFilledO S B Q sn sc m cB qn qc sg us b w10 T.s U11.s T.q (by omega) hut (by omega)).mono ?_
   rintro e w11 ⟨Y, yn, yc, he, ox, bb⟩
   rw [HB2.out] at he
   subst he
   rw [HYS.out] at ox
   have sY := Own.seg ox
   have hyn : yn ≤ 65 := by rw [Own.len ox]; exact hys60
   replace T := T.next bb
   replace U6 := U6.next bb
   replace U11 := U11.next bb
   replace sX := sX.next bb
   clear bb ox
   replace cT := T.cell
   replace cU6 := U6.cell
   replace cU11 := U11.cell
   cases b1 with
   | false =>
    clear sX
    clear sY
    clear U11 cU11
    go_wp2_with fail
    refine (implFilled S D O sn sc dn dc on oc sg F a w11 T.s U6.s T.o (by omega) HTF.out (by omega)).mono ?_
    rintro e w20 ⟨P1, p1n, p1c, he, ox, bb⟩
    rw [HFA.out] at he
    subst he
    rw [HLA.out] at ox
    have sP1 := Own.seg ox
    have hp1n : p1n ≤ 65 := by rw [Own.len ox]; exact HL60.out
    replace T := T.next bb
    replace U6 := U6.next bb
    clear bb ox
    replace cT := T.cell
    replace cU6 := U6.cell
    go_wp2_with fail
    refine (implFilled S D Q sn sc dn dc qn qc sg F b w20 T.s U6.s T.q (by omega) HTF.out (by omega)).mono ?_
    rintro e w21 ⟨P2, p2n, p2c, he, ox, bb⟩
    rw [HFB.out] at he
    subst he
    rw [HLB.out] at ox
    have sP2 := Own.seg ox
    have hp2n : p2n ≤ 65 := by rw [Own.len ox]; exact HL60.out
    replace T := T.next bb
    replace U6 := U6.next bb
    replace sP1 := sP1.next bb
    clear bb ox
    replace cT := T.cell
    replace cU6 := U6.cell
    go_wp2_with fail
    refine (implComposed S D D sn sc dn dc dn dc sg F F w21 T.s U6.s U6.s (by omega) HTF.out HTF.out).mono ?_
    rintro e w22 ⟨G, gn, gc, he, og, bb⟩
    obtain ⟨z, hz⟩ : ∃ z, composedB sg F F = z := ⟨_, rfl⟩
    have HZ := hid hz
    rw [hz] at he
    subst he
    clear hz
    replace T := T.next bb
    replace U6 := U6.next bb
    replace sP1 := sP1.next bb
    replace sP2 := sP2.next bb
    obtain ⟨v21, hv21⟩ : ∃ v, w22.heap.size = v := ⟨_, rfl⟩
    obtain ⟨W22, hW22⟩ : ∃ W, W = w22.alloc (.cells #[.slice G gn gc] 39) := ⟨_, rfl⟩
    have bx : Below w22.heap.size w22 W22 := by rw [hW22]; exact below_alloc _ _
    have U21 : Sv W22 v21 G gn gc (composedI sg F F) := ⟨by rw [hW22, ← hv21]; exact Row.new _ _ _, (og.segs).next bx⟩
    replace T := T.next bx
    replace U6 := U6.next bx
    replace sP1 := sP1.next bx
    replace sP2 := sP2.next bx
    have kT : (w22.alloc (.cells #[.slice G gn gc] 39)).cell? ⟨v3, 0, none⟩ = some (.slice S sn sc) := by rw [← hW22]; exact T.cell
    have kU6 : (w22.alloc (.cells #[.slice G gn gc] 39)).cell? ⟨v6, 0, none⟩ = some (.slice D dn dc) := by rw [← hW22]; exact U6.cell
    have kU21 : (w22.alloc (.cells #[.slice G gn gc] 39)).cell? ⟨v21, 0, none⟩ = some (.slice G gn gc) := by rw [← hW22]; exact U21.cell
    have HW22 := hid hW22
    have Hv21 := hid hv21
    clear bb bx og hW22 hv21
    replace cT := T.cell
    replace cU6 := U6.cell
    have cU21 := U21.cell
    go_wp2_with fail
    rw [← HW22.out, Hv21.out]
    refine (implSame P1 P2 p1n p2n p1c p2c fa fa W22 sP1 sP2 (by omega) (by omega)).mono ?_
    rintro e w23 ⟨he, d, hd⟩
    have bb : Below W22.heap.size W22 w23 := by rw [hd]; exact below_drewN W22 d
    rw [decide_eq_true rfl] at he
    subst he
    clear hd
    replace T := T.next bb
    replace U6 := U6.next bb
    replace sP1 := sP1.next bb
    replace sP2 := sP2.next bb
    replace U21 := U21.next bb
    clear kT kU6 kU21
    clear bb
    replace cT := T.cell
    replace cU6 := U6.cell
    replace cU21 := U21.cell
    clear sP1
    clear sP2
    cases z with
    | false =>
     clear U21 cU21
     clear HZ
     go_wp2_with fail
     refine (implUnifiesIn S Q O sn sc qn qc on oc sg b a w23 true F HUB.out T.s T.q T.o (by omega) (by omega) (by omega) hqc hoc).mono ?_
     rintro e w30 ⟨rfl, bb⟩
     replace T := T.next bb
     replace U6 := U6.next bb
     clear bb
     replace cT := T.cell
     replace cU6 := U6.cell
     have TB := hid T.bel
     clear T cT
     clear U6 cU6
     go_wp2
     go_ret
     exact ⟨rfl, TB.out⟩
    | true =>
     have HSS := hid (HF.out.2.2.2.2.2.1 HZ.out)
     go_wp2_with fail
     refine (implSameSubst S G D sn sc gn gc dn dc sg (composedI sg F F) F w23 T.s U21.s U6.s (by omega) composed_tot HTF.out).mono ?_
     rintro e w24 ⟨he, bb⟩
     rw [HSS.out] at he
     subst he
     replace T := T.next bb
     replace U6 := U6.next bb
     replace U21 := U21.next bb
     clear bb HZ HSS
     replace cT := T.cell
     replace cU6 := U6.cell
     replace cU21 := U21.cell
     clear U21 cU21
     go_wp2_with fail
     refine (implUnifiesIn S Q O sn sc qn qc on oc sg b a w24 true F HUB.out T.s T.q T.o (by omega) (by omega) (by omega) hqc hoc).mono ?_
     rintro e w30 ⟨rfl, bb⟩
     replace T := T.next bb
     replace U6 := U6.next bb
     clear bb
     replace cT := T.cell
     replace cU6 := U6.cell
     have TB := hid T.bel
     clear T cT
     clear U6 cU6
     go_wp2
     go_ret
     exact ⟨rfl, TB.out⟩
   | true =>
    cases b2 with
    | false =>
     clear sX
     clear sY
     clear U11 cU11
     go_wp2_with fail
     refine (implFilled S D O sn sc dn dc on oc sg F a w11 T.s U6.s T.o (by omega) HTF.out (by omega)).mono ?_
     rintro e w20 ⟨P1, p1n, p1c, he, ox, bb⟩
     rw [HFA.out] at he
     subst he
     rw [HLA.out] at ox
     have sP1 := Own.seg ox
     have hp1n : p1n ≤ 65 := by rw [Own.len ox]; exact HL60.out
     replace T := T.next bb
     replace U6 := U6.next bb
     clear bb ox
     replace cT := T.cell
     replace cU6 := U6.cell
     go_wp2_with fail
     refine (implFilled S D Q sn sc dn dc qn qc sg F b w20 T.s U6.s T.q (by omega) HTF.out (by omega)).mono ?_
     rintro e w21 ⟨P2, p2n, p2c, he, ox, bb⟩
     rw [HFB.out] at he
     subst he
     rw [HLB.out] at ox
     have sP2 := Own.seg ox
     have hp2n : p2n ≤ 65 := by rw [Own.len ox]; exact HL60.out
     replace T := T.next bb
     replace U6 := U6.next bb
     replace sP1 := sP1.next bb
     clear bb ox
     replace cT := T.cell
     replace cU6 := U6.cell
     go_wp2_with fail
     refine (implComposed S D D sn sc dn dc dn dc sg F F w21 T.s U6.s U6.s (by omega) HTF.out HTF.out).mono ?_
     rintro e w22 ⟨G, gn, gc, he, og, bb⟩
     obtain ⟨z, hz⟩ : ∃ z, composedB sg F F = z := ⟨_, rfl⟩
     have HZ := hid hz
     rw [hz] at he
     subst he
     clear hz
     replace T := T.next bb
     replace U6 := U6.next bb
     replace sP1 := sP1.next bb
     replace sP2 := sP2.next bb
     obtain ⟨v21, hv21⟩ : ∃ v, w22.heap.size = v := ⟨_, rfl⟩
     obtain ⟨W22, hW22⟩ : ∃ W, W = w22.alloc (.cells #[.slice G gn gc] 39) := ⟨_, rfl⟩
     have bx : Below w22.heap.size w22 W22 := by rw [hW22]; exact below_alloc _ _
     have U21 : Sv W22 v21 G gn gc (composedI sg F F) := ⟨by rw [hW22, ← hv21]; exact Row.new _ _ _, (og.segs).next bx⟩
     replace T := T.next bx
     replace U6 := U6.next bx
     replace sP1 := sP1.next bx
     replace sP2 := sP2.next bx
     have kT : (w22.alloc (.cells #[.slice G gn gc] 39)).cell? ⟨v3, 0, none⟩ = some (.slice S sn sc) := by rw [← hW22]; exact T.cell
     have kU6 : (w22.alloc (.cells #[.slice G gn gc] 39)).cell? ⟨v6, 0, none⟩ = some (.slice D dn dc) := by rw [← hW22]; exact U6.cell
     have kU21 : (w22.alloc (.cells #[.slice G gn gc] 39)).cell? ⟨v21, 0, none⟩ = some (.slice G gn gc) := by rw [← hW22]; exact U21.cell
     have HW22 := hid hW22
     have Hv21 := hid hv21
     clear bb bx og hW22 hv21
     replace cT := T.cell
     replace cU6 := U6.cell
     have cU21 := U21.cell
     go_wp2_with fail
     rw [← HW22.out, Hv21.out]
     refine (implSame P1 P2 p1n p2n p1c p2c fa fa W22 sP1 sP2 (by omega) (by omega)).mono ?_
     rintro e w23 ⟨he, d, hd⟩
     have bb : Below W22.heap.size W22 w23 := by rw [hd]; exact below_drewN W22 d
     rw [decide_eq_true rfl] at he
     subst he
     clear hd
     replace T := T.next bb
     replace U6 := U6.next bb
     replace sP1 := sP1.next bb
     replace sP2 := sP2.next bb
     replace U21 := U21.next bb
     clear kT kU6 kU21
     clear bb
     replace cT := T.cell
     replace cU6 := U6.cell
     replace cU21 := U21.cell
     clear sP1
     clear sP2
     cases z with
     | false =>
      clear U21 cU21
      clear HZ
      go_wp2_with fail
      refine (implUnifiesIn S Q O sn sc qn qc on oc sg b a w23 true F HUB.out T.s T.q T.o (by omega) (by omega) (by omega) hqc hoc).mono ?_
      rintro e w30 ⟨rfl, bb⟩
      replace T := T.next bb
      replace U6 := U6.next bb
      clear bb
      replace cT := T.cell
      replace cU6 := U6.cell
      have TB := hid T.bel
      clear T cT
      clear U6 cU6
      go_wp2
      go_ret
      exact ⟨rfl, TB.out⟩
     | true =>
      have HSS := hid (HF.out.2.2.2.2.2.1 HZ.out)
      go_wp2_with fail
      refine (implSameSubst S G D sn sc gn gc dn dc sg (composedI sg F F) F w23 T.s U21.s U6.s (by omega) composed_tot HTF.out).mono ?_
      rintro e w24 ⟨he, bb⟩
      rw [HSS.out] at he
      subst he
      replace T := T.next bb
      replace U6 := U6.next bb
      replace U21 := U21.next bb
      clear bb HZ HSS
      replace cT := T.cell
      replace cU6 := U6.cell
      replace cU21 := U21.cell
      clear U21 cU21
      go_wp2_with fail
      refine (implUnifiesIn S Q O sn sc qn qc on oc sg b a w24 true F HUB.out T.s T.q T.o (by omega) (by omega) (by omega) hqc hoc).mono ?_
      rintro e w30 ⟨rfl, bb⟩
      replace T := T.next bb
      replace U6 := U6.next bb
      clear bb
      replace cT := T.cell
      replace cU6 := U6.cell
      have TB := hid T.bel
      clear T cT
      clear U6 cU6
      go_wp2
      go_ret
      exact ⟨rfl, TB.out⟩
    | true =>
     go_wp2_with fail
     refine (specSame X Y xn yn xc yc xs ys w11 sX sY (by omega) (by omega)).mono ?_
     rintro e w12 ⟨he, d, hd⟩
     have bb : Below w11.heap.size w11 w12 := by rw [hd]; exact below_drewN w11 d
     clear hd
     replace T := T.next bb
     replace U6 := U6.next bb
     replace U11 := U11.next bb
     replace sX := sX.next bb
     replace sY := sY.next bb
     clear bb
     replace cT := T.cell
     replace cU6 := U6.cell
     replace cU11 := U11.cell
     by_cases hxy : xs = ys
     ·rw [decide_eq_true hxy] at he
      subst he
      have HXY := hid hxy
      clear hxy
      go_wp2_with fail
      refine (implFilled S D O sn sc dn dc on oc sg F a w12 T.s U6.s T.o (by omega) HTF.out (by omega)).mono ?_
      rintro e w20 ⟨P1, p1n, p1c, he, ox, bb⟩
      rw [HFA.out] at he
      subst he
      rw [HLA.out] at ox
      have sP1 := Own.seg ox
      have hp1n : p1n ≤ 65 := by rw [Own.len ox]; exact HL60.out
      replace T := T.next bb
      replace U6 := U6.next bb
      replace U11 := U11.next bb
      replace sX := sX.next bb
      replace sY := sY.next bb
      clear bb ox
      replace cT := T.cell
      replace cU6 := U6.cell
      replace cU11 := U11.cell
      go_wp2_with fail
      refine (implFilled S D Q sn sc dn dc qn qc sg F b w20 T.s U6.s T.q (by omega) HTF.out (by omega)).mono ?_
      rintro e w21 ⟨P2, p2n, p2c, he, ox, bb⟩
      rw [HFB.out] at he
      subst he
      rw [HLB.out] at ox
      have sP2 := Own.seg ox
      have hp2n : p2n ≤ 65 := by rw [Own.len ox]; exact HL60.out
      replace T := T.next bb
      replace U6 := U6.next bb
      replace U11 := U11.next bb
      replace sX := sX.next bb
      replace sY := sY.next bb
      replace sP1 := sP1.next bb
      clear bb ox
      replace cT := T.cell
      replace cU6 := U6.cell
      replace cU11 := U11.cell
      go_wp2_with fail
      refine (implComposed S D D sn sc dn dc dn dc sg F F w21 T.s U6.s U6.s (by omega) HTF.out HTF.out).mono ?_
      rintro e w22 ⟨G, gn, gc, he, og, bb⟩
      obtain ⟨z, hz⟩ : ∃ z, composedB sg F F = z := ⟨_, rfl⟩
      have HZ := hid hz
      rw [hz] at he
      subst he
      clear hz
      replace T := T.next bb
      replace U6 := U6.next bb
      replace U11 := U11.next bb
      replace sX := sX.next bb
      replace sY := sY.next bb
      replace sP1 := sP1.next bb
      replace sP2 := sP2.next bb
      obtain ⟨v21, hv21⟩ : ∃ v, w22.heap.size = v := ⟨_, rfl⟩
      obtain ⟨W22, hW22⟩ : ∃ W, W = w22.alloc (.cells #[.slice G gn gc] 39) := ⟨_, rfl⟩
      have bx : Below w22.heap.size w22 W22 := by rw [hW22]; exact below_alloc _ _
      have U21 : Sv W22 v21 G gn gc (composedI sg F F) := ⟨by rw [hW22, ← hv21]; exact Row.new _ _ _, (og.segs).next bx⟩
      replace T := T.next bx
      replace U6 := U6.next bx
      replace U11 := U11.next bx
      replace sX := sX.next bx
      replace sY := sY.next bx
      replace sP1 := sP1.next bx
      replace sP2 := sP2.next bx
      have kT : (w22.alloc (.cells #[.slice G gn gc] 39)).cell? ⟨v3, 0, none⟩ = some (.slice S sn sc) := by rw [← hW22]; exact T.cell
      have kU6 : (w22.alloc (.cells #[.slice G gn gc] 39)).cell? ⟨v6, 0, none⟩ = some (.slice D dn dc) := by rw [← hW22]; exact U6.cell
      have kU11 : (w22.alloc (.cells #[.slice G gn gc] 39)).cell? ⟨v10 + 1, 0, none⟩ = some (.slice B m cB) := by rw [← hW22]; exact U11.cell
      have kU21 : (w22.alloc (.cells #[.slice G gn gc] 39)).cell? ⟨v21, 0, none⟩ = some (.slice G gn gc) := by rw [← hW22]; exact U21.cell
      have HW22 := hid hW22
      have Hv21 := hid hv21
      clear bb bx og hW22 hv21
      replace cT := T.cell
      replace cU6 := U6.cell
      replace cU11 := U11.cell
      have cU21 := U21.cell
      go_wp2_with fail
      rw [← HW22.out, Hv21.out]
      refine (implSame P1 P2 p1n p2n p1c p2c fa fa W22 sP1 sP2 (by omega) (by omega)).mono ?_
      rintro e w23 ⟨he, d, hd⟩
      have bb : Below W22.heap.size W22 w23 := by rw [hd]; exact below_drewN W22 d
      rw [decide_eq_true rfl] at he
      subst he
      clear hd
      replace T := T.next bb
      replace U6 := U6.next bb
      replace U11 := U11.next bb
      replace sX := sX.next bb
      replace sY := sY.next bb
      replace sP1 := sP1.next bb
      replace sP2 := sP2.next bb
      replace U21 := U21.next bb
      clear kT kU6 kU11 kU21
      clear bb
      replace cT := T.cell
      replace cU6 := U6.cell
      replace cU11 := U11.cell
      replace cU21 := U21.cell
      clear sP1
      clear sP2
      cases z with
      | false =>
       clear U21 cU21
       clear HZ
       go_wp2_with fail
       refine (specSame X Y xn yn xc yc xs ys w23 sX sY (by omega) (by omega)).mono ?_
       rintro e w31 ⟨he, d, hd⟩
       have bb : Below w23.heap.size w23 w31 := by rw [hd]; exact below_drewN w23 d
       rw [decide_eq_true HXY.out] at he
       subst he
       clear hd
       replace T := T.next bb
       replace U6 := U6.next bb
       replace U11 := U11.next bb
       replace sX := sX.next bb
       replace sY := sY.next bb
       clear bb
       replace cT := T.cell
       replace cU6 := U6.cell
       replace cU11 := U11.cell
       clear sY
       go_wp2_with fail
       refine (implComposed S D B sn sc dn dc m cB sg F us w31 T.s U6.s U11.s (by omega) HTF.out hut).mono ?_
       rintro e w32 ⟨J, jn, jc, he, oj, bb⟩
       obtain ⟨z2, hz⟩ : ∃ z, composedB sg F us = z := ⟨_, rfl⟩
       have HZ2 := hid hz
       rw [hz] at he
       subst he
       clear hz
       replace T := T.next bb
       replace U6 := U6.next bb
       replace U11 := U11.next bb
       replace sX := sX.next bb
       obtain ⟨v23, hv23⟩ : ∃ v, w32.heap.size = v := ⟨_, rfl⟩
       obtain ⟨W32, hW32⟩ : ∃ W, W = w32.alloc (.cells #[.slice J jn jc] 39) := ⟨_, rfl⟩
       have bx : Below w32.heap.size w32 W32 := by rw [hW32]; exact below_alloc _ _
       have U23 : Sv W32 v23 J jn jc (composedI sg F us) := ⟨by rw [hW32, ← hv23]; exact Row.new _ _ _, (oj.segs).next bx⟩
       replace T := T.next bx
       replace U6 := U6.next bx
       replace U11 := U11.next bx
       replace sX := sX.next bx
       have kT : (w32.alloc (.cells #[.slice J jn jc] 39)).cell? ⟨v3, 0, none⟩ = some (.slice S sn sc) := by rw [← hW32]; exact T.cell
       have kU6 : (w32.alloc (.cells #[.slice J jn jc] 39)).cell? ⟨v6, 0, none⟩ = some (.slice D dn dc) := by rw [← hW32]; exact U6.cell
       have kU11 : (w32.alloc (.cells #[.slice J jn jc] 39)).cell? ⟨v10 + 1, 0, none⟩ = some (.slice B m cB) := by rw [← hW32]; exact U11.cell
       have kU23 : (w32.alloc (.cells #[.slice J jn jc] 39)).cell? ⟨v23, 0, none⟩ = some (.slice J jn jc) := by rw [← hW32]; exact U23.cell
       have HW32 := hid hW32
       have Hv23 := hid hv23
       clear bb bx oj hW32 hv23
       replace cT := T.cell
       replace cU6 := U6.cell
       replace cU11 := U11.cell
       have cU23 := U23.cell
       obtain ⟨b5, hb5⟩ : ∃ z, filledB sg (composedI sg F us) a = z := ⟨_, rfl⟩
       obtain ⟨zs, hzs⟩ : ∃ z, filledL sg (composedI sg F us) a = z := ⟨_, rfl⟩
       have HB5 := hid hb5
       have HZS := hid hzs
       have hz60 : zs.length ≤ 65 := by rw [← hzs]; exact Nat.le_trans (filled_len _ _ _) (by omega)
       clear hb5 hzs
       clear U6 cU6
       clear U11 cU11
       go_wp2_with fail
       rw [← HW32.out, Hv23.out]
       refine (implFilled S J O sn sc jn jc on oc sg (composedI sg F us) a W32 T.s U23.s T.o (by omega) composed_tot (by omega)).mono ?_
       rintro e w33 ⟨Z, zn, zc, he, ox, bb⟩
       rw [HB5.out] at he
       subst he
       rw [HZS.out] at ox
       have sZ := Own.seg ox
       have hzn : zn ≤ 65 := by rw [Own.len ox]; exact hz60
       replace T := T.next bb
       replace sX := sX.next bb
       replace U23 := U23.next bb
       clear bb ox
       replace cT := T.cell
       replace cU23 := U23.cell
       cases z2 with
       | false =>
        have TB := hid T.bel
        clear T cT
        clear sX
        clear U23 cU23
        clear sZ
        go_wp2
        go_ret
        exact ⟨rfl, TB.out⟩
       | true =>
        obtain ⟨q1, q2⟩ := HF.out.2.2.2.2.2.2 us HB1.out HB2.out (by rw [HXS.out, HYS.out]; exact HXY.out) HZ2.out
        obtain rfl : b5 = true := HB5.out.symm.trans q1
        have HZX := hid (show zs = xs by rw [← HZS.out, q2, HXS.out])
        clear q1 q2
        go_wp2_with fail
        refine (specSame Z X zn xn zc xc zs xs w33 sZ sX (by omega) (by omega)).mono ?_
        rintro e w34 ⟨he, d, hd⟩
        have bb : Below w33.heap.size w33 w34 := by rw [hd]; exact below_drewN w33 d
        rw [decide_eq_true HZX.out] at he
        subst he
        clear hd
        replace T := T.next bb
        replace sX := sX.next bb
        replace U23 := U23.next bb
        replace sZ := sZ.next bb
        clear bb
        replace cT := T.cell
        replace cU23 := U23.cell
        have TB := hid T.bel
        clear T cT
        clear sX
        clear U23 cU23
        clear sZ
        go_wp2
        go_ret
        exact ⟨rfl, TB.out⟩
      | true =>
       have HSS := hid (HF.out.2.2.2.2.2.1 HZ.out)
       go_wp2_with fail
       refine (implSameSubst S G D sn sc gn gc dn dc sg (composedI sg F F) F w23 T.s U21.s U6.s (by omega) composed_tot HTF.out).mono ?_
       rintro e w24 ⟨he, bb⟩
       rw [HSS.out] at he
       subst he
       replace T := T.next bb
       replace U6 := U6.next bb
       replace U11 := U11.next bb
       replace sX := sX.next bb
       replace sY := sY.next bb
       replace U21 := U21.next bb
       clear bb HZ HSS
       replace cT := T.cell
       replace cU6 := U6.cell
       replace cU11 := U11.cell
       replace cU21 := U21.cell
       clear U21 cU21
       go_wp2_with fail
       refine (specSame X Y xn yn xc yc xs ys w24 sX sY (by omega) (by omega)).mono ?_
       rintro e w31 ⟨he, d, hd⟩
       have bb : Below w24.heap.size w24 w31 := by rw [hd]; exact below_drewN w24 d
       rw [decide_eq_true HXY.out] at he
       subst he
       clear hd
       replace T := T.next bb
       replace U6 := U6.next bb
       replace U11 := U11.next bb
       replace sX := sX.next bb
       replace sY := sY.next bb
       clear bb
       replace cT := T.cell
       replace cU6 := U6.cell
       replace cU11 := U11.cell
       clear sY
       go_wp2_with fail
       refine (implComposed S D B sn sc dn dc m cB sg F us w31 T.s U6.s U11.s (by omega) HTF.out hut).mono ?_
       rintro e w32 ⟨J, jn, jc, he, oj, bb⟩
       obtain ⟨z2, hz⟩ : ∃ z, composedB sg F us = z := ⟨_, rfl⟩
       have HZ2 := hid hz
       rw [hz] at he
       subst he
       clear hz
       replace T := T.next bb
       replace U6 := U6.next bb
       replace U11 := U11.next bb
       replace sX := sX.next bb
       obtain ⟨v23, hv23⟩ : ∃ v, w32.heap.size = v := ⟨_, rfl⟩
       obtain ⟨W32, hW32⟩ : ∃ W, W = w32.alloc (.cells #[.slice J jn jc] 39) := ⟨_, rfl⟩
       have bx : Below w32.heap.size w32 W32 := by rw [hW32]; exact below_alloc _ _
       have U23 : Sv W32 v23 J jn jc (composedI sg F us) := ⟨by rw [hW32, ← hv23]; exact Row.new _ _ _, (oj.segs).next bx⟩
       replace T := T.next bx
       replace U6 := U6.next bx
       replace U11 := U11.next bx
       replace sX := sX.next bx
       have kT : (w32.alloc (.cells #[.slice J jn jc] 39)).cell? ⟨v3, 0, none⟩ = some (.slice S sn sc) := by rw [← hW32]; exact T.cell
       have kU6 : (w32.alloc (.cells #[.slice J jn jc] 39)).cell? ⟨v6, 0, none⟩ = some (.slice D dn dc) := by rw [← hW32]; exact U6.cell
       have kU11 : (w32.alloc (.cells #[.slice J jn jc] 39)).cell? ⟨v10 + 1, 0, none⟩ = some (.slice B m cB) := by rw [← hW32]; exact U11.cell
       have kU23 : (w32.alloc (.cells #[.slice J jn jc] 39)).cell? ⟨v23, 0, none⟩ = some (.slice J jn jc) := by rw [← hW32]; exact U23.cell
       have HW32 := hid hW32
       have Hv23 := hid hv23
       clear bb bx oj hW32 hv23
       replace cT := T.cell
       replace cU6 := U6.cell
       replace cU11 := U11.cell
       have cU23 := U23.cell
       obtain ⟨b5, hb5⟩ : ∃ z, filledB sg (composedI sg F us) a = z := ⟨_, rfl⟩
       obtain ⟨zs, hzs⟩ : ∃ z, filledL sg (composedI sg F us) a = z := ⟨_, rfl⟩
       have HB5 := hid hb5
       have HZS := hid hzs
       have hz60 : zs.length ≤ 65 := by rw [← hzs]; exact Nat.le_trans (filled_len _ _ _) (by omega)
       clear hb5 hzs
       clear U6 cU6
       clear U11 cU11
       go_wp2_with fail
       rw [← HW32.out, Hv23.out]
       refine (implFilled S J O sn sc jn jc on oc sg (composedI sg F us) a W32 T.s U23.s T.o (by omega) composed_tot (by omega)).mono ?_
       rintro e w33 ⟨Z, zn, zc, he, ox, bb⟩
       rw [HB5.out] at he
       subst he
       rw [HZS.out] at ox
       have sZ := Own.seg ox
       have hzn : zn ≤ 65 := by rw [Own.len ox]; exact hz60
       replace T := T.next bb
       replace sX := sX.next bb
       replace U23 := U23.next bb
       clear bb ox
       replace cT := T.cell
       replace cU23 := U23.cell
       cases z2 with
       | false =>
        have TB := hid T.bel
        clear T cT
        clear sX
        clear U23 cU23
        clear sZ
        go_wp2
        go_ret
        exact ⟨rfl, TB.out⟩
       | true =>
        obtain ⟨q1, q2⟩ := HF.out.2.2.2.2.2.2 us HB1.out HB2.out (by rw [HXS.out, HYS.out]; exact HXY.out) HZ2.out
        obtain rfl : b5 = true := HB5.out.symm.trans q1
        have HZX := hid (show zs = xs by rw [← HZS.out, q2, HXS.out])
        clear q1 q2
        go_wp2_with fail
        refine (specSame Z X zn xn zc xc zs xs w33 sZ sX (by omega) (by omega)).mono ?_
        rintro e w34 ⟨he, d, hd⟩
        have bb : Below w33.heap.size w33 w34 := by rw [hd]; exact below_drewN w33 d
        rw [decide_eq_true HZX.out] at he
        subst he
        clear hd
        replace T := T.next bb
        replace sX := sX.next bb
        replace U23 := U23.next bb
        replace sZ := sZ.next bb
        clear bb
        replace cT := T.cell
        replace cU23 := U23.cell
        have TB := hid T.bel
        clear T cT
        clear sX
        clear U23 cU23
        clear sZ
        go_wp2
        go_ret
        exact ⟨rfl, TB.out⟩
     ·rw [decide_eq_false hxy] at he
      subst he
      have HXY := hid hxy
      clear hxy
      go_wp2_with fail
      refine (implFilled S D O sn sc dn dc on oc sg F a w12 T.s U6.s T.o (by omega) HTF.out (by omega)).mono ?_
      rintro e w20 ⟨P1, p1n, p1c, he, ox, bb⟩
      rw [HFA.out] at he
      subst he
      rw [HLA.out] at ox
      have sP1 := Own.seg ox
      have hp1n : p1n ≤ 65 := by rw [Own.len ox]; exact HL60.out
      replace T := T.next bb
      replace U6 := U6.next bb
      replace U11 := U11.next bb
      replace sX := sX.next bb
      replace sY := sY.next bb
      clear bb ox
      replace cT := T.cell
      replace cU6 := U6.cell
      replace cU11 := U11.cell
      go_wp2_with fail
      refine (implFilled S D Q sn sc dn dc qn qc sg F b w20 T.s U6.s T.q (by omega) HTF.out (by omega)).mono ?_
      rintro e w21 ⟨P2, p2n, p2c, he, ox, bb⟩
      rw [HFB.out] at he
      subst he
      rw [HLB.out] at ox
      have sP2 := Own.seg ox
      have hp2n : p2n ≤ 65 := by rw [Own.len ox]; exact HL60.out
      replace T := T.next bb
      replace U6 := U6.next bb
      replace U11 := U11.next bb
      replace sX := sX.next bb
      replace sY := sY.next bb
      replace sP1 := sP1.next bb
      clear bb ox
      replace cT := T.cell
      replace cU6 := U6.cell
      replace cU11 := U11.cell
      go_wp2_with fail
      refine (implComposed S D D sn sc dn dc dn dc sg F F w21 T.s U6.s U6.s (by omega) HTF.out HTF.out).mono ?_
      rintro e w22 ⟨G, gn, gc, he, og, bb⟩
      obtain ⟨z, hz⟩ : ∃ z, composedB sg F F = z := ⟨_, rfl⟩
      have HZ := hid hz
      rw [hz] at he
      subst he
      clear hz
      replace T := T.next bb
      replace U6 := U6.next bb
      replace U11 := U11.next bb
      replace sX := sX.next bb
      replace sY := sY.next bb
      replace sP1 := sP1.next bb
      replace sP2 := sP2.next bb
      obtain ⟨v21, hv21⟩ : ∃ v, w22.heap.size = v := ⟨_, rfl⟩
      obtain ⟨W22, hW22⟩ : ∃ W, W = w22.alloc (.cells #[.slice G gn gc] 39) := ⟨_, rfl⟩
      have bx : Below w22.heap.size w22 W22 := by rw [hW22]; exact below_alloc _ _
      have U21 : Sv W22 v21 G gn gc (composedI sg F F) := ⟨by rw [hW22, ← hv21]; exact Row.new _ _ _, (og.segs).next bx⟩
      replace T := T.next bx
      replace U6 := U6.next bx
      replace U11 := U11.next bx
      replace sX := sX.next bx
      replace sY := sY.next bx
      replace sP1 := sP1.next bx
      replace sP2 := sP2.next bx
      have kT : (w22.alloc (.cells #[.slice G gn gc] 39)).cell? ⟨v3, 0, none⟩ = some (.slice S sn sc) := by rw [← hW22]; exact T.cell
      have kU6 : (w22.alloc (.cells #[.slice G gn gc] 39)).cell? ⟨v6, 0, none⟩ = some (.slice D dn dc) := by rw [← hW22]; exact U6.cell
      have kU11 : (w22.alloc (.cells #[.slice G gn gc] 39)).cell? ⟨v10 + 1, 0, none⟩ = some (.slice B m cB) := by rw [← hW22]; exact U11.cell
      have kU21 : (w22.alloc (.cells #[.slice G gn gc] 39)).cell? ⟨v21, 0, none⟩ = some (.slice G gn gc) := by rw [← hW22]; exact U21.cell
      have HW22 := hid hW22
      have Hv21 := hid hv21
      clear bb bx og hW22 hv21
      replace cT := T.cell
      replace cU6 := U6.cell
      replace cU11 := U11.cell
      have cU21 := U21.cell
      go_wp2_with fail
      rw [← HW22.out, Hv21.out]
      refine (implSame P1 P2 p1n p2n p1c p2c fa fa W22 sP1 sP2 (by omega) (by omega)).mono ?_
      rintro e w23 ⟨he, d, hd⟩
      have bb : Below W22.heap.size W22 w23 := by rw [hd]; exact below_drewN W22 d
      rw [decide_eq_true rfl] at he
      subst he
      clear hd
      replace T := T.next bb
      replace U6 := U6.next bb
      replace U11 := U11.next bb
      replace sX := sX.next bb
      replace sY := sY.next bb
      replace sP1 := sP1.next bb
      replace sP2 := sP2.next bb
      replace U21 := U21.next bb
      clear kT kU6 kU11 kU21
      clear bb
      replace cT := T.cell
      replace cU6 := U6.cell
      replace cU11 := U11.cell
      replace cU21 := U21.cell
      clear sP1
      clear sP2
      cases z with
      | false =>
       clear U21 cU21
       clear HZ
       go_wp2_with fail
       refine (specSame X Y xn yn xc yc xs ys w23 sX sY (by omega) (by omega)).mono ?_
       rintro e w31 ⟨he, d, hd⟩
       have bb : Below w23.heap.size w23 w31 := by rw [hd]; exact below_drewN w23 d
       rw [decide_eq_false HXY.out] at he
       subst he
       clear hd
       replace T := T.next bb
       replace U6 := U6.next bb
       replace U11 := U11.next bb
       replace sX := sX.next bb
       replace sY := sY.next bb
       clear bb
       replace cT := T.cell
       replace cU6 := U6.cell
       replace cU11 := U11.cell
       clear sX
       clear sY
       go_wp2_with fail
       refine (implUnifiesIn S Q O sn sc qn qc on oc sg b a w31 true F HUB.out T.s T.q T.o (by omega) (by omega) (by omega) hqc hoc).mono ?_
       rintro e w30 ⟨rfl, bb⟩
       replace T := T.next bb
       replace U6 := U6.next bb
       replace U11 := U11.next bb
       clear bb
       replace cT := T.cell
       replace cU6 := U6.cell
       replace cU11 := U11.cell
       have TB := hid T.bel
       clear T cT
       clear U6 cU6
       clear U11 cU11
       go_wp2
       go_ret
       exact ⟨rfl, TB.out⟩
      | true =>
       have HSS := hid (HF.out.2.2.2.2.2.1 HZ.out)
       go_wp2_with fail
       refine (implSameSubst S G D sn sc gn gc dn dc sg (composedI sg F F) F w23 T.s U21.s U6.s (by omega) composed_tot HTF.out).mono ?_
       rintro e w24 ⟨he, bb⟩
       rw [HSS.out] at he
       subst he
       replace T := T.next bb
       replace U6 := U6.next bb
       replace U11 := U11.next bb
       replace sX := sX.next bb
       replace sY := sY.next bb
       replace U21 := U21.next bb
       clear bb HZ HSS
       replace cT := T.cell
       replace cU6 := U6.cell
       replace cU11 := U11.cell
       replace cU21 := U21.cell
       clear U21 cU21
       go_wp2_with fail
       refine (specSame X Y xn yn xc yc xs ys w24 sX sY (by omega) (by omega)).mono ?_
       rintro e w31 ⟨he, d, hd⟩
       have bb : Below w24.heap.size w24 w31 := by rw [hd]; exact below_drewN w24 d
       rw [decide_eq_false HXY.out] at he
       subst he
       clear hd
       replace T := T.next bb
       replace U6 := U6.next bb
       replace U11 := U11.next bb
       replace sX := sX.next bb
       replace sY := sY.next bb
       clear bb
       replace cT := T.cell
       replace cU6 := U6.cell
       replace cU11 := U11.cell
       clear sX
       clear sY
       go_wp2_with fail
       refine (implUnifiesIn S Q O sn sc qn qc on oc sg b a w31 true F HUB.out T.s T.q T.o (by omega) (by omega) (by omega) hqc hoc).mono ?_
       rintro e w30 ⟨rfl, bb⟩
       replace T := T.next bb
       replace U6 := U6.next bb
       replace U11 := U11.next bb
       clear bb
       replace cT := T.cell
       replace cU6 := U6.cell
       replace cU11 := U11.cell
       have TB := hid T.bel
       clear T cT
       clear U6 cU6
       clear U11 cU11
       go_wp2
       go_ret
       exact ⟨rfl, TB.out⟩
 ·have LB := hid (bigAns A n c true w (by simp; omega) hN)
  clear h
  go_enter Try.func8, Try.ntmps8
  go_wp2_with fail
  refine LB.out.mono ?_
  rintro e w' ⟨rfl, rfl⟩
  clear LB
  go_wp2
  go_ret
  exact ⟨rfl, Below.refl _ _⟩
end wFnUnified
end
end Go.Proofs.Ytobedfmagjgdcaa
