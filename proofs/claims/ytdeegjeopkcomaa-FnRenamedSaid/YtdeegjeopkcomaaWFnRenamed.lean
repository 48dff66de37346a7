/-
  THE WALK of laws.FnRenamed: it returns true, whatever the bytes, and writes nothing that was there. Conditions: the slice holds bytes. By an AI agent.
-/
import Derived.Test.YtdeegjeopkcomaaDrawVar
import Derived.Test.YtdeegjeopkcomaaRenFacts
import Derived.Test.YtdeegjeopkcomaaVariant
import Derived.Test.YtdeegjeopkcomaaBig
namespace Go.Proofs.Ytdeegjeopkcomaa.wFnRenamed
open Go.RowKit Go.Proofs.Ytdeegjeopkcomaa.base Go.Proofs.Ytdeegjeopkcomaa.ints Go.Proofs.Ytdeegjeopkcomaa.sig Go.Proofs.Ytdeegjeopkcomaa.same Go.Proofs.Ytdeegjeopkcomaa.term Go.Proofs.Ytdeegjeopkcomaa.cursor Go.Proofs.Ytdeegjeopkcomaa.termOk Go.Proofs.Ytdeegjeopkcomaa.marks Go.Proofs.Ytdeegjeopkcomaa.app Go.Proofs.Ytdeegjeopkcomaa.sym Go.Proofs.Ytdeegjeopkcomaa.dice Go.Proofs.Ytdeegjeopkcomaa.drawVar Go.Proofs.Ytdeegjeopkcomaa.varsMath Go.Proofs.Ytdeegjeopkcomaa.varsOf Go.Proofs.Ytdeegjeopkcomaa.renMath Go.Proofs.Ytdeegjeopkcomaa.rename Go.Proofs.Ytdeegjeopkcomaa.renImpl Go.Proofs.Ytdeegjeopkcomaa.renFacts Go.Proofs.Ytdeegjeopkcomaa.linear Go.Proofs.Ytdeegjeopkcomaa.variant Go.Proofs.Ytdeegjeopkcomaa.bigs

/-- what stands after the draws: a signature in its variable, two lists -/
structure R3 (w : World) (v : Nat) (S : Option Addr) (sn sc : Nat) (sg : List Int) (O : Option Addr) (on : Nat) (xs : List Int) (Q : Option Addr) (qn : Nat) (ys : List Int) (wr : World) : Prop where
  s : Seg wr wr.heap.size S sn sg
  o : Seg wr wr.heap.size O on xs
  q : Seg wr wr.heap.size Q qn ys
  r : Row wr v 26 #[.slice S sn sc]
  bel : Below w.heap.size w wr
section
variable {w : World} {v : Nat} {S : Option Addr} {sn sc : Nat} {sg : List Int} {O : Option Addr} {on : Nat} {xs : List Int} {Q : Option Addr} {qn : Nat} {ys : List Int} {wr w' : World}
theorem R3.next (t : R3 w v S sn sc sg O on xs Q qn ys wr) (hb : Below wr.heap.size wr w') : R3 w v S sn sc sg O on xs Q qn ys w' := ⟨t.s.next hb, t.o.next hb, t.q.next hb, t.r.next hb, next_trans t.bel hb⟩
theorem drewN_below (w : World) (d : Nat) : Below w.heap.size w (w.drewN d) := ⟨rfl, rfl, rfl, Nat.le_refl _, fun _ _ => rfl⟩
theorem drew_below (w : World) : Below w.heap.size w w.drew := ⟨rfl, rfl, rfl, Nat.le_refl _, fun _ _ => rfl⟩
end
/-- the first k variables are 0, 1, .. -/
def HeadV (vn : Nat) (i : Value) : Prop := ∃ k : Nat, k ≤ vn ∧ i = .int .i64 k

set_option maxRecDepth 100000 in
set_option maxHeartbeats 8000000 in
theorem law (A : Option Addr) (n c : Nat) (_ : List Int) (w : World) (h : SegB w w.heap.size A n) (hN : n ≤ 9223372036854775807) :
    Calls Try.prog 5 #[.slice A n c] w (Fine w) := by
  by_cases hbig : n ≤ 4096
  · have LB := Lib.hid (bigAns A n c false w (by simp; omega) hN)
    go_enter Try.func5, Try.ntmps5
    go_wp2_with fail
    refine LB.out.mono ?_
    rintro e w' ⟨rfl, rfl⟩
    clear LB
    go_wp2_with fail
    refine (drawVariantIn A n c w h hbig).mono ?_
    rintro e w2 ⟨S, sn, sc, sg, O, on, oc, xs, Q, qn, qc, ys, rfl, ss, so, sq, hsn, hon, hqn, b2⟩
    clear h
    obtain ⟨v, hv⟩ : ∃ v, w2.heap.size = v := ⟨_, rfl⟩
    obtain ⟨W, hW⟩ : ∃ W, W = w2.alloc (.cells #[.slice S sn sc] 26) := ⟨_, rfl⟩
    have T : R3 w v S sn sc sg O on xs Q qn ys W := by
      have bb : Below w2.heap.size w2 W := by rw [hW]; exact (Below.refl _ _).alloc (Nat.le_refl _) _
      exact ⟨ss.next bb, so.next bb, sq.next bb, by rw [hW, ← hv]; exact Row.new _ _ _, next_trans b2 bb⟩
    have HW := Lib.hid hW
    have HV := Lib.hid hv
    have HX := Lib.hid so.1
    have HY := Lib.hid sq.1
    clear ss so sq b2 hW hv
    have cV : W.cell? ⟨v, 0, none⟩ = some (.slice S sn sc) := T.r.cell 0
    obtain ⟨zs, hzs⟩ : ∃ zs, renI sg xs = zs := ⟨_, rfl⟩
    obtain ⟨us, hus⟩ : ∃ us, renI sg ys = us := ⟨_, rfl⟩
    obtain ⟨b, hb⟩ : ∃ b, variantB sg xs ys = b := ⟨_, rfl⟩
    have HZ := Lib.hid hzs
    have HU := Lib.hid hus
    have HB := Lib.hid hb
    have hzl : zs.length ≤ 65 := by rw [← hzs]; unfold renI; split; (rw [ren_len, HX.out]; exact hon); simp
    have hul : us.length ≤ 65 := by rw [← hus]; unfold renI; split; (rw [ren_len, HY.out]; exact hqn); simp
    have HBB := Lib.hid (show (b != b) = false by simp)
    clear hzs hus hb
    go_wp2_with fail
    rw [← HW.out, HV.out]
    refine (implRenamed S O sn sc on oc sg xs _ T.s T.o (by omega) (by omega)).mono ?_
    rintro e w3 ⟨X, xn, xc, rfl, ox, bb⟩
    rw [HZ.out] at ox
    have sx := Own.seg ox
    have hxn : xn ≤ 65 := by rw [Own.len ox]; exact hzl
    replace T := T.next bb
    clear bb ox
    replace cV : w3.cell? ⟨v, 0, none⟩ = some (.slice S sn sc) := T.r.cell 0
    go_wp2_with fail
    refine (implRenamed S Q sn sc qn qc sg ys _ T.s T.q (by omega) (by omega)).mono ?_
    rintro e w4 ⟨Y, yn, yc, rfl, oy, bb⟩
    rw [HU.out] at oy
    have sy := Own.seg oy
    have hyn : yn ≤ 65 := by rw [Own.len oy]; exact hul
    replace T := T.next bb
    replace sx := sx.next bb
    clear bb oy
    replace cV : w4.cell? ⟨v, 0, none⟩ = some (.slice S sn sc) := T.r.cell 0
    go_wp2_with fail
    refine (implVariantIn S O Q sn sc on oc qn qc sg xs ys _ T.s T.o T.q (by omega) (by omega) (by omega)).mono ?_
    rintro e w5 ⟨he, bb⟩
    rw [HB.out] at he
    subst he
    replace T := T.next bb
    replace sx := sx.next bb
    replace sy := sy.next bb
    clear bb
    replace cV : w5.cell? ⟨v, 0, none⟩ = some (.slice S sn sc) := T.r.cell 0
    go_wp2_with fail
    refine (specVariantIn S O Q sn sc on oc qn qc sg xs ys _ T.s T.o T.q (by omega) (by omega) (by omega)).mono ?_
    rintro e w6 ⟨he, bb⟩
    rw [HB.out] at he
    subst he
    replace T := T.next bb
    replace sx := sx.next bb
    replace sy := sy.next bb
    clear bb
    replace cV : w6.cell? ⟨v, 0, none⟩ = some (.slice S sn sc) := T.r.cell 0
    have ebb := HBB.out
    go_wp2_with fail
    refine (specRenamed S O sn sc on oc sg xs _ T.s T.o (by omega) (by omega)).mono ?_
    rintro e w7 ⟨P, pn, pc, rfl, sp, bb⟩
    rw [HZ.out] at sp
    have hpn : pn ≤ 65 := by rw [← sp.1]; exact hzl
    replace T := T.next bb
    replace sx := sx.next bb
    replace sy := sy.next bb
    clear bb
    replace cV : w7.cell? ⟨v, 0, none⟩ = some (.slice S sn sc) := T.r.cell 0
    go_wp2_with fail
    refine (implSame X P xn pn xc pc zs zs _ sx sp (by omega) (by omega)).mono ?_
    rintro e w8 ⟨he, d1, rfl⟩
    rw [decide_eq_true rfl] at he
    subst he
    have bb := drewN_below w7 d1
    replace T := T.next bb
    replace sx := sx.next bb
    replace sy := sy.next bb
    clear bb sp cV ebb
    generalize w7.drewN d1 = w8 at *
    have cV : w8.cell? ⟨v, 0, none⟩ = some (.slice S sn sc) := T.r.cell 0
    cases hok : termOkB sg xs with
    | false =>
      have HOK := Lib.hid hok
      have hb0 : b = false := by rw [← HB.out]; exact variant_a hok
      subst hb0
      clear hok
      go_wp2_with fail
      refine (specTermOk S O sn sc on oc sg xs _ T.s T.o (by omega) (by omega)).mono ?_
      rintro e w9 ⟨he, bb⟩
      rw [HOK.out] at he
      subst he
      have TB := Lib.hid (T.next bb).bel
      clear bb cV T sx sy
      go_wp2
      go_ret
      exact ⟨rfl, TB.out⟩
    | true =>
      have HOK := Lib.hid hok
      go_wp2_with fail
      refine (specTermOk S O sn sc on oc sg xs _ T.s T.o (by omega) (by omega)).mono ?_
      rintro e w9 ⟨he, bb⟩
      rw [HOK.out] at he
      subst he
      replace T := T.next bb
      replace sx := sx.next bb
      replace sy := sy.next bb
      clear bb
      replace cV : w9.cell? ⟨v, 0, none⟩ = some (.slice S sn sc) := T.r.cell 0
      cases hok2 : termOkB sg ys with
      | false =>
        have HOK2 := Lib.hid hok2
        have hb0 : b = false := by rw [← HB.out]; exact variant_b hok2
        subst hb0
        clear hok2 hok
        go_wp2_with fail
        refine (specTermOk S Q sn sc qn qc sg ys _ T.s T.q (by omega) (by omega)).mono ?_
        rintro e w10 ⟨he, bb⟩
        rw [HOK2.out] at he
        subst he
        have TB := Lib.hid (T.next bb).bel
        clear bb cV T sx sy
        go_wp2
        go_ret
        exact ⟨rfl, TB.out⟩
      | true =>
        have HOK2 := Lib.hid hok2
        have hz : zs = renL xs := by rw [← HZ.out]; unfold renI; rw [if_pos hok]
        have hu : us = renL ys := by rw [← HU.out]; unfold renI; rw [if_pos hok2]
        have F := ren_facts hok
        rw [← hz] at F
        have HZV := Lib.hid (show varsI sg zs = vars zs by unfold varsI; rw [if_pos F.1])
        have HVA := Lib.hid (show variantB sg zs xs = true by rw [variant_ab F.1 hok, F.2.1, hz]; simp)
        have HB2 := Lib.hid (show b = decide (zs = us) by rw [← HB.out, variant_ab hok hok2, hz, hu])
        have HL1 := Lib.hid (show linearB sg zs = linB xs by unfold linearB; rw [F.1, F.2.2.1]; simp)
        have HL2 := Lib.hid (show linearB sg xs = linB xs by unfold linearB; rw [hok]; simp)
        have HG := Lib.hid (show groundB sg zs = decide ((vars zs).length = 0) by unfold groundB; rw [F.1]; simp)
        have HF := Lib.hid F.2.2.2
        clear F hz hu hok hok2
        go_wp2_with fail
        refine (specTermOk S Q sn sc qn qc sg ys _ T.s T.q (by omega) (by omega)).mono ?_
        rintro e w10 ⟨he, bb⟩
        rw [HOK2.out] at he
        subst he
        replace T := T.next bb
        replace sx := sx.next bb
        replace sy := sy.next bb
        clear bb
        replace cV : w10.cell? ⟨v, 0, none⟩ = some (.slice S sn sc) := T.r.cell 0
        go_wp2_with fail
        refine (implVarsOf S X sn sc xn xc sg zs _ T.s sx (by omega) (by omega)).mono ?_
        rintro e w11 ⟨V, vn, vc, rfl, ov, bb⟩
        rw [HZV.out] at ov
        have sv := Own.seg ov
        have hvl := Own.len ov
        have HVN := Lib.hid hvl
        replace T := T.next bb
        replace sx := sx.next bb
        replace sy := sy.next bb
        have hv65 : vn ≤ 65 := by have := vars_len zs; have := sx.1; omega
        clear bb ov hvl
        replace cV : w11.cell? ⟨v, 0, none⟩ = some (.slice S sn sc) := T.r.cell 0
        go_wp2_with fail
        go_loop [10] (fun i => HeadV vn i) (fun i => vn - (intOf i).toNat)
        case atStart => exact ⟨0, Nat.zero_le _, rfl⟩
        case round =>
          obtain ⟨k, hk, rfl⟩ := hrel
          by_cases hlt : k < vn
          · obtain ⟨bv, off, y, rfl, -, hy, ey⟩ := sv.spot hlt
            have hyk : y = (k : Int) := by rw [← ey.out]; exact HF.out k (by rw [← HVN.out]; exact hlt)
            subst hyk
            have e1 : ((k : Int) != (k : Int)) = false := by simp
            have S1 := Lib.hid (show HeadV vn (.int .i64 ((k : Int) + 1)) from ⟨k + 1, hlt, by simp⟩)
            clear ey sv sx sy T
            go_wp2
            go_round
            case rel => exact S1.out
            case measure => simp [intOf]; omega
          · have hkv : k = vn := by omega
            obtain ⟨lv, hlv⟩ : ∃ lv, linB xs = lv := ⟨_, rfl⟩
            have HLV := Lib.hid hlv
            obtain ⟨g, hg⟩ : ∃ g, decide ((vn : Int) = 0) = g := ⟨_, rfl⟩
            have HG2 := Lib.hid (show groundB sg zs = g by rw [HG.out, ← hg, ← HVN.out]; simp)
            have hg0 : ((vn : Int) == 0) = g := by rw [← hg]; exact rfl
            have egg : (g == g) = true := by simp
            have ell : (lv == lv) = true := by simp
            have ebb : (b == b) = true := by simp
            have T1 := T.next (drew_below w11)
            have sx1 := sx.next (drew_below w11)
            have sy1 := sy.next (drew_below w11)
            clear hlv hg sv T sx sy hkv
            go_wp2_with fail
            go_region_held3 (fun w' => w'.cell? ⟨v, 0, none⟩ = some (.slice S sn sc))
              (go_keep)
              (first
                | (go_at_call 32; refine (implVariantIn S X O sn sc xn xc on oc sg zs xs _ T1.s sx1 T1.o (by omega) (by omega) (by omega)).mono ?_; rintro e w12 ⟨he, bb⟩; rw [HVA.out] at he; subst he; replace T1 := T1.next bb; replace sx1 := sx1.next bb; replace sy1 := sy1.next bb; clear bb; replace cV : w12.cell? ⟨v, 0, none⟩ = some (.slice S sn sc) := T1.r.cell 0)
                | (go_at_call 22; refine (implSame X Y xn yn xc yc zs us _ sx1 sy1 (by omega) (by omega)).mono ?_; rintro e w13 ⟨he, d1, hw⟩; rw [← HB2.out] at he; subst he; have bb := hw ▸ drewN_below _ d1; replace T1 := T1.next bb; replace sx1 := sx1.next bb; clear bb hw sy1; replace cV : w13.cell? ⟨v, 0, none⟩ = some (.slice S sn sc) := T1.r.cell 0)
                | (go_at_call 37; refine (implLinearIn S X sn sc xn xc sg zs _ T1.s sx1 (by omega) (by omega)).mono ?_; rintro e w14 ⟨he, bb⟩; rw [HL1.out, HLV.out] at he; subst he; replace T1 := T1.next bb; replace sx1 := sx1.next bb; clear bb; replace cV : w14.cell? ⟨v, 0, none⟩ = some (.slice S sn sc) := T1.r.cell 0)
                | (go_at_call 38; refine (specLinearIn S O sn sc on oc sg xs _ T1.s T1.o (by omega) (by omega)).mono ?_; rintro e w15 ⟨he, bb⟩; rw [HL2.out, HLV.out] at he; subst he; replace T1 := T1.next bb; replace sx1 := sx1.next bb; clear bb; replace cV : w15.cell? ⟨v, 0, none⟩ = some (.slice S sn sc) := T1.r.cell 0)
                | (go_at_call 39; refine (implGroundIn S X sn sc xn xc sg zs _ T1.s sx1 (by omega) (by omega)).mono ?_; rintro e w16 ⟨he, bb⟩; rw [HG2.out] at he; subst he; replace T1 := T1.next bb; replace sx1 := sx1.next bb; clear bb; replace cV : w16.cell? ⟨v, 0, none⟩ = some (.slice S sn sc) := T1.r.cell 0))
            have TB := Lib.hid T1.bel
            clear T1 sx1 cV
            go_wp2
            go_ret
            exact ⟨rfl, TB.out⟩
  · have LB := Lib.hid (bigAns A n c true w (by simp; omega) hN)
    clear h
    go_enter Try.func5, Try.ntmps5
    go_wp2_with fail
    refine LB.out.mono ?_
    rintro e w' ⟨rfl, rfl⟩
    clear LB
    go_wp2
    go_ret
    exact ⟨rfl, Below.refl _ _⟩
end Go.Proofs.Ytdeegjeopkcomaa.wFnRenamed
