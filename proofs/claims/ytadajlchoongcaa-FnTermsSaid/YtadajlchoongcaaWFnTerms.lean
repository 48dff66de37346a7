/-
  THE WALK of laws.FnTerms: it returns true, whatever the bytes, and writes nothing that was there. Conditions: the slice holds bytes. By an AI agent.
-/
import Derived.Test.YtadajlchoongcaaWFnLess
import Derived.Test.YtadajlchoongcaaTermMath
import Derived.Test.YtadajlchoongcaaRoll
import Derived.Test.YtadajlchoongcaaAppAt
namespace Go.Proofs.Ytadajlchoongcaa.wFnTerms
open Go.RowKit Go.Proofs.Ytadajlchoongcaa.base Go.Proofs.Ytadajlchoongcaa.ints Go.Proofs.Ytadajlchoongcaa.sig Go.Proofs.Ytadajlchoongcaa.same Go.Proofs.Ytadajlchoongcaa.term Go.Proofs.Ytadajlchoongcaa.termOk Go.Proofs.Ytadajlchoongcaa.endAt Go.Proofs.Ytadajlchoongcaa.marks Go.Proofs.Ytadajlchoongcaa.sym Go.Proofs.Ytadajlchoongcaa.sub Go.Proofs.Ytadajlchoongcaa.args Go.Proofs.Ytadajlchoongcaa.depth Go.Proofs.Ytadajlchoongcaa.dice Go.Proofs.Ytadajlchoongcaa.drawPair Go.Proofs.Ytadajlchoongcaa.rolls Go.Proofs.Ytadajlchoongcaa.appAt Go.Proofs.Ytadajlchoongcaa.termMath

/-- what stands after the draws: a signature in its variable, a list -/
structure Tt (w : World) (v : Nat) (S : Option Addr) (sn sc : Nat) (sg : List Int) (O : Option Addr) (on : Nat) (xs : List Int) (wr : World) : Prop where
  s : Seg wr wr.heap.size S sn sg
  t : Seg wr wr.heap.size O on xs
  r : Row wr v 26 #[.slice S sn sc]
  bel : Below w.heap.size w wr
section
variable {w : World} {v : Nat} {S : Option Addr} {sn sc : Nat} {sg : List Int} {O : Option Addr} {on : Nat} {xs : List Int} {wr w' : World}
theorem Tt.next (t : Tt w v S sn sc sg O on xs wr) (hb : Below wr.heap.size wr w') : Tt w v S sn sc sg O on xs w' := ⟨t.s.next hb, t.t.next hb, t.r.next hb, next_trans t.bel hb⟩
theorem Tt.drew (t : Tt w v S sn sc sg O on xs wr) : Tt w v S sn sc sg O on xs wr.drew := ⟨t.s, t.t, t.r, t.bel.drew⟩
theorem Tt.drewN (t : Tt w v S sn sc sg O on xs wr) (d : Nat) : Tt w v S sn sc sg O on xs (wr.drewN d) := ⟨t.s, t.t, t.r, below_drewN t.bel d⟩
end

/-- the head of the law's loop over the arguments -/
def HeadT (w1 : World) (Q : Option Addr) (qn qc : Nat) (sg xs : List Int) (a : Nat) (M : Int) (args : List Int) (again deep i : Value) (wr : World) : Prop :=
  ∃ (k q pp : Nat) (zs : List Int) (d : Int) (Z : Option Addr) (zn zc : Nat), again = .slice Z zn zc ∧ deep = .int .i64 d ∧ i = .int .i64 k ∧ termMath.Loop sg xs a M zs args d k q pp ∧ Own wr w1.heap.size (.slice Z zn zc) zs ∧ Own wr w1.heap.size (.slice Q qn qc) args ∧ (blk Q = none ∨ blk Q ≠ blk Z) ∧ Below w1.heap.size w1 wr
theorem blk_ne {w : World} {Q Z : Option Addr} {qn qc : Nat} {args : List Int} {base : Nat} (h : Own w base (.slice Q qn qc) args) (hz : ∀ k, blk Z = some k → k < base) : blk Q = none ∨ blk Q ≠ blk Z := by
  cases e : blk Q with
  | none => exact .inl rfl
  | some k =>
    refine .inr (fun e2 => ?_)
    have h1 := Own.ge h k e
    have h2 := hz k e2.symm
    omega
theorem loop_len {sg t : List Int} {a : Nat} {M : Int} {zs args : List Int} {d : Int} {k q pp : Nat} (h : termMath.Loop sg t a M zs args d k q pp) : args.length - k = q ∧ zs.length ≤ t.length ∧ 0 ≤ d ∧ d ≤ t.length := by
  obtain ⟨h1, _, h3, h4, i, _, _, h7⟩ := h
  refine ⟨?_, ?_, h3, h4⟩
  · have := congrArg List.length h1
    rwa [List.length_drop, places_len] at this
  · have h8 := congrArg List.length h7
    rw [List.length_append] at h8
    have h9 : (subL sg t a).length ≤ t.length := by
      unfold subL
      rw [List.length_take, List.length_drop]
      omega
    omega

set_option maxRecDepth 100000 in
set_option maxHeartbeats 8000000 in
theorem law (A : Option Addr) (n c : Nat) (_ : List Int) (w : World) (h : SegB w w.heap.size A n) (hN : n ≤ 9223372036854775807) :
    Calls Try.prog 3 #[.slice A n c] w (Fine w) := by
  by_cases hbig : n ≤ 4096
  · have LB := Lib.hid (wFnLess.bigAns A n c false w (by simp; omega) hN)
    go_enter Try.func3, Try.ntmps3
    go_wp2_with fail
    refine LB.out.mono ?_
    rintro e w' ⟨rfl, rfl⟩
    clear LB
    go_wp2_with fail
    refine (drawTermOk A n c w h hbig).mono ?_
    rintro e w2 ⟨S, sn, sc, sg, O, on, oc, xs, rfl, ss, st, h3, h4, hc1, hc2, b2⟩
    have HB := Lib.hid (fun (wz : World) (bz : Below w.heap.size w wz) => (show SegB wz wz.heap.size A n from fun hp => by
      obtain ⟨b, off, e, hb, hc⟩ := h hp
      refine ⟨b, off, e, Nat.lt_of_lt_of_le hb bz.size, fun j hj => ?_⟩
      obtain ⟨x, x0, x1, hx⟩ := hc j hj
      exact ⟨x, x0, x1, (bz.cell (p := ⟨b, off + j, none⟩) hb).trans hx⟩))
    clear h
    obtain ⟨v, hv⟩ : ∃ v, w2.heap.size = v := ⟨_, rfl⟩
    have T0 : Tt w v S sn sc sg O on xs (w2.alloc (.cells #[.slice S sn sc] 26)) := by
      have bb : Below w2.heap.size w2 (w2.alloc (.cells #[.slice S sn sc] 26)) := (Below.refl _ _).alloc (Nat.le_refl _) _
      exact ⟨ss.next bb, st.next bb, by rw [← hv]; exact Row.new _ _ _, next_trans b2 bb⟩
    obtain ⟨W, hW⟩ : ∃ W, W = w2.alloc (.cells #[.slice S sn sc] 26) := ⟨_, rfl⟩
    rw [← hW] at T0
    have HW := Lib.hid hW
    have HV := Lib.hid hv
    have HX := Lib.hid st.1
    clear ss st b2 hW hv
    have T := T0.drew
    have cV : W.cell? ⟨v, 0, none⟩ = some (.slice S sn sc) := T.r.cell 0
    clear T0
    go_wp2_with fail
    rw [← HW.out, HV.out]
    cases hok : termOkB sg xs with
    | false =>
      have HOK := Lib.hid hok
      clear hok
      go_region_held3 (fun w' => w'.cell? ⟨v, 0, none⟩ = some (.slice S sn sc))
        (go_keep)
        (first
          | (go_at_call 17; refine (implTermOk S O sn sc on oc sg xs _ T.s T.t (by omega) (by omega)).mono ?_; rintro e w3 ⟨he, bb⟩; rw [HOK.out] at he; subst he; replace T := T.next bb; clear bb; replace cV : w3.cell? ⟨v, 0, none⟩ = some (.slice S sn sc) := T.r.cell 0)
          | (go_at_call 18; refine (specTermOk S O sn sc on oc sg xs _ T.s T.t (by omega) (by omega)).mono ?_; rintro e w4 ⟨he, bb⟩; rw [HOK.out] at he; subst he; replace T := T.next bb; clear bb; replace cV : w4.cell? ⟨v, 0, none⟩ = some (.slice S sn sc) := T.r.cell 0))
      go_wp2_with fail
      refine (specTermOk S O sn sc on oc sg xs _ T.s T.t (by omega) (by omega)).mono ?_
      rintro e w5 ⟨he, bb⟩
      rw [HOK.out] at he
      subst he
      replace T := T.next bb
      clear bb
      replace cV : w5.cell? ⟨v, 0, none⟩ = some (.slice S sn sc) := T.r.cell 0
      have HD0 : depthI sg xs = 0 := by unfold depthI; rw [if_neg (by rw [HOK.out]; simp)]
      have HE0 : endOfI sg xs 0 = -1 := by unfold endOfI; rw [if_neg (by rw [there_no (.inl HOK.out)]; simp)]
      have HS0 : symI sg xs = [] := by unfold symI; rw [if_neg (by rw [HOK.out]; simp)]
      replace HD0 := Lib.hid HD0
      replace HE0 := Lib.hid HE0
      replace HS0 := Lib.hid HS0
      go_wp2_with fail
      refine (implDepthOf S O sn sc on oc sg xs _ T.s T.t (by omega) (by omega)).mono ?_
      rintro e w6 ⟨he, bb⟩
      rw [HD0.out] at he
      subst he
      replace T := T.next bb
      clear bb
      replace cV : w6.cell? ⟨v, 0, none⟩ = some (.slice S sn sc) := T.r.cell 0
      go_wp2_with fail
      refine (implEndOf S O sn sc on oc sg xs 0 _ T.s T.t (by omega) (by omega) (by omega) (by omega)).mono ?_
      rintro e w7 ⟨he, bb⟩
      rw [HE0.out] at he
      subst he
      replace T := T.next bb
      clear bb
      replace cV : w7.cell? ⟨v, 0, none⟩ = some (.slice S sn sc) := T.r.cell 0
      go_wp2_with fail
      refine (implSym S O sn sc on oc sg xs _ T.s T.t (by omega) (by omega)).mono ?_
      rintro e w8 ⟨Z, zn, zc, rfl, oz, bb⟩
      rw [HS0.out] at oz
      have hz := Own.len oz
      simp only [List.length_nil] at hz
      subst hz
      replace T := T.next bb
      have TB := Lib.hid T.bel
      clear bb oz T cV
      go_wp2
      go_ret
      exact ⟨rfl, TB.out⟩
    | true =>
      have HOK := Lib.hid hok
      clear hok
      go_region_held3 (fun w' => w'.cell? ⟨v, 0, none⟩ = some (.slice S sn sc))
        (go_keep)
        (first
          | (go_at_call 17; refine (implTermOk S O sn sc on oc sg xs _ T.s T.t (by omega) (by omega)).mono ?_; rintro e w3 ⟨he, bb⟩; rw [HOK.out] at he; subst he; replace T := T.next bb; clear bb; replace cV : w3.cell? ⟨v, 0, none⟩ = some (.slice S sn sc) := T.r.cell 0)
          | (go_at_call 18; refine (specTermOk S O sn sc on oc sg xs _ T.s T.t (by omega) (by omega)).mono ?_; rintro e w4 ⟨he, bb⟩; rw [HOK.out] at he; subst he; replace T := T.next bb; clear bb; replace cV : w4.cell? ⟨v, 0, none⟩ = some (.slice S sn sc) := T.r.cell 0))
      go_wp2_with fail
      refine (specTermOk S O sn sc on oc sg xs _ T.s T.t (by omega) (by omega)).mono ?_
      rintro e w5 ⟨he, bb⟩
      rw [HOK.out] at he
      subst he
      replace T := T.next bb
      clear bb
      replace cV : w5.cell? ⟨v, 0, none⟩ = some (.slice S sn sc) := T.r.cell 0
      go_wp2_with fail
      have TB := Lib.hid T.bel
      have SB := HB.out _ T.bel
      have hon := termOk_pos HOK.out
      rw [HX.out] at hon
      refine (roll A n c _ SB hbig).mono ?_
      rintro e w6 ⟨p, hh, rfl, hp, R, b6⟩
      have T6 := T.next b6
      replace cV : w6.cell? ⟨v, 0, none⟩ = some (.slice S sn sc) := T6.r.cell 0
      clear SB TB T6
      go_wp2_with fail
      refine (rollBelow p A n c hh on w6 R (by omega) (by omega)).mono ?_
      rintro e w7 ⟨x, rfl, x0, x1, g7⟩
      have b7 : Below w5.heap.size w5 w7 := b6.grown g7 b6.size (fun k hk => by injection hk with hk; omega)
      replace T := T.next b7
      clear b6 b7 R g7 hp
      obtain ⟨a, rfl⟩ : ∃ a : Nat, x = (a : Int) := ⟨x.toNat, by omega⟩
      have ha : a < on := by omega
      obtain ⟨b, off, y, rfl, hb, hy, ey⟩ := T.t.spot ha
      have b8 : Below w7.heap.size w7 (w7.alloc (.cells #[.int .i64 y] 2)) := (Below.refl _ _).alloc (Nat.le_refl _) _
      have T8 := T.next b8
      replace cV : (w7.alloc (.cells #[.int .i64 y] 2)).cell? ⟨v, 0, none⟩ = some (.slice S sn sc) := T8.r.cell 0
      have oz : Own (w7.alloc (.cells #[.int .i64 y] 2)) w7.heap.size (.slice (some ⟨w7.heap.size, 0, none⟩) 1 1) [y] :=
        Own.of_row (Row.new _ _ _) rfl rfl (Nat.le_refl _) (by omega) (Nat.le_refl _) (fun j hj => by
          have : j = 0 := by omega
          subst this
          rfl)
      have hthere : thereB sg xs (a : Int) = true := there_yes HOK.out (by omega) (by rw [HX.out]; omega)
      have HA := Lib.hid (show argsI sg xs (a : Int) = argsL sg xs a by unfold argsI; rw [if_pos hthere]; rfl)
      have HS := Lib.hid (show subI sg xs (a : Int) = subL sg xs a by unfold subI; rw [if_pos hthere]; rfl)
      have HE := Lib.hid (show endOfI sg xs (a : Int) = (a : Int) + ((subL sg xs a).length : Int) by
        unfold endOfI
        rw [if_pos hthere]
        exact (sub_term HOK.out (by rw [HX.out]; exact ha)).2.2.1)
      clear hthere
      obtain ⟨M, hM⟩ : ∃ M, maxOver sg xs (dep sg xs xs.length) (ar sg (xs.getD a 0)).toNat (a + 1) = M := ⟨_, rfl⟩
      have HD := Lib.hid ((depth_head HOK.out (by rw [HX.out]; exact ha)).trans (by rw [hM] : _ = M + 1))
      have L0 := termMath.Loop.start HOK.out (show a < xs.length by rw [HX.out]; exact ha)
      rw [hM, ey.out] at L0
      have HL := Lib.hid L0
      clear L0 hM
      go_wp2_with fail
      refine (implArgsAt S _ sn sc on oc sg xs (a : Int) _ T8.s T8.t (by omega) (by omega) (by omega) (by omega)).mono ?_
      rintro e w9 ⟨Q, qn, qc, rfl, oq, b9⟩
      rw [HA.out] at oq
      have H0 : HeadT w7 Q qn qc sg xs a M (argsL sg xs a) (.slice (some ⟨w7.heap.size, 0, none⟩) 1 1) (.int .i64 0) (.int .i64 0) w9 :=
        ⟨0, _, _, _, 0, _, 1, 1, rfl, rfl, rfl, HL.out, Own.next oz b9, Own.lower oq (by simp), blk_ne oq (fun k hk => by cases hk; simp), b8.trans (b9.mono (by simp))⟩
      have HQ := Lib.hid (Own.len oq)
      have HH := Lib.hid H0
      clear H0 oq oz T8 cV b8 b9 HL HA hy hb ey
      go_wp2_with fail
      go_loopw [7, 9, 10] (fun again deep i wr => HeadT w7 Q qn qc sg xs a M (argsL sg xs a) again deep i wr) (fun _ _ i _ => qn - (intOf i).toNat)
      case atStart => exact HH.out
      case round =>
        obtain ⟨k, q, pp, zs, d, Z, zn, zc, rfl, rfl, rfl, hl, oz, oq, hne, bw⟩ := hrel
        clear HH
        obtain ⟨hkq, hzl, hd0, hd1⟩ := loop_len hl
        rw [← HQ.out] at hkq
        rw [HX.out] at hzl hd1
        rw [← Own.len oz] at hzl
        by_cases hk : k < qn
        · obtain ⟨q', rfl⟩ : ∃ q', q = q' + 1 := ⟨q - 1, by omega⟩
          obtain ⟨hpp, hg, jj, hl'⟩ := hl.step HOK.out
          rw [HX.out] at hpp
          have T1 := (T.next bw).drew
          replace bw := bw.drew
          replace oz := Own.drew oz
          replace oq := Own.drew oq
          have cV : wr.drew.cell? ⟨v, 0, none⟩ = some (.slice S sn sc) := T1.r.cell 0
          obtain ⟨bq, offq, z, hQe, hbq, hz, ez⟩ := (Own.seg oq).spot hk
          rw [ez.out] at hg
          subst hg
          have hthere : thereB sg xs (pp : Int) = true := there_yes HOK.out (by omega) (by rw [HX.out]; omega)
          have HSU := Lib.hid (show subI sg xs (pp : Int) = subL sg xs pp by unfold subI; rw [if_pos hthere]; rfl)
          obtain ⟨D, hD⟩ : ∃ D, depthI sg (subL sg xs pp) = D := ⟨_, rfl⟩
          rw [hD] at hl'
          have HDP := Lib.hid hD
          have hy1 : 1 ≤ (subL sg xs pp).length := (sub_term HOK.out (by rw [HX.out]; exact hpp)).2.2.2
          have hy2 : (subL sg xs pp).length ≤ 60 := by
            have h9 : (subL sg xs pp).length ≤ xs.length := by
              unfold subL
              rw [List.length_take, List.length_drop]
              omega
            have h8 := (termOk_parts HOK.out).2.1
            omega
          obtain ⟨ys, hys⟩ : ∃ ys, subL sg xs pp = ys := ⟨_, rfl⟩
          rw [hys] at hl' HSU HDP hy1 hy2
          have HL' := Lib.hid hl'
          have i0 : (0 : Int) ≤ (k : Int) := by omega
          have i1 : (k : Int) < (qn : Int) := by omega
          have hk3 : k ≤ 1048576 := by
            have := argsL_len (t := xs) (sig_arities (termOk_parts HOK.out).1).1 a
            rw [← HQ.out] at this
            omega
          clear hthere hl hl' hD hys ez hkq
          have hQ := hQe
          subst hQ
          go_wp2_with fail
          go_region_held3 (fun w' => w'.cell? ⟨v, 0, none⟩ = some (.slice S sn sc) ∧ w'.cell? ⟨bq, offq + k, none⟩ = some (.int .i64 (pp : Int)))
            (go_keep)
            (first
              | (go_at_call 25; refine (implSubAt S (some ⟨b, off, none⟩) sn sc on oc sg xs (pp : Int) _ T1.s T1.t (by omega) (by omega) (by omega) (by omega) hc1 hc2).mono ?_; rintro e w10 ⟨U, un, uc, rfl, ou, bu⟩; replace cV : w10.cell? ⟨v, 0, none⟩ = some (.slice S sn sc) := (T1.r.next bu).cell 0; replace hz : w10.cell? ⟨bq, offq + k, none⟩ = some (.int .i64 (pp : Int)) := (bu.cell (p := ⟨bq, offq + k, none⟩) hbq).trans hz))
          replace T1 := T1.next bu
          have hsz := bw.size
          replace bw := bw.trans (bu.mono hsz)
          have hlt := drawSig.Own.blk_lt oz
          replace oz := Own.next oz bu
          replace oq := Own.next oq bu
          rw [HSU.out] at ou
          obtain ⟨un', hun'⟩ : ∃ un', ys.length = un' := ⟨_, rfl⟩
          have hul := (Own.len ou).trans hun'
          subst hul
          have HUN := Lib.hid hun'
          rw [hun'] at hy1 hy2
          clear hun'
          have hneU := blk_ne ou hlt
          clear hlt cV hz
          go_wp2_with (at_builtin; refine appAllAt rfl _ _ rfl w7.heap.size Z zn zc zs rfl oz U _ uc w10.heap.size ys rfl (Own.seg ou) (by omega) (by omega) (by omega) bw.size ?_; intro Z' zc' w11 oz' gz hat; have b11 : Below w7.heap.size w7 w11 := bw.grown gz bw.size (fun k hk => Own.ge oz k hk); have T2 := T.next b11; have cV : w11.cell? ⟨v, 0, none⟩ = some (.slice S sn sc) := T2.r.cell 0)
          have ou2 := appAt.Own.kept ou gz hneU
          have hneQ : blk (some ⟨bq, offq, none⟩) = none ∨ blk (some ⟨bq, offq, none⟩) ≠ blk Z' := by
            rcases hat with e | e
            · rw [e]; exact hne
            · refine .inr (fun e2 => ?_)
              exact absurd (drawSig.Own.blk_lt oq _ (e2.trans e)) (Nat.lt_irrefl _)
          have oq2 := appAt.Own.kept oq gz hne
          clear ou oq oz gz hat hneU hne bw
          refine (implDepthOf S U sn sc un uc sg ys _ T2.s (Own.seg ou2) (by omega) (by omega)).mono ?_
          rintro e w12 ⟨he, b12⟩
          rw [HDP.out] at he
          subst he
          have S0 : HeadT w7 (some ⟨bq, offq, none⟩) qn qc sg xs a M (argsL sg xs a) (.slice Z' (zn + un) zc') (.int .i64 (max d D)) (.int .i64 ((k : Int) + 1)) w12 :=
            ⟨k + 1, q', pp + jj, _, _, Z', _, zc', rfl, rfl, by simp, HL'.out, Own.next oz' b12, Own.next oq2 b12, hneQ, next_trans b11 b12⟩
          by_cases hd : d < D
          · rw [show max d D = D by omega] at S0
            have HSS := Lib.hid S0
            clear S0 oz' oq2 ou2 b12 b11 T2 cV hneQ
            go_wp2
            go_roundw
            case rel => exact HSS.out
            case measure => simp [intOf]; omega
          · rw [show max d D = d by omega] at S0
            have HSS := Lib.hid S0
            clear S0 oz' oq2 ou2 b12 b11 T2 cV hneQ
            go_wp2
            go_roundw
            case rel => exact HSS.out
            case measure => simp [intOf]; omega
        · have hq0 : q = 0 := by omega
          subst hq0
          obtain ⟨rfl, rfl⟩ := hl.done
          have T1 := T.next bw
          have cV : wr.cell? ⟨v, 0, none⟩ = some (.slice S sn sc) := T1.r.cell 0
          have i1 : ¬ (k : Int) < (qn : Int) := by omega
          clear hl hkq hne oq hk
          go_wp2_with fail
          refine (implSubAt S (some ⟨b, off, none⟩) sn sc on oc sg xs (a : Int) _ T1.s T1.t (by omega) (by omega) (by omega) (by omega) hc1 hc2).mono ?_
          rintro e w10 ⟨U, un, uc, rfl, ou, bu⟩
          rw [HS.out] at ou
          have hul := Own.len ou
          have HUL := Lib.hid hul
          have htm := (sub_term HOK.out (show a < xs.length by rw [HX.out]; exact ha)).1
          have hun : un ≤ 60 := by
            rw [hul]
            exact (termOk_parts htm).2.1
          have HT := Lib.hid htm
          clear htm hul
          replace T1 := T1.next bu
          replace oz := Own.next oz bu
          replace cV : w10.cell? ⟨v, 0, none⟩ = some (.slice S sn sc) := T1.r.cell 0
          clear bu bw
          go_wp2_with fail
          refine (implSame Z U zn un zc uc (subL sg xs a) (subL sg xs a) _ (Own.seg oz) (Own.seg ou) (by omega) (by omega)).mono ?_
          rintro e w11 ⟨he, d1, rfl⟩
          rw [decide_eq_true rfl] at he
          subst he
          replace T1 := T1.drewN d1
          replace ou := Own.drewN ou d1
          clear oz cV
          generalize w10.drewN d1 = w11 at *
          have cV : w11.cell? ⟨v, 0, none⟩ = some (.slice S sn sc) := T1.r.cell 0
          go_wp2_with fail
          refine (implEndOf S (some ⟨b, off, none⟩) sn sc on oc sg xs (a : Int) _ T1.s T1.t (by omega) (by omega) (by omega) (by omega)).mono ?_
          rintro e w12 ⟨he, bb⟩
          rw [HE.out, ← HUL.out] at he
          subst he
          replace T1 := T1.next bb
          replace ou := Own.next ou bb
          clear bb
          replace cV : w12.cell? ⟨v, 0, none⟩ = some (.slice S sn sc) := T1.r.cell 0
          go_wp2_with fail
          refine (implDepthOf S U sn sc un uc sg (subL sg xs a) _ T1.s (Own.seg ou) (by omega) (by omega)).mono ?_
          rintro e w13 ⟨he, bb⟩
          rw [HD.out] at he
          subst he
          replace T1 := T1.next bb
          replace ou := Own.next ou bb
          clear bb
          replace cV : w13.cell? ⟨v, 0, none⟩ = some (.slice S sn sc) := T1.r.cell 0
          go_wp2_with fail
          refine (implTermOk S U sn sc un uc sg (subL sg xs a) _ T1.s (Own.seg ou) (by omega) (by omega)).mono ?_
          rintro e w14 ⟨he, bb⟩
          rw [HT.out] at he
          subst he
          replace T1 := T1.next bb
          have TB := Lib.hid T1.bel
          clear bb T1 ou cV
          go_wp2
          go_ret
          exact ⟨rfl, TB.out⟩
  · have LB := Lib.hid (wFnLess.bigAns A n c true w (by simp; omega) hN)
    clear h
    go_enter Try.func3, Try.ntmps3
    go_wp2_with fail
    refine LB.out.mono ?_
    rintro e w' ⟨rfl, rfl⟩
    clear LB
    go_wp2
    go_ret
    exact ⟨rfl, Below.refl _ _⟩
end Go.Proofs.Ytadajlchoongcaa.wFnTerms
