/-
  MERGED: my texts Same, WFnPut, one behind the other, as they are. By an AI agent.
-/
import Derived.Test.YtobifgobipcmdaaMFnPut3
section
/-
  CONTRACTS: spec.SameTerm, slices.Equal at []int64 and impl.SameTerm answer whether two slices hold the same numbers. Conditions: the slices read as lists ('Seg'), at most 1048576 elements. By an AI agent.
-/
namespace Go.Proofs.Ytobifgobipcmdaa.same
open Go.RowKit Go.Proofs.Ytobifgobipcmdaa.base Go.Proofs.Ytobifgobipcmdaa.ints

set_option maxHeartbeats 400000 in
theorem libEqual (A A' : Option Addr) (n m c c' : Nat) (xs ys : List Int) (w : World) (h : Seg w w.heap.size A n xs) (h' : Seg w w.heap.size A' m ys) (hn : n ≤ 1048576) (hm : m ≤ 1048576) :
    Calls Try.prog 52 #[.slice A n c, .slice A' m c'] w (AnsSame w xs ys) := by
  by_cases hnm : n = m
  · subst hnm
    go_enter Try.func52, Try.ntmps52
    go_wp2
    go_loopw [13] (fun i wr => HeadSame w n xs ys i wr) (fun i _ => n - (intOf i).toNat)
    case atStart => exact ⟨0, 0, Nat.zero_le _, rfl, rfl, fun j h => absurd h (Nat.not_lt_zero _)⟩
    case round =>
      obtain ⟨k, d, hk, rfl, rfl, hc⟩ := hrel
      by_cases hlt : k < n
      · obtain ⟨b, off, x, rfl, -, hx, ex⟩ := h.spot hlt
        obtain ⟨b', off', y, rfl, -, hx', ey⟩ := h'.spot hlt
        by_cases he : x = y
        · subst he
          have S := Lib.hid (alike_step (w := w) hlt hc ex ey)
          clear hc h h' ex ey
          go_wp2
          go_quiet (fail)
          go_wp2
          go_roundw
          case rel => exact S.out _
          case measure => simp [intOf]; omega
        · have S := Lib.hid (same_not (w := w) ex ey he)
          have hne : (x != y) = true := by simp [he]
          clear hc h h' ex ey he
          go_wp2
          go_quiet (fail)
          go_wp2
          go_ret
          rw [World.drewN_drewN]
          exact S.out _
      · have S := Lib.hid (same_yes (w := w) h.1 h'.1 hlt hc)
        clear hc h h'
        go_wp2
        go_ret
        exact S.out _
  · have S := Lib.hid (same_len (w := w) h.1 h'.1 hnm)
    have hne : ((n : Int) != (m : Int)) = true := by simp; omega
    clear h h'
    go_enter Try.func52, Try.ntmps52
    go_wp2
    go_ret
    exact S.out

theorem implSame (A A' : Option Addr) (n m c c' : Nat) (xs ys : List Int) (w : World) (h : Seg w w.heap.size A n xs) (h' : Seg w w.heap.size A' m ys) (hn : n ≤ 1048576) (hm : m ≤ 1048576) :
    Calls Try.prog 16 #[.slice A n c, .slice A' m c'] w (AnsSame w xs ys) := by
  have L := Lib.hid (libEqual A A' n m c c' xs ys w h h' hn hm)
  clear h h'
  go_enter Try.func16, Try.ntmps16
  go_wp2_with fail
  refine L.out.mono ?_
  rintro e w' ⟨rfl, d, rfl⟩
  go_wp2
  go_ret
  exact ⟨rfl, d, rfl⟩
end Go.Proofs.Ytobifgobipcmdaa.same
end

section
/-
  THE WALK of laws.FnPut: it returns true, whatever the bytes, and writes nothing that was there. Conditions: the slice holds bytes. By an AI agent.
-/
namespace Go.Proofs.Ytobifgobipcmdaa.wFnPut
open Go.RowKit Go.Proofs.Ytobifgobipcmdaa.base Go.Proofs.Ytobifgobipcmdaa.ints Go.Proofs.Ytobifgobipcmdaa.sig Go.Proofs.Ytobifgobipcmdaa.same Go.Proofs.Ytobifgobipcmdaa.term Go.Proofs.Ytobifgobipcmdaa.termOk Go.Proofs.Ytobifgobipcmdaa.endAt Go.Proofs.Ytobifgobipcmdaa.inside Go.Proofs.Ytobifgobipcmdaa.marks Go.Proofs.Ytobifgobipcmdaa.app Go.Proofs.Ytobifgobipcmdaa.sym Go.Proofs.Ytobifgobipcmdaa.sub Go.Proofs.Ytobifgobipcmdaa.args Go.Proofs.Ytobifgobipcmdaa.depth Go.Proofs.Ytobifgobipcmdaa.segs Go.Proofs.Ytobifgobipcmdaa.posMath Go.Proofs.Ytobifgobipcmdaa.pathSpec Go.Proofs.Ytobifgobipcmdaa.wayTo Go.Proofs.Ytobifgobipcmdaa.place Go.Proofs.Ytobifgobipcmdaa.putMath Go.Proofs.Ytobifgobipcmdaa.put Go.Proofs.Ytobifgobipcmdaa.putFacts Go.Proofs.Ytobifgobipcmdaa.dice Go.Proofs.Ytobifgobipcmdaa.drawPath Go.Proofs.Ytobifgobipcmdaa.bigs
set_option maxRecDepth 100000

/-- what stands after the draws: a signature in its variable, three lists -/
structure Tq (w : World) (v : Nat) (S : Option Addr) (sn sc : Nat) (sg : List Int) (O : Option Addr) (on : Nat) (xs : List Int) (U : Option Addr) (un : Nat) (us : List Int) (Y : Option Addr) (yn : Nat) (ys : List Int) (wr : World) : Prop where
  s : Seg wr wr.heap.size S sn sg
  t : Seg wr wr.heap.size O on xs
  u : Seg wr wr.heap.size U un us
  y : Seg wr wr.heap.size Y yn ys
  r : Row wr v 26 #[.slice S sn sc]
  bel : Below w.heap.size w wr
section
variable {w : World} {v : Nat} {S : Option Addr} {sn sc : Nat} {sg : List Int} {O : Option Addr} {on : Nat} {xs : List Int} {U : Option Addr} {un : Nat} {us : List Int} {Y : Option Addr} {yn : Nat} {ys : List Int} {wr w' : World}
theorem Tq.next (t : Tq w v S sn sc sg O on xs U un us Y yn ys wr) (hb : Below wr.heap.size wr w') : Tq w v S sn sc sg O on xs U un us Y yn ys w' := ⟨t.s.next hb, t.t.next hb, t.u.next hb, t.y.next hb, t.r.next hb, next_trans t.bel hb⟩
theorem Tq.drew (t : Tq w v S sn sc sg O on xs U un us Y yn ys wr) : Tq w v S sn sc sg O on xs U un us Y yn ys wr.drew := ⟨t.s, t.t, t.u, t.y, t.r, t.bel.drew⟩
theorem Tq.cell (t : Tq w v S sn sc sg O on xs U un us Y yn ys wr) : wr.cell? ⟨v, 0, none⟩ = some (.slice S sn sc) := t.r.cell 0
theorem Tq.with {Y' : Option Addr} {yn' : Nat} {ys' : List Int} (t : Tq w v S sn sc sg O on xs U un us Y yn ys wr) (h : Seg wr wr.heap.size Y' yn' ys') : Tq w v S sn sc sg O on xs U un us Y' yn' ys' wr := ⟨t.s, t.t, t.u, h, t.r, t.bel⟩
end
theorem sameYes (A A' : Option Addr) (n m c c' : Nat) (xs ys : List Int) (w : World) (h : Seg w w.heap.size A n xs) (h' : Seg w w.heap.size A' m ys) (e : xs = ys) (hn : n ≤ 1048576) (hm : m ≤ 1048576) :
    Calls Try.prog 16 #[.slice A n c, .slice A' m c'] w fun e w' => e = .returned (.bool true) ∧ Below w.heap.size w w' :=
  (implSame A A' n m c c' xs ys w h h' hn hm).mono fun _ _ ⟨he, d, hd⟩ => ⟨by rw [he, decide_eq_true e], by rw [hd]; exact below_drewN (Below.refl _ _) d⟩
theorem capOwn {w : World} {base : Nat} {A : Option Addr} {n c : Nat} {xs : List Int} (h : Own w base (.slice A n c) xs) : Cap A n c := ⟨(drawAny.Own.cap h).1, (drawAny.Own.cap h).2, drawTerm.Own.none_cap h⟩

set_option maxHeartbeats 2000000 in
theorem law (A : Option Addr) (n c : Nat) (_ : List Int) (w : World) (h : SegB w w.heap.size A n) (hN : n ≤ 9223372036854775807) :
    Calls Try.prog 3 #[.slice A n c] w (Fine w) := by
  by_cases hbig : n ≤ 4096
  · have LB := Lib.hid (bigAns A n c false w (by simp; omega) hN)
    go_enter Try.func3, Try.ntmps3
    go_wp2_with fail
    refine LB.out.mono ?_
    rintro e w' ⟨rfl, rfl⟩
    clear LB
    go_wp2_with fail
    refine (drawPutAt A n c w h hbig).mono ?_
    rintro e w2 ⟨S, sn, sc, sg, O, on, oc, xs, x, U, un, uc, us, rfl, ss, st, su, h3, h4, hcap, h5, hcapu, x0, x1, b2⟩
    clear h
    obtain ⟨v, hv⟩ : ∃ v, w2.heap.size = v := ⟨_, rfl⟩
    have T : Tq w v S sn sc sg O on xs U un us none 0 [] (w2.alloc (.cells #[.slice S sn sc] 26)) := by
      have bb : Below w2.heap.size w2 (w2.alloc (.cells #[.slice S sn sc] 26)) := (Below.refl _ _).alloc (Nat.le_refl _) _
      exact ⟨ss.next bb, st.next bb, su.next bb, Seg.empty, by rw [← hv]; exact Row.new _ _ _, next_trans b2 bb⟩
    obtain ⟨W, hW⟩ : ∃ W, W = w2.alloc (.cells #[.slice S sn sc] 26) := ⟨_, rfl⟩
    rw [← hW] at T
    have HW := Lib.hid hW
    have HV := Lib.hid hv
    have HX := Lib.hid st.1
    have HU := Lib.hid su.1
    have HC := Lib.hid hcap
    have HCU := Lib.hid hcapu
    clear ss st su b2 hW hv hcap hcapu
    have cV := T.cell
    have cV0 : (w2.alloc (.cells #[.slice S sn sc] 26)).cell? ⟨w2.heap.size, 0, none⟩ = some (.slice S sn sc) := by rw [← HW.out, HV.out]; exact cV
    go_wp2_with fail
    rw [← HW.out, HV.out]
    refine (implPutAt S O U sn sc on oc un uc sg xs x us _ T.s T.t T.u (by omega) (by omega) (by omega) (by omega) (by omega) HCU.out HC.out.1 HC.out.2.1).mono ?_
    rintro e w3 ⟨Y, yn, yc, rfl, oy, bb⟩
    replace T := (T.next bb).with (Own.seg oy)
    have HYL := Lib.hid (Own.len oy)
    have HYC := Lib.hid (capOwn oy)
    have hyn : yn ≤ 60 := by rw [Own.len oy]; exact putR_len
    clear bb cV cV0 oy
    have cV := T.cell
    go_wp2_with fail
    refine (specPutAt S O U sn sc on oc un uc sg xs x us _ T.s T.t T.u (by omega) (by omega) (by omega) HCU.out.2.2 HC.out.1 HC.out.2.1).mono ?_
    rintro e w4 ⟨Z, zn, zc, rfl, oz, bb⟩
    replace T := T.next bb
    have hzn : zn ≤ 60 := by rw [Own.len oz]; exact putR_len
    clear bb cV
    obtain ⟨b, hb⟩ : ∃ b, putB sg xs us x = b := ⟨_, rfl⟩
    rw [hb]
    have HB := Lib.hid hb
    clear hb
    have hbb : (b != b) = false := by simp
    go_wp2_with fail
    refine (sameYes Y Z yn zn yc zc _ _ _ T.y (Own.seg oz) rfl (by omega) (by omega)).mono ?_
    rintro e w5 ⟨rfl, bb⟩
    replace T := T.next bb
    clear bb oz
    cases b with
    | false =>
      have hy0 : yn = 0 := by
        rw [HYL.out]
        unfold putR
        rw [if_neg (by rw [HB.out]; simp)]
        rfl
      subst hy0
      have F := Lib.hid T.bel
      clear T
      go_wp2
      go_ret
      exact ⟨rfl, F.out⟩
    | true =>
      obtain ⟨hth, huo, hfit⟩ := putB_parts HB.out
      obtain ⟨hok, i0, i1⟩ := there_parts hth
      obtain ⟨a, rfl⟩ := Int.eq_ofNat_of_zero_le i0
      rw [Int.toNat_natCast] at hfit
      have HR := Lib.hid (show putR sg xs us (a : Int) = putI sg xs us a by unfold putR; rw [if_pos HB.out, Int.toNat_natCast])
      obtain ⟨hY, haY, hsub, hpB, hpR⟩ := put_facts hth huo hfit
      have HAP : Hid (∀ (p : Nat) (pa : List Int), apartB sg xs (a : Int) (p : Int) = true → PathIs sg xs (p : Int) pa → ∃ q : Nat, placeI sg (putI sg xs us a) pa = (q : Int) ∧ q < (putI sg xs us a).length ∧ subI sg (putI sg xs us a) (q : Int) = subI sg xs (p : Int)) := Lib.hid (fun p pa h hp => apart_facts hth huo hfit h hp)
      have HSU := Lib.hid (show subI sg xs (a : Int) = subL sg xs a by unfold subI; rw [if_pos hth, Int.toNat_natCast])
      rw [HR.out] at T HYL
      obtain ⟨ys, hys⟩ : ∃ ys, putI sg xs us a = ys := ⟨_, rfl⟩
      rw [hys] at T HYL hY haY hsub hpB hpR HAP
      have HYO := Lib.hid hY
      have HSB := Lib.hid hsub
      have HPB := Lib.hid hpB
      have HPR := Lib.hid hpR
      have HYN := Lib.hid (show ys.length = yn from HYL.out.symm)
      have ia : (a : Int) ≤ 65 := by omega
      have hon : on ≤ 60 := by have h1 := (termOk_parts hok).2.1; rw [HX.out] at h1; exact h1
      clear hth huo hfit hok i0 i1 hY haY hsub hpB hpR hys HR HYL HB
      have cV := T.cell
      go_wp2_with fail
      refine (implSubAt S Y sn sc yn yc sg ys (a : Int) _ T.s T.y (by omega) (by omega) (by omega) (by omega) HYC.out.1 HYC.out.2.1).mono ?_
      rintro e w6 ⟨Z1, n1, c1, rfl, o1, bb⟩
      rw [HSB.out] at o1
      replace T := T.next bb
      clear bb cV
      have hn1 : n1 ≤ 65 := by rw [Own.len o1, HU.out]; exact h5
      go_wp2_with fail
      refine (sameYes Z1 U n1 un c1 uc _ _ _ (Own.seg o1) T.u rfl (by omega) (by omega)).mono ?_
      rintro e w7 ⟨rfl, bb⟩
      replace T := T.next bb
      clear bb o1
      have cV := T.cell
      go_wp2_with fail
      refine (implTermOk S Y sn sc yn yc sg ys _ T.s T.y (by omega) (by omega)).mono ?_
      rintro e w8 ⟨he, bb⟩
      rw [HYO.out] at he
      subst he
      replace T := T.next bb
      clear bb cV
      have HT := Lib.hid T
      clear T
      go_wp2_with fail
      go_loopg [11] on (fun g i wr => ∃ p : Nat, i = .int .i64 p ∧ p + g = on ∧ Tq w v S sn sc sg O on xs U un us Y yn ys wr)
      case atStart => exact ⟨0, rfl, by omega, HT.out⟩
      case round =>
        obtain ⟨p, rfl, hp, T⟩ := hrel
        clear HT
        have HP := Lib.hid hp
        clear hp
        by_cases hpo : p < on
        · have hgk := Lib.hid (show gk - 1 < gk ∧ p + 1 + (gk - 1) = on by have := HP.out; omega)
          have cV := T.cell
          obtain ⟨ba, hba⟩ : ∃ b, apartB sg xs (a : Int) (p : Int) = b := ⟨_, rfl⟩
          have HBA := Lib.hid hba
          clear hba
          go_wp2_with fail
          refine (implApartIn S O sn sc on oc sg xs (a : Int) (p : Int) _ T.s T.t (by omega) (by omega) (by omega) (by omega) (by omega) (by omega)).mono ?_
          rintro e w9 ⟨he, bb⟩
          rw [HBA.out] at he
          subst he
          replace T := T.next bb
          clear bb cV
          cases ba with
          | false =>
            have HT := Lib.hid T
            clear T
            go_wp2
            go_roundg (gk - 1)
            case measure => exact hgk.out.1
            case rel => exact ⟨p + 1, by simp, hgk.out.2, HT.out⟩
          | true =>
            obtain ⟨pa, hpa⟩ := path_ex sg xs (p : Int)
            obtain ⟨q, q1, q2, q3⟩ := HAP.out p pa HBA.out hpa
            have HPA := Lib.hid hpa
            have hpl := hpa.len
            have Q1 := Lib.hid q1
            have Q3 := Lib.hid q3
            obtain ⟨zs, hzs⟩ : ∃ zs, subI sg xs (p : Int) = zs := ⟨_, rfl⟩
            rw [hzs] at Q3
            have HZS := Lib.hid hzs
            have hzl : zs.length ≤ 1048576 := by rw [← hzs]; exact subI_len HX.out (by omega)
            have q60 : q ≤ 60 := by rw [HYN.out] at q2; omega
            have iq : ¬ (q : Int) < 0 := by omega
            clear hpa q1 q2 q3 hzs
            replace T := T.drew
            have cV := T.cell
            go_wp2_with fail
            go_region_held3 (fun w' => w'.cell? ⟨v, 0, none⟩ = some (.slice S sn sc))
              (first | assumption | go_keep)
              (first
                | (go_at_call 21; refine (implPathOf S O sn sc on oc sg xs (p : Int) pa _ T.s T.t (by omega) (by omega) HPA.out).mono ?_; rintro e w10 ⟨Q, qn, qc, rfl, oq, b10⟩; have T10 := T.next b10; have cV10 := T10.cell; have sq := Own.seg oq; have hqn : qn ≤ 60 := by (rw [Own.len oq]; exact hpl))
                | (go_at_call 20; refine (implPlaceOf S Y Q sn sc yn yc qn qc sg ys pa _ T10.s T10.y sq (by omega) (by omega) (by omega)).mono ?_; rintro e w11 ⟨he, b11⟩; rw [Q1.out] at he; subst he; have T11 := T10.next b11; have cV11 := T11.cell))
            replace T := T11.drew
            clear T10 T11 cV cV10 cV11 sq oq b10 b11
            have cV := T.cell
            go_wp2_with fail
            go_region_held3 (fun w' => w'.cell? ⟨v, 0, none⟩ = some (.slice S sn sc))
              (first | assumption | go_keep)
              (first
                | (go_at_call 17; have X := implSubAt S Y sn sc yn yc sg ys (q : Int) _ T.s T.y (by omega) (by omega) (by omega) (by omega) HYC.out.1 HYC.out.2.1; (with_reducible refine X.mono ?_); clear X; rintro e w12 ⟨Z2, n2, c2, rfl, o2, b12⟩; rw [Q3.out] at o2; have T12 := T.next b12; have cV12 := T12.cell)
                | (go_at_call 17; have X := implSubAt S O sn sc on oc sg xs (p : Int) _ T12.s T12.t (by omega) (by omega) (by omega) (by omega) HC.out.1 HC.out.2.1; (with_reducible refine X.mono ?_); clear X; rintro e w13 ⟨Z3, n3, c3, rfl, o3, b13⟩; rw [HZS.out] at o3; have o2b := Own.next o2 b13; have T13 := T12.next b13; have cV13 := T13.cell)
                | (go_at_call 16; refine (sameYes Z2 Z3 n2 n3 c2 c3 zs zs _ (Own.seg o2b) (Own.seg o3) rfl (by rw [Own.len o2b]; exact hzl) (by rw [Own.len o3]; exact hzl)).mono ?_; rintro e w14 ⟨rfl, b14⟩; have T14 := T13.next b14; have cV14 := T14.cell))
            all_goals
              have HT := Lib.hid T14
              clear T T12 T13 T14 cV cV12 cV13 cV14 o2 o2b o3 b12 b13 b14
              go_wp2
              go_roundg (gk - 1)
              case measure => exact hgk.out.1
              case rel => exact ⟨p + 1, by simp, hgk.out.2, HT.out⟩
        · replace T := T.drew
          have cV := T.cell
          have hxl : xs.length ≤ 65 := by rw [HX.out]; exact h4
          have hsl : (subL sg xs a).length ≤ 65 := by unfold subL; rw [List.length_take, List.length_drop]; omega
          obtain ⟨zs, hzs⟩ : ∃ zs, subL sg xs a = zs := ⟨_, rfl⟩
          rw [hzs] at HSU HPB HPR hsl
          clear hzs
          go_wp2_with fail
          go_region_held3 (fun w' => w'.cell? ⟨v, 0, none⟩ = some (.slice S sn sc))
            (first | assumption | go_keep)
            (first
              | (go_at_call 22; refine (specSubAt S O sn sc on oc sg xs (a : Int) _ T.s T.t (by omega) (by omega) (by omega) (by omega) HC.out.1 HC.out.2.1).mono ?_; rintro e w15 ⟨Z4, n4, c4, rfl, o4, b15⟩; rw [HSU.out] at o4; have T15 := T.next b15; have cV15 := T15.cell)
              | (go_at_call 14; refine (implPutAt S Y Z4 sn sc yn yc n4 c4 sg ys (a : Int) zs _ T15.s T15.y (Own.seg o4) (by omega) (by omega) (by rw [Own.len o4]; omega) (by omega) (by omega) (capOwn o4) HYC.out.1 HYC.out.2.1).mono ?_; rintro e w16 ⟨Z5, n5, c5, rfl, o5, b16⟩; rw [HPR.out] at o5; rw [HPB.out]; have T16 := T15.next b16; have cV16 := T16.cell))
          replace T := T16
          clear T15 T16 cV cV15 cV16 o4 b15 b16
          have hn5 : n5 ≤ 65 := by rw [Own.len o5]; exact hxl
          go_wp2_with fail
          refine (sameYes Z5 O n5 on c5 oc _ _ _ (Own.seg o5) T.t rfl (by omega) (by omega)).mono ?_
          rintro e w17 ⟨rfl, bb⟩
          have F := Lib.hid (T.next bb).bel
          clear T bb o5
          go_wp2
          go_ret
          exact ⟨rfl, F.out⟩
  · have LB := Lib.hid (bigAns A n c true w (by simp; omega) hN)
    clear h
    go_enter Try.func3, Try.ntmps3
    go_wp2_with fail
    refine LB.out.mono ?_
    rintro e w' ⟨rfl, rfl⟩
    clear LB
    go_wp2
    go_ret
    exact ⟨rfl, Below.refl _ _⟩
end Go.Proofs.Ytobifgobipcmdaa.wFnPut
end
