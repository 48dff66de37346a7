/-
  MERGED: my texts WFnWalksGoOn, one behind the other, as they are. By an AI agent.
-/
import Derived.Test.YtpcnjcgglonifaaGreatMFnWalksGoOn10
section
namespace Go.Proofs.YtpcnjcgglonifaaGreat.wFnWalksGoOn
open Go.RowKit base ints sig term termOk termFacts cursor marks app sym segs dice bigs drawL7 drawW shape kinds kindsR kindsW kindsT varsOf shifted ruleMath ruleSpec stepMath walkMath stepSpec stepImpl walkSpec walkImpl walkX und undX sub same lawS lawW w5 heldT
set_option maxRecDepth 100000

set_option maxHeartbeats 40000000 in
theorem law (A : Option Addr) (n c : Nat) (_ : List Int) (w : World) (h : SegB w w.heap.size A n) (hN : n ≤ 9223372036854775807) :
    Calls Tryz.prog 5 #[.slice A n c] w (Fine w) := by
  by_cases hbig : n ≤ 4096
  · have LB := Lib.hid (bigAns A n c false w (by simp; omega) hN)
    have HSB := Lib.hid h
    go_enter Tryz.func5, Tryz.ntmps5
    go_wp2_with fail
    refine LB.out.mono ?_
    rintro e w' ⟨rfl, rfl⟩
    clear LB
    go_wp2_with fail
    refine (drawWalkInside A n c w h hbig).mono ?_
    rintro e w2 ⟨S, sn, sc, R, rn, rc, d, F, fn, fc, Q, qn, qc, k, U, un, uc, t, x, rfl, sd, hz0, kd, kz0, td, ht65, x0, x1, b2⟩
    clear h
    have hz : sz sSystem d ≤ 1048576 := by omega
    have hk : sz sWalk k ≤ 1048576 := by omega
    have hzt : sz sI t ≤ 1048576 := by rw [sz_ints]; omega
    have hsn : sn ≤ 1048576 := by
      obtain ⟨A1, m1, q1, A2, m2, q2, e1, e2, h3, -, -, -, h7, -⟩ := rd_sys sd hz
      injection e1 with e3 e4 e5
      omega
    have hqn : qn ≤ 1048576 := by
      obtain ⟨F1, fn1, fc1, S1, sn1, sc1, e1, e2, -, -, -, -, h7, -⟩ := rd_walk kd hk
      injection e2 with e3 e4 e5
      omega
    obtain ⟨o3, ho3⟩ : ∃ o, w2.heap.size = o := ⟨_, rfl⟩
    obtain ⟨o4, ho4⟩ : ∃ o, w2.heap.size + 1 = o := ⟨_, rfl⟩
    obtain ⟨W, hW⟩ : ∃ W, W = (w2.alloc (.cells #[.slice S sn sc, .slice R rn rc] 29)).alloc (.cells #[.slice F fn fc, .slice Q qn qc] 41) := ⟨_, rfl⟩
    have bb : Below w2.heap.size w2 W := by rw [hW]; exact ((Below.refl _ _).alloc (Nat.le_refl _) _).alloc (by simp) _
    have T : Sy w o3 S sn sc R rn rc d (.slice U un uc) t W := ⟨sd.next bb, td.next bb, by rw [hW, ← ho3]; exact Go.Proofs.YtpcnjcgglonifaaGreat.compImpl.row_alloc (Row.new _ _ _), next_trans b2 bb⟩
    have M : Lo o4 F Q fn fc qn qc k W := ⟨kd.next bb, by rw [hW, ← ho4]; exact Go.Proofs.YtpcnjcgglonifaaGreat.compImpl.row_top (by simp)⟩
    have HW := Lib.hid hW
    have HO3 := Lib.hid ho3
    have HO4 := Lib.hid ho4
    have HZ := Lib.hid (show sz sSystem d ≤ 1048576 ∧ sz sWalk k ≤ 1048576 ∧ sz sI t ≤ 1048576 from ⟨hz, hk, hzt⟩)
    have HX := Lib.hid (show -9223372036854775808 ≤ x ∧ x ≤ 9223372036854775807 from ⟨by omega, by omega⟩)
    obtain ⟨ok, hok⟩ : ∃ b, walkB d.1 d.2 k = b := ⟨_, rfl⟩
    obtain ⟨fine, hfine⟩ : ∃ b, insideB d.1 d.2 k t x = b := ⟨_, rfl⟩
    have HOK := Lib.hid hok
    have HFI := Lib.hid hfine
    have himp : Hid (fine = true → ok = true) := Lib.hid (fun e => by
      cases hq : ok with
      | true => rfl
      | false => rw [ins_off (hok.trans hq)] at hfine; rw [← hfine] at e; cases e)
    clear sd td kd b2 bb hW ho3 ho4 hz hk hzt hz0 kz0 ht65 hok hfine x0 x1
    have c0 : W.cell? ⟨o3, 0, none⟩ = some (.slice S sn sc) := T.c0
    have c1 : W.cell? ⟨o3, 1, none⟩ = some (.slice R rn rc) := T.c1
    have m0 : W.cell? ⟨o4, 0, none⟩ = some (.slice F fn fc) := M.c0
    have m1 : W.cell? ⟨o4, 1, none⟩ = some (.slice Q qn qc) := M.c1
    have LI := Lib.hid (implWalkOk _ _ _ _ d k W T.s M.m HZ.out.1 HZ.out.2.1)
    rw [HOK.out] at LI
    go_upto_region 4 with fail
    rw [← HW.out, HO4.out, HO3.out]
    go_wp2_with fail
    refine LI.out.mono ?_
    rintro e w3 ⟨rfl, bb⟩
    replace T := T.next bb
    replace M := M.next bb
    clear bb c0 c1 m0 m1 HW HO3 HO4 LI
    have c0 : w3.cell? ⟨o3, 0, none⟩ = some (.slice S sn sc) := T.c0
    have c1 : w3.cell? ⟨o3, 1, none⟩ = some (.slice R rn rc) := T.c1
    have m0 : w3.cell? ⟨o4, 0, none⟩ = some (.slice F fn fc) := M.c0
    have m1 : w3.cell? ⟨o4, 1, none⟩ = some (.slice Q qn qc) := M.c1
    have LI := Lib.hid (implWalkInside _ _ _ _ _ d k t x w3 T.s M.m T.t HZ.out.1 HZ.out.2.1 HZ.out.2.2 HX.out.1 HX.out.2)
    rw [HFI.out] at LI
    go_wp2_with fail
    refine LI.out.mono ?_
    rintro e w4 ⟨F8, fn8, fc8, Q8, qn8, qc8, rfl, oW, bb⟩
    obtain ⟨o8, ho8⟩ : ∃ o, w4.heap.size = o := ⟨_, rfl⟩
    obtain ⟨W5, hW5⟩ : ∃ W, W = w4.alloc (.cells #[.slice F8 fn8 fc8, .slice Q8 qn8 qc8] 41) := ⟨_, rfl⟩
    obtain ⟨I, b5⟩ := Lo.of oW.rd ho8 hW5
    replace T := (T.next bb).next b5
    replace M := (M.next bb).next b5
    have HW5 := Lib.hid hW5
    have HO8 := Lib.hid ho8
    clear oW bb b5 hW5 ho8 c0 c1 m0 m1 LI
    have c0 : W5.cell? ⟨o3, 0, none⟩ = some (.slice S sn sc) := T.c0
    have c1 : W5.cell? ⟨o3, 1, none⟩ = some (.slice R rn rc) := T.c1
    have m0 : W5.cell? ⟨o4, 0, none⟩ = some (.slice F fn fc) := M.c0
    have m1 : W5.cell? ⟨o4, 1, none⟩ = some (.slice Q qn qc) := M.c1
    have LI := Lib.hid (specWalkInside _ _ _ _ _ d k t x W5 T.s M.m T.t HZ.out.1 HZ.out.2.1 HZ.out.2.2 HX.out.1 HX.out.2)
    rw [HFI.out] at LI
    go_upto_region 6 with fail
    rw [← HW5.out, HO8.out]
    go_wp2_with fail
    refine LI.out.mono ?_
    rintro e w6 ⟨F10, fn10, fc10, Q10, qn10, qc10, rfl, oW, bb⟩
    obtain ⟨o10, ho10⟩ : ∃ o, w6.heap.size = o := ⟨_, rfl⟩
    obtain ⟨W7, hW7⟩ : ∃ W, W = w6.alloc (.cells #[.slice F10 fn10 fc10, .slice Q10 qn10 qc10] 41) := ⟨_, rfl⟩
    have b7 : Below w6.heap.size w6 W7 := by rw [hW7]; exact (Below.refl _ _).alloc (Nat.le_refl _) _
    replace T := (T.next bb).next b7
    replace M := (M.next bb).next b7
    replace I := (I.next bb).next b7
    have HW7 := Lib.hid hW7
    have HO10 := Lib.hid ho10
    clear oW bb b7 hW7 ho10 c0 c1 m0 m1 LI HW5 HO8
    have c0 : W7.cell? ⟨o3, 0, none⟩ = some (.slice S sn sc) := T.c0
    have c1 : W7.cell? ⟨o3, 1, none⟩ = some (.slice R rn rc) := T.c1
    have m0 : W7.cell? ⟨o4, 0, none⟩ = some (.slice F fn fc) := M.c0
    have m1 : W7.cell? ⟨o4, 1, none⟩ = some (.slice Q qn qc) := M.c1
    have LI := Lib.hid (specWalkOk _ _ _ _ d k W7 T.s M.m HZ.out.1 HZ.out.2.1)
    rw [HOK.out] at LI
    cases ok with
    | false =>
      cases fine with
      | true => have := himp.out rfl; cases this
      | false =>
        go_upto_region 7 with fail
        rw [← HW7.out, HO10.out]
        go_wp2_with fail
        refine LI.out.mono ?_
        rintro e w8 ⟨rfl, bb⟩
        replace T := T.next bb
        replace M := M.next bb
        replace I := I.next bb
        clear bb c0 c1 m0 m1 LI HW7 HO10 himp
        have HT := Lib.hid T.drew
        have HM := Lib.hid M.drew
        clear T M I
        go_wp2_with fail
        refine AnyT.start (S := (fun _ => True)) (fun _ => false) (by kernel_rfl) trivial (fun hHeld => ?_)
        refine AnyT.takeA (i := 0) (v := ?_) rfl (by kernel_rfl) (by kernel_rfl) (by kernel_rfl) (fun _ _ _ h => h) (Or.inl ⟨by rfl, ?_⟩) ?_
        rotate_left 1
        · (intro w0 _; go_simp; try with_reducible rfl)
        try simp only [Act.put, List.setIfInBounds_toArray, List.set_cons_zero, List.set_cons_succ, List.getElem_toArray, List.getElem_cons_zero, List.getElem_cons_succ]
        refine AnyT.takeA (i := 1) (v := ?_) rfl (by kernel_rfl) (by kernel_rfl) (by kernel_rfl) (fun _ _ _ h => h) (Or.inl ⟨by rfl, ?_⟩) ?_
        rotate_left 1
        · (intro w0 _; go_simp; try with_reducible rfl)
        try simp only [Act.put, List.setIfInBounds_toArray, List.set_cons_zero, List.set_cons_succ, List.getElem_toArray, List.getElem_cons_zero, List.getElem_cons_succ]
        refine AnyT.takeA (i := 2) (v := undef) rfl (by kernel_rfl) (by kernel_rfl) (by kernel_rfl) (fun _ _ _ h => h) (Or.inr ⟨by rfl, rfl⟩) ?_
        try simp only [Act.put, List.setIfInBounds_toArray, List.set_cons_zero, List.set_cons_succ, List.getElem_toArray, List.getElem_cons_zero, List.getElem_cons_succ]
        refine AnyT.takeA (i := 3) (v := undef) rfl (by kernel_rfl) (by kernel_rfl) (by kernel_rfl) (fun _ _ _ h => h) (Or.inr ⟨by rfl, rfl⟩) ?_
        try simp only [Act.put, List.setIfInBounds_toArray, List.set_cons_zero, List.set_cons_succ, List.getElem_toArray, List.getElem_cons_zero, List.getElem_cons_succ]
        refine AnyT.takeA (i := 4) (v := undef) rfl (by kernel_rfl) (by kernel_rfl) (by kernel_rfl) (fun _ _ _ h => h) (Or.inr ⟨by rfl, rfl⟩) ?_
        try simp only [Act.put, List.setIfInBounds_toArray, List.set_cons_zero, List.set_cons_succ, List.getElem_toArray, List.getElem_cons_zero, List.getElem_cons_succ]
        refine AnyT.takeA (i := 5) (v := undef) rfl (by kernel_rfl) (by kernel_rfl) (by kernel_rfl) (fun _ _ _ h => h) (Or.inr ⟨by rfl, rfl⟩) ?_
        try simp only [Act.put, List.setIfInBounds_toArray, List.set_cons_zero, List.set_cons_succ, List.getElem_toArray, List.getElem_cons_zero, List.getElem_cons_succ]
        refine AnyT.takeA (i := 7) (v := undef) rfl (by kernel_rfl) (by kernel_rfl) (by kernel_rfl) (fun _ _ _ h => h) (Or.inr ⟨by rfl, rfl⟩) ?_
        try simp only [Act.put, List.setIfInBounds_toArray, List.set_cons_zero, List.set_cons_succ, List.getElem_toArray, List.getElem_cons_zero, List.getElem_cons_succ]
        refine AnyT.takeA (i := 9) (v := undef) rfl (by kernel_rfl) (by kernel_rfl) (by kernel_rfl) (fun _ _ _ h => h) (Or.inr ⟨by rfl, rfl⟩) ?_
        try simp only [Act.put, List.setIfInBounds_toArray, List.set_cons_zero, List.set_cons_succ, List.getElem_toArray, List.getElem_cons_zero, List.getElem_cons_succ]
        refine AnyT.takeA (i := 10) (v := undef) rfl (by kernel_rfl) (by kernel_rfl) (by kernel_rfl) (fun _ _ _ h => h) (Or.inr ⟨by rfl, rfl⟩) ?_
        try simp only [Act.put, List.setIfInBounds_toArray, List.set_cons_zero, List.set_cons_succ, List.getElem_toArray, List.getElem_cons_zero, List.getElem_cons_succ]
        refine AnyT.call (i := 6) (by kernel_rfl) rfl (fun K hK => ?_)
        try simp only [Act.put, List.setIfInBounds_toArray, List.set_cons_zero, List.set_cons_succ, List.getElem_toArray, List.getElem_cons_zero, List.getElem_cons_succ]
        rw [if_neg (by intro h; cases h)]
        refine hK.out _ _ (fun _ h => h) (fun _ => ?_)
        clear hK K
        try simp only [Act.put, List.setIfInBounds_toArray, List.set_cons_zero, List.set_cons_succ, List.getElem_toArray, List.getElem_cons_zero, List.getElem_cons_succ]
        refine AnyT.call (i := 8) (by kernel_rfl) rfl (fun K hK => ?_)
        try simp only [Act.put, List.setIfInBounds_toArray, List.set_cons_zero, List.set_cons_succ, List.getElem_toArray, List.getElem_cons_zero, List.getElem_cons_succ]
        rw [if_neg (by intro h; cases h)]
        refine hK.out _ _ (fun _ h => h) (fun _ => ?_)
        clear hK K
        try simp only [Act.put, List.setIfInBounds_toArray, List.set_cons_zero, List.set_cons_succ, List.getElem_toArray, List.getElem_cons_zero, List.getElem_cons_succ]
        refine AnyT.call (i := 11) (by kernel_rfl) rfl (fun K hK => ?_)
        try simp only [Act.put, List.setIfInBounds_toArray, List.set_cons_zero, List.set_cons_succ, List.getElem_toArray, List.getElem_cons_zero, List.getElem_cons_succ]
        rw [if_neg (by intro h; cases h)]
        refine hK.out _ _ (fun _ h => h) (fun _ => ?_)
        clear hK K
        try simp only [Act.put, List.setIfInBounds_toArray, List.set_cons_zero, List.set_cons_succ, List.getElem_toArray, List.getElem_cons_zero, List.getElem_cons_succ]
        refine AnyT.call (i := 12) (by kernel_rfl) rfl (fun K hK => ?_)
        try simp only [Act.put, List.setIfInBounds_toArray, List.set_cons_zero, List.set_cons_succ, List.getElem_toArray, List.getElem_cons_zero, List.getElem_cons_succ]
        rw [if_neg (by intro h; cases h)]
        refine hK.out _ _ (fun _ h => h) (fun _ => ?_)
        clear hK K
        try simp only [Act.put, List.setIfInBounds_toArray, List.set_cons_zero, List.set_cons_succ, List.getElem_toArray, List.getElem_cons_zero, List.getElem_cons_succ]
        refine AnyT.takeA (i := 13) (v := undef) rfl (by kernel_rfl) (by kernel_rfl) (by kernel_rfl) (fun _ _ _ h => h) (Or.inr ⟨by rfl, rfl⟩) ?_
        try simp only [Act.put, List.setIfInBounds_toArray, List.set_cons_zero, List.set_cons_succ, List.getElem_toArray, List.getElem_cons_zero, List.getElem_cons_succ]
        refine AnyT.takeA (i := 14) (v := ?_) rfl (by kernel_rfl) (by kernel_rfl) (by kernel_rfl) (fun _ _ _ h => h) (Or.inl ⟨by rfl, ?_⟩) ?_
        rotate_left 1
        · (intro w0 _; go_simp; try with_reducible rfl)
        try simp only [Act.put, List.setIfInBounds_toArray, List.set_cons_zero, List.set_cons_succ, List.getElem_toArray, List.getElem_cons_zero, List.getElem_cons_succ]
        refine AnyT.done (by kernel_rfl) ?_ _
        have T := HT.out
        have M := HM.out
        clear HT HM
        obtain ⟨wx, hwx⟩ : ∃ q, w8.drew = q := ⟨_, rfl⟩
        rw [hwx] at T M
        have HWX := Lib.hid hwx
        clear hwx
        have LD := Lib.hid (drawWalkUnder A n c wx (segB_next HSB.out T.b) hbig)
        have HT := Lib.hid T
        have HM := Lib.hid M
        clear T M
        go_upto_region 11 with fail
        rw [HWX.out]
        go_wp2_with fail
        refine LD.out.mono ?_
        rintro e wy ⟨S2, sn2, sc2, R2, rn2, rc2, d2, F2, fn2, fc2, Q2, qn2, qc2, k2, B, m, cB, ss, rfl, sd2, hz2, kd2, kz2, xd, xz, bb⟩
        have T := HT.out.next bb
        have M := HM.out.next bb
        have HZ2 := Lib.hid (show sz sSystem d2 ≤ 1048576 ∧ sz sWalk k2 ≤ 1048576 ∧ sz sSubst ss ≤ 1048576 from ⟨by omega, by omega, by omega⟩)
        obtain ⟨told, htold⟩ : ∃ b, undB d2.1 d2.2 k2 ss = b := ⟨_, rfl⟩
        have HTO := Lib.hid htold
        obtain ⟨o12, ho12⟩ : ∃ o, wy.heap.size = o := ⟨_, rfl⟩
        obtain ⟨o13, ho13⟩ : ∃ o, wy.heap.size + 1 = o := ⟨_, rfl⟩
        obtain ⟨o14, ho14⟩ : ∃ o, wy.heap.size + 1 + 1 = o := ⟨_, rfl⟩
        obtain ⟨V, hV⟩ : ∃ W, W = ((wy.alloc (.cells #[.slice S2 sn2 sc2, .slice R2 rn2 rc2] 29)).alloc (.cells #[.slice F2 fn2 fc2, .slice Q2 qn2 qc2] 41)).alloc (.cells #[.slice B m cB] 59) := ⟨_, rfl⟩
        have bv : Below wy.heap.size wy V := by rw [hV]; exact (((Below.refl _ _).alloc (Nat.le_refl _) _).alloc (by simp) _).alloc (by simp; omega) _
        replace T := T.next bv
        replace M := M.next bv
        have U2 : Un o12 o13 o14 S2 sn2 sc2 R2 rn2 rc2 d2 F2 Q2 fn2 fc2 qn2 qc2 k2 B m cB ss V := ⟨sd2.next bv, by rw [hV, ← ho12]; exact Go.Proofs.YtpcnjcgglonifaaGreat.compImpl.row_alloc (Go.Proofs.YtpcnjcgglonifaaGreat.compImpl.row_alloc (Row.new _ _ _)), ⟨kd2.next bv, by rw [hV, ← ho13]; exact Go.Proofs.YtpcnjcgglonifaaGreat.compImpl.row_alloc (Go.Proofs.YtpcnjcgglonifaaGreat.compImpl.row_top (by simp))⟩, xd.next bv, by rw [hV, ← ho14]; exact Go.Proofs.YtpcnjcgglonifaaGreat.compImpl.row_top (by simp)⟩
        have HV := Lib.hid hV
        have HO12 := Lib.hid ho12
        have HO13 := Lib.hid ho13
        have HO14 := Lib.hid ho14
        clear HT HM LD sd2 hz2 kd2 kz2 xd xz bb bv hV ho12 ho13 ho14 htold
        have LU := Lib.hid (implWalkUnder _ _ _ _ _ d2 k2 ss V U2.s U2.lo.m U2.x HZ2.out.1 HZ2.out.2.1 HZ2.out.2.2)
        rw [HTO.out] at LU
        have c0 : V.cell? ⟨o12, 0, none⟩ = some (.slice S2 sn2 sc2) := U2.r.cell 0
        have c1 : V.cell? ⟨o12, 1, none⟩ = some (.slice R2 rn2 rc2) := U2.r.cell 1
        have c2 : V.cell? ⟨o13, 0, none⟩ = some (.slice F2 fn2 fc2) := U2.lo.c0
        have c3 : V.cell? ⟨o13, 1, none⟩ = some (.slice Q2 qn2 qc2) := U2.lo.c1
        have c4 : V.cell? ⟨o14, 0, none⟩ = some (.slice B m cB) := U2.rx.cell 0
        go_upto_region 12 with fail
        rw [← HV.out, HO14.out, HO13.out, HO12.out]
        go_wp2_with fail
        refine LU.out.mono ?_
        rintro e v4 ⟨F15, fn15, fc15, Q15, qn15, qc15, rfl, oW, bb⟩
        obtain ⟨o15, ho15⟩ : ∃ o, v4.heap.size = o := ⟨_, rfl⟩
        obtain ⟨V5, hV5⟩ : ∃ W, W = v4.alloc (.cells #[.slice F15 fn15 fc15, .slice Q15 qn15 qc15] 41) := ⟨_, rfl⟩
        obtain ⟨J, b5⟩ := Lo.of oW.rd ho15 hV5
        replace T := (T.next bb).next b5
        replace M := (M.next bb).next b5
        replace U2 := (U2.next bb).next b5
        have HV5 := Lib.hid hV5
        have HO15 := Lib.hid ho15
        clear oW bb b5 hV5 ho15 c0 c1 c2 c3 c4 LU HV HO12 HO13 HO14
        have LU := Lib.hid (specWalkUnder _ _ _ _ _ d2 k2 ss V5 U2.s U2.lo.m U2.x HZ2.out.1 HZ2.out.2.1 HZ2.out.2.2)
        rw [HTO.out] at LU
        have c0 : V5.cell? ⟨o12, 0, none⟩ = some (.slice S2 sn2 sc2) := U2.r.cell 0
        have c1 : V5.cell? ⟨o12, 1, none⟩ = some (.slice R2 rn2 rc2) := U2.r.cell 1
        have c2 : V5.cell? ⟨o13, 0, none⟩ = some (.slice F2 fn2 fc2) := U2.lo.c0
        have c3 : V5.cell? ⟨o13, 1, none⟩ = some (.slice Q2 qn2 qc2) := U2.lo.c1
        have c4 : V5.cell? ⟨o14, 0, none⟩ = some (.slice B m cB) := U2.rx.cell 0
        go_upto_region 13 with fail
        rw [← HV5.out, HO15.out]
        go_wp2_with fail
        refine LU.out.mono ?_
        rintro e v6 ⟨F17, fn17, fc17, Q17, qn17, qc17, rfl, oW, bb⟩
        obtain ⟨V7, hV7⟩ : ∃ W, W = v6.alloc (.cells #[.slice F17 fn17 fc17, .slice Q17 qn17 qc17] 41) := ⟨_, rfl⟩
        have b7 : Below v6.heap.size v6 V7 := by rw [hV7]; exact (Below.refl _ _).alloc (Nat.le_refl _) _
        replace T := (T.next bb).next b7
        replace M := (M.next bb).next b7
        replace U2 := (U2.next bb).next b7
        replace J := (J.next bb).next b7
        have HV7 := Lib.hid hV7
        clear oW bb b7 hV7 c0 c1 c2 c3 c4 LU HV5 HO15
        go_upto_region 14 with fail
        rw [← HV7.out]
        clear HV7
        cases told
        case' false =>
          clear U2 J
          obtain ⟨v8, hv8⟩ : ∃ z, z = V7 := ⟨_, rfl⟩
          subst hv8
        case' true =>
          have LK := Lib.hid (implWalkOk _ _ _ _ d2 (undW d2.1 d2.2 k2 ss) V7 U2.s J.m HZ2.out.1 und_sz)
          rw [und_walk HTO.out] at LK
          have c0 : V7.cell? ⟨o12, 0, none⟩ = some (.slice S2 sn2 sc2) := U2.r.cell 0
          have c1 : V7.cell? ⟨o12, 1, none⟩ = some (.slice R2 rn2 rc2) := U2.r.cell 1
          have c2 : V7.cell? ⟨o15, 0, none⟩ = some (.slice F15 fn15 fc15) := J.c0
          have c3 : V7.cell? ⟨o15, 1, none⟩ = some (.slice Q15 qn15 qc15) := J.c1
          clear U2 J
          go_wp2_with fail
          refine LK.out.mono ?_
          rintro e v8 ⟨rfl, bb⟩
          replace T := T.next bb
          replace M := M.next bb
          clear bb c0 c1 c2 c3 LK
        all_goals
          as_aux_lemma =>
            have LE := Lib.hid (implEndTerm _ _ _ _ d k v8 T.s M.m HZ.out.1 HZ.out.2.1)
            rw [end_no HOK.out] at LE
            have c0 : v8.cell? ⟨o3, 0, none⟩ = some (.slice S sn sc) := T.c0
            have c1 : v8.cell? ⟨o3, 1, none⟩ = some (.slice R rn rc) := T.c1
            have c2 : v8.cell? ⟨o4, 0, none⟩ = some (.slice F fn fc) := M.c0
            have c3 : v8.cell? ⟨o4, 1, none⟩ = some (.slice Q qn qc) := M.c1
            clear M
            go_wp2_with fail
            refine LE.out.mono ?_
            rintro e v9 ⟨X, xn, xc, rfl, oX, bb⟩
            have hx0 : xn = 0 := Own.len oX
            subst hx0
            have FF := Lib.hid (T.next bb).b
            clear T bb oX LE c0 c1 c2 c3
            go_wp2
            go_ret
            exact ⟨rfl, FF.out⟩
    | true =>
      cases fine with
      | false =>
        go_upto_region 7 with fail
        rw [← HW7.out, HO10.out]
        go_wp2_with fail
        refine LI.out.mono ?_
        rintro e w8 ⟨rfl, bb⟩
        replace T := T.next bb
        replace M := M.next bb
        replace I := I.next bb
        clear bb c0 c1 m0 m1 LI HW7 HO10 himp
        have HT := Lib.hid T.drew
        have HM := Lib.hid M.drew
        clear T M I
        go_wp2_with fail
        refine AnyT.start (S := (fun _ => True)) (fun _ => false) (by kernel_rfl) trivial (fun hHeld => ?_)
        refine AnyT.takeA (i := 0) (v := ?_) rfl (by kernel_rfl) (by kernel_rfl) (by kernel_rfl) (fun _ _ _ h => h) (Or.inl ⟨by rfl, ?_⟩) ?_
        rotate_left 1
        · (intro w0 _; go_simp; try with_reducible rfl)
        try simp only [Act.put, List.setIfInBounds_toArray, List.set_cons_zero, List.set_cons_succ, List.getElem_toArray, List.getElem_cons_zero, List.getElem_cons_succ]
        refine AnyT.takeA (i := 1) (v := ?_) rfl (by kernel_rfl) (by kernel_rfl) (by kernel_rfl) (fun _ _ _ h => h) (Or.inl ⟨by rfl, ?_⟩) ?_
        rotate_left 1
        · (intro w0 _; go_simp; try with_reducible rfl)
        try simp only [Act.put, List.setIfInBounds_toArray, List.set_cons_zero, List.set_cons_succ, List.getElem_toArray, List.getElem_cons_zero, List.getElem_cons_succ]
        refine AnyT.takeA (i := 2) (v := undef) rfl (by kernel_rfl) (by kernel_rfl) (by kernel_rfl) (fun _ _ _ h => h) (Or.inr ⟨by rfl, rfl⟩) ?_
        try simp only [Act.put, List.setIfInBounds_toArray, List.set_cons_zero, List.set_cons_succ, List.getElem_toArray, List.getElem_cons_zero, List.getElem_cons_succ]
        refine AnyT.takeA (i := 3) (v := undef) rfl (by kernel_rfl) (by kernel_rfl) (by kernel_rfl) (fun _ _ _ h => h) (Or.inr ⟨by rfl, rfl⟩) ?_
        try simp only [Act.put, List.setIfInBounds_toArray, List.set_cons_zero, List.set_cons_succ, List.getElem_toArray, List.getElem_cons_zero, List.getElem_cons_succ]
        refine AnyT.takeA (i := 4) (v := undef) rfl (by kernel_rfl) (by kernel_rfl) (by kernel_rfl) (fun _ _ _ h => h) (Or.inr ⟨by rfl, rfl⟩) ?_
        try simp only [Act.put, List.setIfInBounds_toArray, List.set_cons_zero, List.set_cons_succ, List.getElem_toArray, List.getElem_cons_zero, List.getElem_cons_succ]
        refine AnyT.takeA (i := 5) (v := undef) rfl (by kernel_rfl) (by kernel_rfl) (by kernel_rfl) (fun _ _ _ h => h) (Or.inr ⟨by rfl, rfl⟩) ?_
        try simp only [Act.put, List.setIfInBounds_toArray, List.set_cons_zero, List.set_cons_succ, List.getElem_toArray, List.getElem_cons_zero, List.getElem_cons_succ]
        refine AnyT.takeA (i := 7) (v := undef) rfl (by kernel_rfl) (by kernel_rfl) (by kernel_rfl) (fun _ _ _ h => h) (Or.inr ⟨by rfl, rfl⟩) ?_
        try simp only [Act.put, List.setIfInBounds_toArray, List.set_cons_zero, List.set_cons_succ, List.getElem_toArray, List.getElem_cons_zero, List.getElem_cons_succ]
        refine AnyT.takeA (i := 9) (v := undef) rfl (by kernel_rfl) (by kernel_rfl) (by kernel_rfl) (fun _ _ _ h => h) (Or.inr ⟨by rfl, rfl⟩) ?_
        try simp only [Act.put, List.setIfInBounds_toArray, List.set_cons_zero, List.set_cons_succ, List.getElem_toArray, List.getElem_cons_zero, List.getElem_cons_succ]
        refine AnyT.takeA (i := 10) (v := undef) rfl (by kernel_rfl) (by kernel_rfl) (by kernel_rfl) (fun _ _ _ h => h) (Or.inr ⟨by rfl, rfl⟩) ?_
        try simp only [Act.put, List.setIfInBounds_toArray, List.set_cons_zero, List.set_cons_succ, List.getElem_toArray, List.getElem_cons_zero, List.getElem_cons_succ]
        refine AnyT.call (i := 6) (by kernel_rfl) rfl (fun K hK => ?_)
        try simp only [Act.put, List.setIfInBounds_toArray, List.set_cons_zero, List.set_cons_succ, List.getElem_toArray, List.getElem_cons_zero, List.getElem_cons_succ]
        rw [if_neg (by intro h; cases h)]
        refine hK.out _ _ (fun _ h => h) (fun _ => ?_)
        clear hK K
        try simp only [Act.put, List.setIfInBounds_toArray, List.set_cons_zero, List.set_cons_succ, List.getElem_toArray, List.getElem_cons_zero, List.getElem_cons_succ]
        refine AnyT.call (i := 8) (by kernel_rfl) rfl (fun K hK => ?_)
        try simp only [Act.put, List.setIfInBounds_toArray, List.set_cons_zero, List.set_cons_succ, List.getElem_toArray, List.getElem_cons_zero, List.getElem_cons_succ]
        rw [if_neg (by intro h; cases h)]
        refine hK.out _ _ (fun _ h => h) (fun _ => ?_)
        clear hK K
        try simp only [Act.put, List.setIfInBounds_toArray, List.set_cons_zero, List.set_cons_succ, List.getElem_toArray, List.getElem_cons_zero, List.getElem_cons_succ]
        refine AnyT.call (i := 11) (by kernel_rfl) rfl (fun K hK => ?_)
        try simp only [Act.put, List.setIfInBounds_toArray, List.set_cons_zero, List.set_cons_succ, List.getElem_toArray, List.getElem_cons_zero, List.getElem_cons_succ]
        rw [if_neg (by intro h; cases h)]
        refine hK.out _ _ (fun _ h => h) (fun _ => ?_)
        clear hK K
        try simp only [Act.put, List.setIfInBounds_toArray, List.set_cons_zero, List.set_cons_succ, List.getElem_toArray, List.getElem_cons_zero, List.getElem_cons_succ]
        refine AnyT.call (i := 12) (by kernel_rfl) rfl (fun K hK => ?_)
        try simp only [Act.put, List.setIfInBounds_toArray, List.set_cons_zero, List.set_cons_succ, List.getElem_toArray, List.getElem_cons_zero, List.getElem_cons_succ]
        rw [if_neg (by intro h; cases h)]
        refine hK.out _ _ (fun _ h => h) (fun _ => ?_)
        clear hK K
        try simp only [Act.put, List.setIfInBounds_toArray, List.set_cons_zero, List.set_cons_succ, List.getElem_toArray, List.getElem_cons_zero, List.getElem_cons_succ]
        refine AnyT.takeA (i := 13) (v := undef) rfl (by kernel_rfl) (by kernel_rfl) (by kernel_rfl) (fun _ _ _ h => h) (Or.inr ⟨by rfl, rfl⟩) ?_
        try simp only [Act.put, List.setIfInBounds_toArray, List.set_cons_zero, List.set_cons_succ, List.getElem_toArray, List.getElem_cons_zero, List.getElem_cons_succ]
        refine AnyT.takeA (i := 14) (v := ?_) rfl (by kernel_rfl) (by kernel_rfl) (by kernel_rfl) (fun _ _ _ h => h) (Or.inl ⟨by rfl, ?_⟩) ?_
        rotate_left 1
        · (intro w0 _; go_simp; try with_reducible rfl)
        try simp only [Act.put, List.setIfInBounds_toArray, List.set_cons_zero, List.set_cons_succ, List.getElem_toArray, List.getElem_cons_zero, List.getElem_cons_succ]
        refine AnyT.done (by kernel_rfl) ?_ _
        have T := HT.out
        have M := HM.out
        clear HT HM
        obtain ⟨wx, hwx⟩ : ∃ q, w8.drew = q := ⟨_, rfl⟩
        rw [hwx] at T M
        have HWX := Lib.hid hwx
        clear hwx
        have LD := Lib.hid (drawWalkUnder A n c wx (segB_next HSB.out T.b) hbig)
        have HT := Lib.hid T
        have HM := Lib.hid M
        clear T M
        go_upto_region 11 with fail
        rw [HWX.out]
        go_wp2_with fail
        refine LD.out.mono ?_
        rintro e wy ⟨S2, sn2, sc2, R2, rn2, rc2, d2, F2, fn2, fc2, Q2, qn2, qc2, k2, B, m, cB, ss, rfl, sd2, hz2, kd2, kz2, xd, xz, bb⟩
        have T := HT.out.next bb
        have M := HM.out.next bb
        have HZ2 := Lib.hid (show sz sSystem d2 ≤ 1048576 ∧ sz sWalk k2 ≤ 1048576 ∧ sz sSubst ss ≤ 1048576 from ⟨by omega, by omega, by omega⟩)
        obtain ⟨told, htold⟩ : ∃ b, undB d2.1 d2.2 k2 ss = b := ⟨_, rfl⟩
        have HTO := Lib.hid htold
        obtain ⟨o12, ho12⟩ : ∃ o, wy.heap.size = o := ⟨_, rfl⟩
        obtain ⟨o13, ho13⟩ : ∃ o, wy.heap.size + 1 = o := ⟨_, rfl⟩
        obtain ⟨o14, ho14⟩ : ∃ o, wy.heap.size + 1 + 1 = o := ⟨_, rfl⟩
        obtain ⟨V, hV⟩ : ∃ W, W = ((wy.alloc (.cells #[.slice S2 sn2 sc2, .slice R2 rn2 rc2] 29)).alloc (.cells #[.slice F2 fn2 fc2, .slice Q2 qn2 qc2] 41)).alloc (.cells #[.slice B m cB] 59) := ⟨_, rfl⟩
        have bv : Below wy.heap.size wy V := by rw [hV]; exact (((Below.refl _ _).alloc (Nat.le_refl _) _).alloc (by simp) _).alloc (by simp; omega) _
        replace T := T.next bv
        replace M := M.next bv
        have U2 : Un o12 o13 o14 S2 sn2 sc2 R2 rn2 rc2 d2 F2 Q2 fn2 fc2 qn2 qc2 k2 B m cB ss V := ⟨sd2.next bv, by rw [hV, ← ho12]; exact Go.Proofs.YtpcnjcgglonifaaGreat.compImpl.row_alloc (Go.Proofs.YtpcnjcgglonifaaGreat.compImpl.row_alloc (Row.new _ _ _)), ⟨kd2.next bv, by rw [hV, ← ho13]; exact Go.Proofs.YtpcnjcgglonifaaGreat.compImpl.row_alloc (Go.Proofs.YtpcnjcgglonifaaGreat.compImpl.row_top (by simp))⟩, xd.next bv, by rw [hV, ← ho14]; exact Go.Proofs.YtpcnjcgglonifaaGreat.compImpl.row_top (by simp)⟩
        have HV := Lib.hid hV
        have HO12 := Lib.hid ho12
        have HO13 := Lib.hid ho13
        have HO14 := Lib.hid ho14
        clear HT HM LD sd2 hz2 kd2 kz2 xd xz bb bv hV ho12 ho13 ho14 htold
        have LU := Lib.hid (implWalkUnder _ _ _ _ _ d2 k2 ss V U2.s U2.lo.m U2.x HZ2.out.1 HZ2.out.2.1 HZ2.out.2.2)
        rw [HTO.out] at LU
        have c0 : V.cell? ⟨o12, 0, none⟩ = some (.slice S2 sn2 sc2) := U2.r.cell 0
        have c1 : V.cell? ⟨o12, 1, none⟩ = some (.slice R2 rn2 rc2) := U2.r.cell 1
        have c2 : V.cell? ⟨o13, 0, none⟩ = some (.slice F2 fn2 fc2) := U2.lo.c0
        have c3 : V.cell? ⟨o13, 1, none⟩ = some (.slice Q2 qn2 qc2) := U2.lo.c1
        have c4 : V.cell? ⟨o14, 0, none⟩ = some (.slice B m cB) := U2.rx.cell 0
        go_upto_region 12 with fail
        rw [← HV.out, HO14.out, HO13.out, HO12.out]
        go_wp2_with fail
        refine LU.out.mono ?_
        rintro e v4 ⟨F15, fn15, fc15, Q15, qn15, qc15, rfl, oW, bb⟩
        obtain ⟨o15, ho15⟩ : ∃ o, v4.heap.size = o := ⟨_, rfl⟩
        obtain ⟨V5, hV5⟩ : ∃ W, W = v4.alloc (.cells #[.slice F15 fn15 fc15, .slice Q15 qn15 qc15] 41) := ⟨_, rfl⟩
        obtain ⟨J, b5⟩ := Lo.of oW.rd ho15 hV5
        replace T := (T.next bb).next b5
        replace M := (M.next bb).next b5
        replace U2 := (U2.next bb).next b5
        have HV5 := Lib.hid hV5
        have HO15 := Lib.hid ho15
        clear oW bb b5 hV5 ho15 c0 c1 c2 c3 c4 LU HV HO12 HO13 HO14
        have LU := Lib.hid (specWalkUnder _ _ _ _ _ d2 k2 ss V5 U2.s U2.lo.m U2.x HZ2.out.1 HZ2.out.2.1 HZ2.out.2.2)
        rw [HTO.out] at LU
        have c0 : V5.cell? ⟨o12, 0, none⟩ = some (.slice S2 sn2 sc2) := U2.r.cell 0
        have c1 : V5.cell? ⟨o12, 1, none⟩ = some (.slice R2 rn2 rc2) := U2.r.cell 1
        have c2 : V5.cell? ⟨o13, 0, none⟩ = some (.slice F2 fn2 fc2) := U2.lo.c0
        have c3 : V5.cell? ⟨o13, 1, none⟩ = some (.slice Q2 qn2 qc2) := U2.lo.c1
        have c4 : V5.cell? ⟨o14, 0, none⟩ = some (.slice B m cB) := U2.rx.cell 0
        go_upto_region 13 with fail
        rw [← HV5.out, HO15.out]
        go_wp2_with fail
        refine LU.out.mono ?_
        rintro e v6 ⟨F17, fn17, fc17, Q17, qn17, qc17, rfl, oW, bb⟩
        obtain ⟨V7, hV7⟩ : ∃ W, W = v6.alloc (.cells #[.slice F17 fn17 fc17, .slice Q17 qn17 qc17] 41) := ⟨_, rfl⟩
        have b7 : Below v6.heap.size v6 V7 := by rw [hV7]; exact (Below.refl _ _).alloc (Nat.le_refl _) _
        replace T := (T.next bb).next b7
        replace M := (M.next bb).next b7
        replace U2 := (U2.next bb).next b7
        replace J := (J.next bb).next b7
        have HV7 := Lib.hid hV7
        clear oW bb b7 hV7 c0 c1 c2 c3 c4 LU HV5 HO15
        go_upto_region 14 with fail
        rw [← HV7.out]
        clear HV7
        cases told
        case' false =>
          clear U2 J
          obtain ⟨v8, hv8⟩ : ∃ z, z = V7 := ⟨_, rfl⟩
          subst hv8
        case' true =>
          have LK := Lib.hid (implWalkOk _ _ _ _ d2 (undW d2.1 d2.2 k2 ss) V7 U2.s J.m HZ2.out.1 und_sz)
          rw [und_walk HTO.out] at LK
          have c0 : V7.cell? ⟨o12, 0, none⟩ = some (.slice S2 sn2 sc2) := U2.r.cell 0
          have c1 : V7.cell? ⟨o12, 1, none⟩ = some (.slice R2 rn2 rc2) := U2.r.cell 1
          have c2 : V7.cell? ⟨o15, 0, none⟩ = some (.slice F15 fn15 fc15) := J.c0
          have c3 : V7.cell? ⟨o15, 1, none⟩ = some (.slice Q15 qn15 qc15) := J.c1
          clear U2 J
          go_wp2_with fail
          refine LK.out.mono ?_
          rintro e v8 ⟨rfl, bb⟩
          replace T := T.next bb
          replace M := M.next bb
          clear bb c0 c1 c2 c3 LK
        all_goals
          as_aux_lemma =>
            obtain ⟨hm, hhm⟩ : ∃ z, qn / 2 = z := ⟨_, rfl⟩
            have hmq : hm ≤ qn := by omega
            have hdv : (qn : Int) / 2 = (hm : Int) := by omega
            have hdt : (qn : Int).tdiv 2 = (hm : Int) := by rw [Int.tdiv_eq_ediv_of_nonneg (by omega)]; exact hdv
            have hcap := M.cap
            have hc1 : qn ≤ qc := hcap.1
            have hc2 : qc ≤ 9223372036854775807 := hcap.2.1
            have CF := Lib.hid (cut_facts HOK.out hm)
            have hqn3 : qn ≤ 1048576 := hqn
            have hmc : hm ≤ qc := by omega
            have zo4a := M.r.lt
            clear hcap hhm
            have c0 : v8.cell? ⟨o4, 0, none⟩ = some (.slice F fn fc) := M.c0
            have c1 : v8.cell? ⟨o4, 1, none⟩ = some (.slice Q qn qc) := M.c1
            go_upto_region 19 with fail
            have HT := Lib.hid T.drew
            have HM := Lib.hid M.drew
            clear T M
            refine AnyT.start (S := (fun w' => w'.cell? ⟨o4, 0, none⟩ = some (.slice F fn fc) ∧ w'.cell? ⟨o4, 1, none⟩ = some (.slice Q qn qc))) (fun _ => false) (by kernel_rfl) ⟨c0, c1⟩ (fun hHeld => ?_)
            generalize v8.drew = w0 at *
            refine AnyT.takeA (i := 0) (v := ?_) rfl (by kernel_rfl) (by kernel_rfl) (by kernel_rfl) (fun _ _ _ h => h) (Or.inl ⟨by rfl, ?_⟩) ?_
            rotate_left 1
            · (intro w0 _; go_simp; try with_reducible rfl)
            try simp only [Act.put, List.setIfInBounds_toArray, List.set_cons_zero, List.set_cons_succ, List.getElem_toArray, List.getElem_cons_zero, List.getElem_cons_succ]
            refine AnyT.take (i := 1) (v := ?_) rfl (by kernel_rfl) (by kernel_rfl) (by kernel_rfl) (by kernel_rfl) (fun _ _ _ h => h) (Or.inl ⟨by rfl, ?_⟩) (by assumption) ?_
            rotate_left 1
            · (intro w0 hSw; (try dsimp only at hSw); go_simp; try with_reducible rfl)
            try simp only [Act.put, List.setIfInBounds_toArray, List.set_cons_zero, List.set_cons_succ, List.getElem_toArray, List.getElem_cons_zero, List.getElem_cons_succ]
            refine AnyT.takeA (i := 2) (v := ?_) rfl (by kernel_rfl) (by kernel_rfl) (by kernel_rfl) (fun _ _ _ h => h) (Or.inl ⟨by rfl, ?_⟩) ?_
            rotate_left 1
            · (intro w0 _; go_simp; try with_reducible rfl)
            try simp only [Act.put, List.setIfInBounds_toArray, List.set_cons_zero, List.set_cons_succ, List.getElem_toArray, List.getElem_cons_zero, List.getElem_cons_succ]
            refine AnyT.take (i := 3) (v := ?_) rfl (by kernel_rfl) (by kernel_rfl) (by kernel_rfl) (by kernel_rfl) (fun _ _ _ h => h) (Or.inl ⟨by rfl, ?_⟩) (by assumption) ?_
            rotate_left 1
            · (intro w0 hSw; (try dsimp only at hSw); go_simp; try with_reducible rfl)
            try simp only [Act.put, List.setIfInBounds_toArray, List.set_cons_zero, List.set_cons_succ, List.getElem_toArray, List.getElem_cons_zero, List.getElem_cons_succ]
            refine AnyT.takeA (i := 4) (v := ?_) rfl (by kernel_rfl) (by kernel_rfl) (by kernel_rfl) (fun _ _ _ h => h) (Or.inl ⟨by rfl, ?_⟩) ?_
            rotate_left 1
            · (intro w0 _; go_simp; try with_reducible rfl)
            try simp only [Act.put, List.setIfInBounds_toArray, List.set_cons_zero, List.set_cons_succ, List.getElem_toArray, List.getElem_cons_zero, List.getElem_cons_succ]
            refine AnyT.takeA (i := 5) (v := ?_) rfl (by kernel_rfl) (by kernel_rfl) (by kernel_rfl) (fun _ _ _ h => h) (Or.inl ⟨by rfl, ?_⟩) ?_
            rotate_left 1
            · (intro w0 _; go_simp; try with_reducible rfl)
            try simp only [Act.put, List.setIfInBounds_toArray, List.set_cons_zero, List.set_cons_succ, List.getElem_toArray, List.getElem_cons_zero, List.getElem_cons_succ]
            refine AnyT.takeA (i := 6) (v := ?_) rfl (by kernel_rfl) (by kernel_rfl) (by kernel_rfl) (fun _ _ _ h => h) (Or.inl ⟨by rfl, ?_⟩) ?_
            rotate_left 1
            · (intro w0 _; go_simp; try with_reducible rfl)
            try simp only [Act.put, List.setIfInBounds_toArray, List.set_cons_zero, List.set_cons_succ, List.getElem_toArray, List.getElem_cons_zero, List.getElem_cons_succ]
            have T0 := HT.out
            have M0 := HM.out
            have bA := (Below.refl w0.heap.size w0).alloc (Nat.le_refl _) (.cells #[.slice none 0 0, .slice none 0 0] 41)
            have bV := (Below.refl w0.heap.size w0).alloc (Nat.le_refl _) (.cells #[.slice F fn fc, .slice Q hm qc] 41)
            have ka0 : (w0.alloc (.cells #[.slice none 0 0, .slice none 0 0] 41)).cell? ⟨o4, 0, none⟩ = some (.slice F fn fc) := (M0.next bA).c0
            have ka1 : (w0.alloc (.cells #[.slice none 0 0, .slice none 0 0] 41)).cell? ⟨o4, 1, none⟩ = some (.slice Q qn qc) := (M0.next bA).c1
            have kv0 : (w0.alloc (.cells #[.slice F fn fc, .slice Q hm qc] 41)).cell? ⟨o4, 0, none⟩ = some (.slice F fn fc) := (M0.next bV).c0
            have kv1 : (w0.alloc (.cells #[.slice F fn fc, .slice Q hm qc] 41)).cell? ⟨o4, 1, none⟩ = some (.slice Q qn qc) := (M0.next bV).c1
            refine AnyT.call (i := 7) (by kernel_rfl) rfl (fun K hK => ?_)
            try simp only [Act.put, List.setIfInBounds_toArray, List.set_cons_zero, List.set_cons_succ, List.getElem_toArray, List.getElem_cons_zero, List.getElem_cons_succ]
            rw [if_pos (by rfl)]
            go_simp
            refine hK.out _ _ (fun _ _ => ?_) (fun hKeep => ?_)
            · exact ⟨ka0, ka1⟩
            replace hHeld := hKeep (by first | rfl | trivial) hHeld
            clear hK K hKeep
            try simp only [Act.put, List.setIfInBounds_toArray, List.set_cons_zero, List.set_cons_succ, List.getElem_toArray, List.getElem_cons_zero, List.getElem_cons_succ]
            refine AnyT.call (i := 8) (by kernel_rfl) rfl (fun K hK => ?_)
            try simp only [Act.put, List.setIfInBounds_toArray, List.set_cons_zero, List.set_cons_succ, List.getElem_toArray, List.getElem_cons_zero, List.getElem_cons_succ]
            rw [if_pos (by rfl)]
            go_simp
            refine hK.out _ _ (fun _ _ => ?_) (fun hKeep => ?_)
            · exact ⟨kv0, kv1⟩
            replace hHeld := hKeep (by first | rfl | trivial) hHeld
            clear hK K hKeep
            try simp only [Act.put, List.setIfInBounds_toArray, List.set_cons_zero, List.set_cons_succ, List.getElem_toArray, List.getElem_cons_zero, List.getElem_cons_succ]
            refine AnyT.done (by kernel_rfl) ?_ _
            have T := T0.next bV
            have M := M0.next bV
            have M20 : Lo w0.heap.size F Q fn fc hm qc ((k.1, k.2.take hm) : List Int × List St) (w0.alloc (.cells #[.slice F fn fc, .slice Q hm qc] 41)) := ⟨walk_join_rd M.from_ (rd_take M.steps hmq), Row.new _ _ _⟩
            obtain ⟨o20, ho20⟩ : ∃ q, w0.heap.size = q := ⟨_, rfl⟩
            obtain ⟨wd3, hwd3⟩ : ∃ q, (w0.alloc (.cells #[.slice F fn fc, .slice Q hm qc] 41)) = q := ⟨_, rfl⟩
            rw [hwd3] at T M M20
            rw [ho20] at M20
            have HO20 := Lib.hid ho20
            have HWD3 := Lib.hid hwd3
            clear HT HM T0 M0 bA bV ka0 ka1 kv0 kv1 ho20 hwd3 zo4a c0 c1
            have hk20 : sz sWalk ((k.1, k.2.take hm) : List Int × List St) ≤ 1048576 := walkB_sz CF.out.1
            have HK20 := Lib.hid hk20
            have zo3 := T.r.lt
            have zo4 := M.r.lt
            have zo20 := M20.r.lt
            have LR := Lib.hid (fun (w9 : World) (B : Below wd3.drew.heap.size wd3.drew w9) => (implEndTerm _ _ _ _ d ((k.1, k.2.take hm) : List Int × List St) w9 (T.drew.next B).s (M20.drew.next B).m HZ.out.1 HK20.out).mono fun e w' (q : AnsList w9 (endW d.1 d.2 (k.1, k.2.take hm)) e w') => (show ∃ Y yn yc, e = .returned (.slice Y yn yc) ∧ Go.Proofs.YtpcnjcgglonifaaGreat.marks.Own w' w9.heap.size (.slice Y yn yc) (endW d.1 d.2 (k.1, k.2.take hm)) ∧ Below w9.heap.size w9 w' ∧ Below wd3.drew.heap.size wd3.drew w' from by obtain ⟨Y, yn, yc, h1, h2, h3⟩ := q; exact ⟨Y, yn, yc, h1, h2, h3, next_trans B h3⟩))
            have c0 : wd3.cell? ⟨o3, 0, none⟩ = some (.slice S sn sc) := T.c0
            have c1 : wd3.cell? ⟨o3, 1, none⟩ = some (.slice R rn rc) := T.c1
            have c2 : wd3.cell? ⟨o4, 1, none⟩ = some (.slice Q qn qc) := M.c1
            have c3 : wd3.cell? ⟨o20, 0, none⟩ = some (.slice F fn fc) := M20.c0
            have c4 : wd3.cell? ⟨o20, 1, none⟩ = some (.slice Q hm qc) := M20.c1
            go_upto_region 20 with fail
            rw [HWD3.out, HO20.out]
            go_cut [21] (fun s21 wx => KeptL wd3.drew (endW d.1 d.2 (k.1, k.2.take hm)) (k.2.drop hm) s21 wx)
            case first =>
              rcases Classical.em (qc = hm) with hqh | hqh
              · obtain rfl : hm = qc := hqh.symm
                have LL0 := rd_drop2 M.drew.steps hmq
                rw [if_pos rfl, Nat.sub_self, show qn - hm = 0 by omega] at LL0
                have LL := Lib.hid LL0
                clear LL0
                have zo3 := T.drew.r.lt
                have zo4 := M.drew.r.lt
                have zo20 := M20.drew.r.lt
                have c0 : wd3.drew.cell? ⟨o3, 0, none⟩ = some (.slice S sn sc) := c0
                have c1 : wd3.drew.cell? ⟨o3, 1, none⟩ = some (.slice R rn rc) := c1
                have c2 : wd3.drew.cell? ⟨o4, 1, none⟩ = some (.slice Q qn hm) := c2
                have c3 : wd3.drew.cell? ⟨o20, 0, none⟩ = some (.slice F fn fc) := c3
                have c4 : wd3.drew.cell? ⟨o20, 1, none⟩ = some (.slice Q hm hm) := c4
                have HBW := Lib.hid (drew_below wd3)
                clear T M M20
                refine AnyT.start (S := (fun w' => w'.cell? ⟨o3, 0, none⟩ = some (.slice S sn sc) ∧ w'.cell? ⟨o3, 1, none⟩ = some (.slice R rn rc) ∧ w'.cell? ⟨o4, 1, none⟩ = some (.slice Q qn hm) ∧ w'.cell? ⟨o20, 0, none⟩ = some (.slice F fn fc) ∧ w'.cell? ⟨o20, 1, none⟩ = some (.slice Q hm hm))) (fun _ => false) (by kernel_rfl) ⟨c0, c1, c2, c3, c4⟩ (fun hHeld => ?_)
                generalize wd3.drew = w1 at *
                refine AnyT.take (i := 0) (v := ?_) rfl (by kernel_rfl) (by kernel_rfl) (by kernel_rfl) (by kernel_rfl) (fun _ _ _ h => h) (Or.inl ⟨by rfl, ?_⟩) (by assumption) ?_
                rotate_left 1
                · (intro w0 hSw; (try dsimp only at hSw); go_simp; try with_reducible rfl)
                try simp only [Act.put, List.setIfInBounds_toArray, List.set_cons_zero, List.set_cons_succ, List.getElem_toArray, List.getElem_cons_zero, List.getElem_cons_succ]
                refine AnyT.take (i := 1) (v := ?_) rfl (by kernel_rfl) (by kernel_rfl) (by kernel_rfl) (by kernel_rfl) (fun _ _ _ h => h) (Or.inl ⟨by rfl, ?_⟩) (by assumption) ?_
                rotate_left 1
                · (intro w0 hSw; (try dsimp only at hSw); go_simp; try with_reducible rfl)
                try simp only [Act.put, List.setIfInBounds_toArray, List.set_cons_zero, List.set_cons_succ, List.getElem_toArray, List.getElem_cons_zero, List.getElem_cons_succ]
                refine AnyT.takeA (i := 3) (v := ?_) rfl (by kernel_rfl) (by kernel_rfl) (by kernel_rfl) (fun _ _ _ h => h) (Or.inl ⟨by rfl, ?_⟩) ?_
                rotate_left 1
                · (intro w0 _; go_simp; try with_reducible rfl)
                try simp only [Act.put, List.setIfInBounds_toArray, List.set_cons_zero, List.set_cons_succ, List.getElem_toArray, List.getElem_cons_zero, List.getElem_cons_succ]
                refine AnyT.take (i := 4) (v := ?_) rfl (by kernel_rfl) (by kernel_rfl) (by kernel_rfl) (by kernel_rfl) (fun _ _ _ h => h) (Or.inl ⟨by rfl, ?_⟩) (by assumption) ?_
                rotate_left 1
                · (intro w0 hSw; (try dsimp only at hSw); go_simp; try with_reducible rfl)
                try simp only [Act.put, List.setIfInBounds_toArray, List.set_cons_zero, List.set_cons_succ, List.getElem_toArray, List.getElem_cons_zero, List.getElem_cons_succ]
                refine AnyT.takeA (i := 5) (v := ?_) rfl (by kernel_rfl) (by kernel_rfl) (by kernel_rfl) (fun _ _ _ h => h) (Or.inl ⟨by rfl, ?_⟩) ?_
                rotate_left 1
                · (intro w0 _; go_simp; try with_reducible rfl)
                try simp only [Act.put, List.setIfInBounds_toArray, List.set_cons_zero, List.set_cons_succ, List.getElem_toArray, List.getElem_cons_zero, List.getElem_cons_succ]
                refine AnyT.takeA (i := 6) (v := ?_) rfl (by kernel_rfl) (by kernel_rfl) (by kernel_rfl) (fun _ _ _ h => h) (Or.inl ⟨by rfl, ?_⟩) ?_
                rotate_left 1
                · (intro w0 _; go_simp; try with_reducible rfl)
                try simp only [Act.put, List.setIfInBounds_toArray, List.set_cons_zero, List.set_cons_succ, List.getElem_toArray, List.getElem_cons_zero, List.getElem_cons_succ]
                have bZ := (Below.refl w1.heap.size w1).alloc (Nat.le_refl _) (.cells #[.slice none 0 0, .slice none 0 0] 41)
                have rZ : Row (w1.alloc (.cells #[.slice none 0 0, .slice none 0 0] 41)) w1.heap.size 41 #[.slice none 0 0, .slice none 0 0] := Row.new _ _ _
                have za0 : (w1.alloc (.cells #[.slice none 0 0, .slice none 0 0] 41)).cell? ⟨o3, 0, none⟩ = some (.slice S sn sc) := (bZ.cell (p := ⟨o3, 0, none⟩) zo3).trans c0
                have za1 : (w1.alloc (.cells #[.slice none 0 0, .slice none 0 0] 41)).cell? ⟨o3, 1, none⟩ = some (.slice R rn rc) := (bZ.cell (p := ⟨o3, 1, none⟩) zo3).trans c1
                have za2 : (w1.alloc (.cells #[.slice none 0 0, .slice none 0 0] 41)).cell? ⟨o4, 1, none⟩ = some (.slice Q qn hm) := (bZ.cell (p := ⟨o4, 1, none⟩) zo4).trans c2
                have za3 : (w1.alloc (.cells #[.slice none 0 0, .slice none 0 0] 41)).cell? ⟨o20, 0, none⟩ = some (.slice F fn fc) := (bZ.cell (p := ⟨o20, 0, none⟩) zo20).trans c3
                have za4 : (w1.alloc (.cells #[.slice none 0 0, .slice none 0 0] 41)).cell? ⟨o20, 1, none⟩ = some (.slice Q hm hm) := (bZ.cell (p := ⟨o20, 1, none⟩) zo20).trans c4
                refine AnyT.two (i := 2) (j := 8) (by kernel_rfl) rfl rfl (fun K hK => ?_) (fun K hK => ?_)
                · try simp only [Act.put, List.setIfInBounds_toArray, List.set_cons_zero, List.set_cons_succ, List.getElem_toArray, List.getElem_cons_zero, List.getElem_cons_succ]
                  rw [if_pos (by rfl)]
                  go_simp
                  (go_at_call 15; refine (LR.out _ (Below.refl _ _)).mono ?_; rintro e wa ⟨Y, yn, yc, rfl, oY, -, bwwa⟩; have ka0 : wa.cell? ⟨o3, 0, none⟩ = some (.slice S sn sc) := (bwwa.cell (p := ⟨o3, 0, none⟩) zo3).trans c0; have ka1 : wa.cell? ⟨o3, 1, none⟩ = some (.slice R rn rc) := (bwwa.cell (p := ⟨o3, 1, none⟩) zo3).trans c1; have ka2 : wa.cell? ⟨o4, 1, none⟩ = some (.slice Q qn hm) := (bwwa.cell (p := ⟨o4, 1, none⟩) zo4).trans c2; have ka3 : wa.cell? ⟨o20, 0, none⟩ = some (.slice F fn fc) := (bwwa.cell (p := ⟨o20, 0, none⟩) zo20).trans c3; have ka4 : wa.cell? ⟨o20, 1, none⟩ = some (.slice Q hm hm) := (bwwa.cell (p := ⟨o20, 1, none⟩) zo20).trans c4; go_wp2_with fail)
                  refine hK.out _ _ (fun _ _ => ?_) (fun hKeep => ?_)
                  · exact ⟨ka0, ka1, ka2, ka3, ka4⟩
                  replace hHeld := hKeep (by first | rfl | trivial) hHeld
                  clear hK K hKeep
                  try simp only [Act.put, List.setIfInBounds_toArray, List.set_cons_zero, List.set_cons_succ, List.getElem_toArray, List.getElem_cons_zero, List.getElem_cons_succ]
                  refine AnyT.takeA (i := 7) (v := ?_) rfl (by kernel_rfl) (by kernel_rfl) (by kernel_rfl) (fun _ _ _ h => h) (Or.inl ⟨by rfl, ?_⟩) ?_
                  rotate_left 1
                  · (intro w0 _; go_simp; try with_reducible rfl)
                  try simp only [Act.put, List.setIfInBounds_toArray, List.set_cons_zero, List.set_cons_succ, List.getElem_toArray, List.getElem_cons_zero, List.getElem_cons_succ]
                  have bWA := (Below.refl wa.heap.size wa).alloc (Nat.le_refl _) (.cells #[.slice none 0 0, .slice none 0 0] 41)
                  have bWV := (Below.refl wa.heap.size wa).alloc (Nat.le_refl _) (.cells #[.slice Y yn yc, .slice Q 0 0] 41)
                  have la0 : (wa.alloc (.cells #[.slice none 0 0, .slice none 0 0] 41)).cell? ⟨o3, 0, none⟩ = some (.slice S sn sc) := (bWA.cell (p := ⟨o3, 0, none⟩) (Nat.lt_of_lt_of_le zo3 bwwa.size)).trans ka0
                  have la1 : (wa.alloc (.cells #[.slice none 0 0, .slice none 0 0] 41)).cell? ⟨o3, 1, none⟩ = some (.slice R rn rc) := (bWA.cell (p := ⟨o3, 1, none⟩) (Nat.lt_of_lt_of_le zo3 bwwa.size)).trans ka1
                  have la2 : (wa.alloc (.cells #[.slice none 0 0, .slice none 0 0] 41)).cell? ⟨o4, 1, none⟩ = some (.slice Q qn hm) := (bWA.cell (p := ⟨o4, 1, none⟩) (Nat.lt_of_lt_of_le zo4 bwwa.size)).trans ka2
                  have la3 : (wa.alloc (.cells #[.slice none 0 0, .slice none 0 0] 41)).cell? ⟨o20, 0, none⟩ = some (.slice F fn fc) := (bWA.cell (p := ⟨o20, 0, none⟩) (Nat.lt_of_lt_of_le zo20 bwwa.size)).trans ka3
                  have la4 : (wa.alloc (.cells #[.slice none 0 0, .slice none 0 0] 41)).cell? ⟨o20, 1, none⟩ = some (.slice Q hm hm) := (bWA.cell (p := ⟨o20, 1, none⟩) (Nat.lt_of_lt_of_le zo20 bwwa.size)).trans ka4
                  have lv0 : (wa.alloc (.cells #[.slice Y yn yc, .slice Q 0 0] 41)).cell? ⟨o3, 0, none⟩ = some (.slice S sn sc) := (bWV.cell (p := ⟨o3, 0, none⟩) (Nat.lt_of_lt_of_le zo3 bwwa.size)).trans ka0
                  have lv1 : (wa.alloc (.cells #[.slice Y yn yc, .slice Q 0 0] 41)).cell? ⟨o3, 1, none⟩ = some (.slice R rn rc) := (bWV.cell (p := ⟨o3, 1, none⟩) (Nat.lt_of_lt_of_le zo3 bwwa.size)).trans ka1
                  have lv2 : (wa.alloc (.cells #[.slice Y yn yc, .slice Q 0 0] 41)).cell? ⟨o4, 1, none⟩ = some (.slice Q qn hm) := (bWV.cell (p := ⟨o4, 1, none⟩) (Nat.lt_of_lt_of_le zo4 bwwa.size)).trans ka2
                  have lv3 : (wa.alloc (.cells #[.slice Y yn yc, .slice Q 0 0] 41)).cell? ⟨o20, 0, none⟩ = some (.slice F fn fc) := (bWV.cell (p := ⟨o20, 0, none⟩) (Nat.lt_of_lt_of_le zo20 bwwa.size)).trans ka3
                  have lv4 : (wa.alloc (.cells #[.slice Y yn yc, .slice Q 0 0] 41)).cell? ⟨o20, 1, none⟩ = some (.slice Q hm hm) := (bWV.cell (p := ⟨o20, 1, none⟩) (Nat.lt_of_lt_of_le zo20 bwwa.size)).trans ka4
                  refine AnyT.call (i := 8) (by kernel_rfl) rfl (fun K hK => ?_)
                  try simp only [Act.put, List.setIfInBounds_toArray, List.set_cons_zero, List.set_cons_succ, List.getElem_toArray, List.getElem_cons_zero, List.getElem_cons_succ]
                  rw [if_pos (by rfl)]
                  go_simp
                  refine hK.out _ _ (fun _ _ => ?_) (fun hKeep => ?_)
                  · exact ⟨la0, la1, la2, la3, la4⟩
                  replace hHeld := hKeep (by first | rfl | trivial) hHeld
                  clear hK K hKeep
                  try simp only [Act.put, List.setIfInBounds_toArray, List.set_cons_zero, List.set_cons_succ, List.getElem_toArray, List.getElem_cons_zero, List.getElem_cons_succ]
                  refine AnyT.call (i := 9) (by kernel_rfl) rfl (fun K hK => ?_)
                  try simp only [Act.put, List.setIfInBounds_toArray, List.set_cons_zero, List.set_cons_succ, List.getElem_toArray, List.getElem_cons_zero, List.getElem_cons_succ]
                  rw [if_pos (by rfl)]
                  go_simp
                  refine hK.out _ _ (fun _ _ => ?_) (fun hKeep => ?_)
                  · exact ⟨lv0, lv1, lv2, lv3, lv4⟩
                  replace hHeld := hKeep (by first | rfl | trivial) hHeld
                  clear hK K hKeep
                  try simp only [Act.put, List.setIfInBounds_toArray, List.set_cons_zero, List.set_cons_succ, List.getElem_toArray, List.getElem_cons_zero, List.getElem_cons_succ]
                  refine AnyT.done (by kernel_rfl) ?_ _
                  go_wp2_with fail
                  go_meet
                  exact keptL_b oY bwwa LL.out
                · try simp only [Act.put, List.setIfInBounds_toArray, List.set_cons_zero, List.set_cons_succ, List.getElem_toArray, List.getElem_cons_zero, List.getElem_cons_succ]
                  rw [if_pos (by rfl)]
                  go_simp
                  refine hK.out _ _ (fun _ _ => ?_) (fun hKeep => ?_)
                  · exact ⟨za0, za1, za2, za3, za4⟩
                  replace hHeld := hKeep (by first | rfl | trivial) hHeld
                  clear hK K hKeep
                  try simp only [Act.put, List.setIfInBounds_toArray, List.set_cons_zero, List.set_cons_succ, List.getElem_toArray, List.getElem_cons_zero, List.getElem_cons_succ]
                  refine AnyT.call (i := 2) (by kernel_rfl) rfl (fun K hK => ?_)
                  try simp only [Act.put, List.setIfInBounds_toArray, List.set_cons_zero, List.set_cons_succ, List.getElem_toArray, List.getElem_cons_zero, List.getElem_cons_succ]
                  rw [if_pos (by rfl)]
                  go_simp
                  (go_at_call 15; refine (LR.out _ bZ).mono ?_; rintro e wb ⟨Y, yn, yc, rfl, oY, b9, bwwb⟩; have q4 : Row wb w1.heap.size 41 #[.slice none 0 0, .slice none 0 0] := rZ.next b9; have kb0 : wb.cell? ⟨o3, 0, none⟩ = some (.slice S sn sc) := (bwwb.cell (p := ⟨o3, 0, none⟩) zo3).trans c0; have kb1 : wb.cell? ⟨o3, 1, none⟩ = some (.slice R rn rc) := (bwwb.cell (p := ⟨o3, 1, none⟩) zo3).trans c1; have kb2 : wb.cell? ⟨o4, 1, none⟩ = some (.slice Q qn hm) := (bwwb.cell (p := ⟨o4, 1, none⟩) zo4).trans c2; have kb3 : wb.cell? ⟨o20, 0, none⟩ = some (.slice F fn fc) := (bwwb.cell (p := ⟨o20, 0, none⟩) zo20).trans c3; have kb4 : wb.cell? ⟨o20, 1, none⟩ = some (.slice Q hm hm) := (bwwb.cell (p := ⟨o20, 1, none⟩) zo20).trans c4; have y0 : wb.cell? ⟨w1.heap.size, 0, none⟩ = some (.slice none 0 0) := q4.cell 0; have y1 : wb.cell? ⟨w1.heap.size, 1, none⟩ = some (.slice none 0 0) := q4.cell 1; have y2 := q4.free 0; have y3 := q4.free 1; have q5 := q4.put 0 (.slice Y yn yc); have y4 := q5.cell 1; have y5 := q5.free 1; have y6 : (wb.setCell ⟨w1.heap.size, 0, none⟩ (.slice Y yn yc)).cell? ⟨w1.heap.size, 1, none⟩ = some (.slice none 0 0) := y4; go_wp2_with fail)
                  refine hK.out _ _ (fun _ _ => ?_) (fun hKeep => ?_)
                  · exact ⟨kb0, kb1, kb2, kb3, kb4⟩
                  replace hHeld := hKeep (by first | rfl | trivial) hHeld
                  clear hK K hKeep
                  try simp only [Act.put, List.setIfInBounds_toArray, List.set_cons_zero, List.set_cons_succ, List.getElem_toArray, List.getElem_cons_zero, List.getElem_cons_succ]
                  refine AnyT.takeA (i := 7) (v := ?_) rfl (by kernel_rfl) (by kernel_rfl) (by kernel_rfl) (fun _ _ _ h => h) (Or.inl ⟨by rfl, ?_⟩) ?_
                  rotate_left 1
                  · (intro w0 _; go_simp; try with_reducible rfl)
                  try simp only [Act.put, List.setIfInBounds_toArray, List.set_cons_zero, List.set_cons_succ, List.getElem_toArray, List.getElem_cons_zero, List.getElem_cons_succ]
                  have mb0 : ((wb.setCell ⟨w1.heap.size, 0, none⟩ (.slice Y yn yc)).setCell ⟨w1.heap.size, 1, none⟩ (.slice Q 0 0)).cell? ⟨o3, 0, none⟩ = some (.slice S sn sc) := (World.cell?_of_block (a := ⟨o3, 0, none⟩) ((Below.heap_setCell _ ⟨w1.heap.size, 1, none⟩ _ o3 (by show o3 ≠ w1.heap.size; omega)).trans (Below.heap_setCell _ ⟨w1.heap.size, 0, none⟩ _ o3 (by show o3 ≠ w1.heap.size; omega)))).trans kb0
                  have mb1 : ((wb.setCell ⟨w1.heap.size, 0, none⟩ (.slice Y yn yc)).setCell ⟨w1.heap.size, 1, none⟩ (.slice Q 0 0)).cell? ⟨o3, 1, none⟩ = some (.slice R rn rc) := (World.cell?_of_block (a := ⟨o3, 1, none⟩) ((Below.heap_setCell _ ⟨w1.heap.size, 1, none⟩ _ o3 (by show o3 ≠ w1.heap.size; omega)).trans (Below.heap_setCell _ ⟨w1.heap.size, 0, none⟩ _ o3 (by show o3 ≠ w1.heap.size; omega)))).trans kb1
                  have mb2 : ((wb.setCell ⟨w1.heap.size, 0, none⟩ (.slice Y yn yc)).setCell ⟨w1.heap.size, 1, none⟩ (.slice Q 0 0)).cell? ⟨o4, 1, none⟩ = some (.slice Q qn hm) := (World.cell?_of_block (a := ⟨o4, 1, none⟩) ((Below.heap_setCell _ ⟨w1.heap.size, 1, none⟩ _ o4 (by show o4 ≠ w1.heap.size; omega)).trans (Below.heap_setCell _ ⟨w1.heap.size, 0, none⟩ _ o4 (by show o4 ≠ w1.heap.size; omega)))).trans kb2
                  have mb3 : ((wb.setCell ⟨w1.heap.size, 0, none⟩ (.slice Y yn yc)).setCell ⟨w1.heap.size, 1, none⟩ (.slice Q 0 0)).cell? ⟨o20, 0, none⟩ = some (.slice F fn fc) := (World.cell?_of_block (a := ⟨o20, 0, none⟩) ((Below.heap_setCell _ ⟨w1.heap.size, 1, none⟩ _ o20 (by show o20 ≠ w1.heap.size; omega)).trans (Below.heap_setCell _ ⟨w1.heap.size, 0, none⟩ _ o20 (by show o20 ≠ w1.heap.size; omega)))).trans kb3
                  have mb4 : ((wb.setCell ⟨w1.heap.size, 0, none⟩ (.slice Y yn yc)).setCell ⟨w1.heap.size, 1, none⟩ (.slice Q 0 0)).cell? ⟨o20, 1, none⟩ = some (.slice Q hm hm) := (World.cell?_of_block (a := ⟨o20, 1, none⟩) ((Below.heap_setCell _ ⟨w1.heap.size, 1, none⟩ _ o20 (by show o20 ≠ w1.heap.size; omega)).trans (Below.heap_setCell _ ⟨w1.heap.size, 0, none⟩ _ o20 (by show o20 ≠ w1.heap.size; omega)))).trans kb4
                  refine AnyT.call (i := 9) (by kernel_rfl) rfl (fun K hK => ?_)
                  try simp only [Act.put, List.setIfInBounds_toArray, List.set_cons_zero, List.set_cons_succ, List.getElem_toArray, List.getElem_cons_zero, List.getElem_cons_succ]
                  rw [if_pos (by rfl)]
                  go_simp
                  refine hK.out _ _ (fun _ _ => ?_) (fun hKeep => ?_)
                  · exact ⟨mb0, mb1, mb2, mb3, mb4⟩
                  replace hHeld := hKeep (by first | rfl | trivial) hHeld
                  clear hK K hKeep
                  try simp only [Act.put, List.setIfInBounds_toArray, List.set_cons_zero, List.set_cons_succ, List.getElem_toArray, List.getElem_cons_zero, List.getElem_cons_succ]
                  refine AnyT.done (by kernel_rfl) ?_ _
                  go_wp2_with fail
                  go_meet
                  exact keptL_a oY q4 (Nat.le_refl _) (by simp only [Go.Proofs.YtpcnjcgglonifaaGreat.compImpl.sz_alloc]; omega) bwwb LL.out
              · have LL0 := rd_drop2 M.drew.steps hmq
                rw [if_neg hqh] at LL0
                have LL := Lib.hid LL0
                clear LL0
                have zo3 := T.drew.r.lt
                have zo4 := M.drew.r.lt
                have zo20 := M20.drew.r.lt
                have c0 : wd3.drew.cell? ⟨o3, 0, none⟩ = some (.slice S sn sc) := c0
                have c1 : wd3.drew.cell? ⟨o3, 1, none⟩ = some (.slice R rn rc) := c1
                have c2 : wd3.drew.cell? ⟨o4, 1, none⟩ = some (.slice Q qn qc) := c2
                have c3 : wd3.drew.cell? ⟨o20, 0, none⟩ = some (.slice F fn fc) := c3
                have c4 : wd3.drew.cell? ⟨o20, 1, none⟩ = some (.slice Q hm qc) := c4
                have HBW := Lib.hid (drew_below wd3)
                clear T M M20
                refine AnyT.start (S := (fun w' => w'.cell? ⟨o3, 0, none⟩ = some (.slice S sn sc) ∧ w'.cell? ⟨o3, 1, none⟩ = some (.slice R rn rc) ∧ w'.cell? ⟨o4, 1, none⟩ = some (.slice Q qn qc) ∧ w'.cell? ⟨o20, 0, none⟩ = some (.slice F fn fc) ∧ w'.cell? ⟨o20, 1, none⟩ = some (.slice Q hm qc))) (fun _ => false) (by kernel_rfl) ⟨c0, c1, c2, c3, c4⟩ (fun hHeld => ?_)
                generalize wd3.drew = w1 at *
                refine AnyT.take (i := 0) (v := ?_) rfl (by kernel_rfl) (by kernel_rfl) (by kernel_rfl) (by kernel_rfl) (fun _ _ _ h => h) (Or.inl ⟨by rfl, ?_⟩) (by assumption) ?_
                rotate_left 1
                · (intro w0 hSw; (try dsimp only at hSw); go_simp; try with_reducible rfl)
                try simp only [Act.put, List.setIfInBounds_toArray, List.set_cons_zero, List.set_cons_succ, List.getElem_toArray, List.getElem_cons_zero, List.getElem_cons_succ]
                refine AnyT.take (i := 1) (v := ?_) rfl (by kernel_rfl) (by kernel_rfl) (by kernel_rfl) (by kernel_rfl) (fun _ _ _ h => h) (Or.inl ⟨by rfl, ?_⟩) (by assumption) ?_
                rotate_left 1
                · (intro w0 hSw; (try dsimp only at hSw); go_simp; try with_reducible rfl)
                try simp only [Act.put, List.setIfInBounds_toArray, List.set_cons_zero, List.set_cons_succ, List.getElem_toArray, List.getElem_cons_zero, List.getElem_cons_succ]
                refine AnyT.takeA (i := 3) (v := ?_) rfl (by kernel_rfl) (by kernel_rfl) (by kernel_rfl) (fun _ _ _ h => h) (Or.inl ⟨by rfl, ?_⟩) ?_
                rotate_left 1
                · (intro w0 _; go_simp; try with_reducible rfl)
                try simp only [Act.put, List.setIfInBounds_toArray, List.set_cons_zero, List.set_cons_succ, List.getElem_toArray, List.getElem_cons_zero, List.getElem_cons_succ]
                refine AnyT.take (i := 4) (v := ?_) rfl (by kernel_rfl) (by kernel_rfl) (by kernel_rfl) (by kernel_rfl) (fun _ _ _ h => h) (Or.inl ⟨by rfl, ?_⟩) (by assumption) ?_
                rotate_left 1
                · (intro w0 hSw; (try dsimp only at hSw); go_simp; try with_reducible rfl)
                try simp only [Act.put, List.setIfInBounds_toArray, List.set_cons_zero, List.set_cons_succ, List.getElem_toArray, List.getElem_cons_zero, List.getElem_cons_succ]
                refine AnyT.takeA (i := 5) (v := ?_) rfl (by kernel_rfl) (by kernel_rfl) (by kernel_rfl) (fun _ _ _ h => h) (Or.inl ⟨by rfl, ?_⟩) ?_
                rotate_left 1
                · (intro w0 _; go_simp; try with_reducible rfl)
                try simp only [Act.put, List.setIfInBounds_toArray, List.set_cons_zero, List.set_cons_succ, List.getElem_toArray, List.getElem_cons_zero, List.getElem_cons_succ]
                refine AnyT.takeA (i := 6) (v := ?_) rfl (by kernel_rfl) (by kernel_rfl) (by kernel_rfl) (fun _ _ _ h => h) (Or.inl ⟨by rfl, ?_⟩) ?_
                rotate_left 1
                · (intro w0 _; go_simp; try with_reducible rfl)
                try simp only [Act.put, List.setIfInBounds_toArray, List.set_cons_zero, List.set_cons_succ, List.getElem_toArray, List.getElem_cons_zero, List.getElem_cons_succ]
                have bZ := (Below.refl w1.heap.size w1).alloc (Nat.le_refl _) (.cells #[.slice none 0 0, .slice none 0 0] 41)
                have rZ : Row (w1.alloc (.cells #[.slice none 0 0, .slice none 0 0] 41)) w1.heap.size 41 #[.slice none 0 0, .slice none 0 0] := Row.new _ _ _
                have za0 : (w1.alloc (.cells #[.slice none 0 0, .slice none 0 0] 41)).cell? ⟨o3, 0, none⟩ = some (.slice S sn sc) := (bZ.cell (p := ⟨o3, 0, none⟩) zo3).trans c0
                have za1 : (w1.alloc (.cells #[.slice none 0 0, .slice none 0 0] 41)).cell? ⟨o3, 1, none⟩ = some (.slice R rn rc) := (bZ.cell (p := ⟨o3, 1, none⟩) zo3).trans c1
                have za2 : (w1.alloc (.cells #[.slice none 0 0, .slice none 0 0] 41)).cell? ⟨o4, 1, none⟩ = some (.slice Q qn qc) := (bZ.cell (p := ⟨o4, 1, none⟩) zo4).trans c2
                have za3 : (w1.alloc (.cells #[.slice none 0 0, .slice none 0 0] 41)).cell? ⟨o20, 0, none⟩ = some (.slice F fn fc) := (bZ.cell (p := ⟨o20, 0, none⟩) zo20).trans c3
                have za4 : (w1.alloc (.cells #[.slice none 0 0, .slice none 0 0] 41)).cell? ⟨o20, 1, none⟩ = some (.slice Q hm qc) := (bZ.cell (p := ⟨o20, 1, none⟩) zo20).trans c4
                refine AnyT.two (i := 2) (j := 8) (by kernel_rfl) rfl rfl (fun K hK => ?_) (fun K hK => ?_)
                · try simp only [Act.put, List.setIfInBounds_toArray, List.set_cons_zero, List.set_cons_succ, List.getElem_toArray, List.getElem_cons_zero, List.getElem_cons_succ]
                  rw [if_pos (by rfl)]
                  go_simp
                  (go_at_call 15; refine (LR.out _ (Below.refl _ _)).mono ?_; rintro e wa ⟨Y, yn, yc, rfl, oY, -, bwwa⟩; have ka0 : wa.cell? ⟨o3, 0, none⟩ = some (.slice S sn sc) := (bwwa.cell (p := ⟨o3, 0, none⟩) zo3).trans c0; have ka1 : wa.cell? ⟨o3, 1, none⟩ = some (.slice R rn rc) := (bwwa.cell (p := ⟨o3, 1, none⟩) zo3).trans c1; have ka2 : wa.cell? ⟨o4, 1, none⟩ = some (.slice Q qn qc) := (bwwa.cell (p := ⟨o4, 1, none⟩) zo4).trans c2; have ka3 : wa.cell? ⟨o20, 0, none⟩ = some (.slice F fn fc) := (bwwa.cell (p := ⟨o20, 0, none⟩) zo20).trans c3; have ka4 : wa.cell? ⟨o20, 1, none⟩ = some (.slice Q hm qc) := (bwwa.cell (p := ⟨o20, 1, none⟩) zo20).trans c4; go_wp2_with fail)
                  refine hK.out _ _ (fun _ _ => ?_) (fun hKeep => ?_)
                  · exact ⟨ka0, ka1, ka2, ka3, ka4⟩
                  replace hHeld := hKeep (by first | rfl | trivial) hHeld
                  clear hK K hKeep
                  try simp only [Act.put, List.setIfInBounds_toArray, List.set_cons_zero, List.set_cons_succ, List.getElem_toArray, List.getElem_cons_zero, List.getElem_cons_succ]
                  refine AnyT.takeA (i := 7) (v := ?_) rfl (by kernel_rfl) (by kernel_rfl) (by kernel_rfl) (fun _ _ _ h => h) (Or.inl ⟨by rfl, ?_⟩) ?_
                  rotate_left 1
                  · (intro w0 _; go_simp; try with_reducible rfl)
                  try simp only [Act.put, List.setIfInBounds_toArray, List.set_cons_zero, List.set_cons_succ, List.getElem_toArray, List.getElem_cons_zero, List.getElem_cons_succ]
                  have bWA := (Below.refl wa.heap.size wa).alloc (Nat.le_refl _) (.cells #[.slice none 0 0, .slice none 0 0] 41)
                  have bWV := (Below.refl wa.heap.size wa).alloc (Nat.le_refl _) (.cells #[.slice Y yn yc, .slice (Option.map (fun x => x.add (hm * 3)) Q) (qn - hm) (qc - hm)] 41)
                  have la0 : (wa.alloc (.cells #[.slice none 0 0, .slice none 0 0] 41)).cell? ⟨o3, 0, none⟩ = some (.slice S sn sc) := (bWA.cell (p := ⟨o3, 0, none⟩) (Nat.lt_of_lt_of_le zo3 bwwa.size)).trans ka0
                  have la1 : (wa.alloc (.cells #[.slice none 0 0, .slice none 0 0] 41)).cell? ⟨o3, 1, none⟩ = some (.slice R rn rc) := (bWA.cell (p := ⟨o3, 1, none⟩) (Nat.lt_of_lt_of_le zo3 bwwa.size)).trans ka1
                  have la2 : (wa.alloc (.cells #[.slice none 0 0, .slice none 0 0] 41)).cell? ⟨o4, 1, none⟩ = some (.slice Q qn qc) := (bWA.cell (p := ⟨o4, 1, none⟩) (Nat.lt_of_lt_of_le zo4 bwwa.size)).trans ka2
                  have la3 : (wa.alloc (.cells #[.slice none 0 0, .slice none 0 0] 41)).cell? ⟨o20, 0, none⟩ = some (.slice F fn fc) := (bWA.cell (p := ⟨o20, 0, none⟩) (Nat.lt_of_lt_of_le zo20 bwwa.size)).trans ka3
                  have la4 : (wa.alloc (.cells #[.slice none 0 0, .slice none 0 0] 41)).cell? ⟨o20, 1, none⟩ = some (.slice Q hm qc) := (bWA.cell (p := ⟨o20, 1, none⟩) (Nat.lt_of_lt_of_le zo20 bwwa.size)).trans ka4
                  have lv0 : (wa.alloc (.cells #[.slice Y yn yc, .slice (Option.map (fun x => x.add (hm * 3)) Q) (qn - hm) (qc - hm)] 41)).cell? ⟨o3, 0, none⟩ = some (.slice S sn sc) := (bWV.cell (p := ⟨o3, 0, none⟩) (Nat.lt_of_lt_of_le zo3 bwwa.size)).trans ka0
                  have lv1 : (wa.alloc (.cells #[.slice Y yn yc, .slice (Option.map (fun x => x.add (hm * 3)) Q) (qn - hm) (qc - hm)] 41)).cell? ⟨o3, 1, none⟩ = some (.slice R rn rc) := (bWV.cell (p := ⟨o3, 1, none⟩) (Nat.lt_of_lt_of_le zo3 bwwa.size)).trans ka1
                  have lv2 : (wa.alloc (.cells #[.slice Y yn yc, .slice (Option.map (fun x => x.add (hm * 3)) Q) (qn - hm) (qc - hm)] 41)).cell? ⟨o4, 1, none⟩ = some (.slice Q qn qc) := (bWV.cell (p := ⟨o4, 1, none⟩) (Nat.lt_of_lt_of_le zo4 bwwa.size)).trans ka2
                  have lv3 : (wa.alloc (.cells #[.slice Y yn yc, .slice (Option.map (fun x => x.add (hm * 3)) Q) (qn - hm) (qc - hm)] 41)).cell? ⟨o20, 0, none⟩ = some (.slice F fn fc) := (bWV.cell (p := ⟨o20, 0, none⟩) (Nat.lt_of_lt_of_le zo20 bwwa.size)).trans ka3
                  have lv4 : (wa.alloc (.cells #[.slice Y yn yc, .slice (Option.map (fun x => x.add (hm * 3)) Q) (qn - hm) (qc - hm)] 41)).cell? ⟨o20, 1, none⟩ = some (.slice Q hm qc) := (bWV.cell (p := ⟨o20, 1, none⟩) (Nat.lt_of_lt_of_le zo20 bwwa.size)).trans ka4
                  refine AnyT.call (i := 8) (by kernel_rfl) rfl (fun K hK => ?_)
                  try simp only [Act.put, List.setIfInBounds_toArray, List.set_cons_zero, List.set_cons_succ, List.getElem_toArray, List.getElem_cons_zero, List.getElem_cons_succ]
                  rw [if_pos (by rfl)]
                  go_simp
                  refine hK.out _ _ (fun _ _ => ?_) (fun hKeep => ?_)
                  · exact ⟨la0, la1, la2, la3, la4⟩
                  replace hHeld := hKeep (by first | rfl | trivial) hHeld
                  clear hK K hKeep
                  try simp only [Act.put, List.setIfInBounds_toArray, List.set_cons_zero, List.set_cons_succ, List.getElem_toArray, List.getElem_cons_zero, List.getElem_cons_succ]
                  refine AnyT.call (i := 9) (by kernel_rfl) rfl (fun K hK => ?_)
                  try simp only [Act.put, List.setIfInBounds_toArray, List.set_cons_zero, List.set_cons_succ, List.getElem_toArray, List.getElem_cons_zero, List.getElem_cons_succ]
                  rw [if_pos (by rfl)]
                  go_simp
                  refine hK.out _ _ (fun _ _ => ?_) (fun hKeep => ?_)
                  · exact ⟨lv0, lv1, lv2, lv3, lv4⟩
                  replace hHeld := hKeep (by first | rfl | trivial) hHeld
                  clear hK K hKeep
                  try simp only [Act.put, List.setIfInBounds_toArray, List.set_cons_zero, List.set_cons_succ, List.getElem_toArray, List.getElem_cons_zero, List.getElem_cons_succ]
                  refine AnyT.done (by kernel_rfl) ?_ _
                  go_wp2_with fail
                  go_meet
                  exact keptL_b oY bwwa LL.out
                · try simp only [Act.put, List.setIfInBounds_toArray, List.set_cons_zero, List.set_cons_succ, List.getElem_toArray, List.getElem_cons_zero, List.getElem_cons_succ]
                  rw [if_pos (by rfl)]
                  go_simp
                  refine hK.out _ _ (fun _ _ => ?_) (fun hKeep => ?_)
                  · exact ⟨za0, za1, za2, za3, za4⟩
                  replace hHeld := hKeep (by first | rfl | trivial) hHeld
                  clear hK K hKeep
                  try simp only [Act.put, List.setIfInBounds_toArray, List.set_cons_zero, List.set_cons_succ, List.getElem_toArray, List.getElem_cons_zero, List.getElem_cons_succ]
                  refine AnyT.call (i := 2) (by kernel_rfl) rfl (fun K hK => ?_)
                  try simp only [Act.put, List.setIfInBounds_toArray, List.set_cons_zero, List.set_cons_succ, List.getElem_toArray, List.getElem_cons_zero, List.getElem_cons_succ]
                  rw [if_pos (by rfl)]
                  go_simp
                  (go_at_call 15; refine (LR.out _ bZ).mono ?_; rintro e wb ⟨Y, yn, yc, rfl, oY, b9, bwwb⟩; have q4 : Row wb w1.heap.size 41 #[.slice none 0 0, .slice none 0 0] := rZ.next b9; have kb0 : wb.cell? ⟨o3, 0, none⟩ = some (.slice S sn sc) := (bwwb.cell (p := ⟨o3, 0, none⟩) zo3).trans c0; have kb1 : wb.cell? ⟨o3, 1, none⟩ = some (.slice R rn rc) := (bwwb.cell (p := ⟨o3, 1, none⟩) zo3).trans c1; have kb2 : wb.cell? ⟨o4, 1, none⟩ = some (.slice Q qn qc) := (bwwb.cell (p := ⟨o4, 1, none⟩) zo4).trans c2; have kb3 : wb.cell? ⟨o20, 0, none⟩ = some (.slice F fn fc) := (bwwb.cell (p := ⟨o20, 0, none⟩) zo20).trans c3; have kb4 : wb.cell? ⟨o20, 1, none⟩ = some (.slice Q hm qc) := (bwwb.cell (p := ⟨o20, 1, none⟩) zo20).trans c4; have y0 : wb.cell? ⟨w1.heap.size, 0, none⟩ = some (.slice none 0 0) := q4.cell 0; have y1 : wb.cell? ⟨w1.heap.size, 1, none⟩ = some (.slice none 0 0) := q4.cell 1; have y2 := q4.free 0; have y3 := q4.free 1; have q5 := q4.put 0 (.slice Y yn yc); have y4 := q5.cell 1; have y5 := q5.free 1; have y6 : (wb.setCell ⟨w1.heap.size, 0, none⟩ (.slice Y yn yc)).cell? ⟨w1.heap.size, 1, none⟩ = some (.slice none 0 0) := y4; go_wp2_with fail)
                  refine hK.out _ _ (fun _ _ => ?_) (fun hKeep => ?_)
                  · exact ⟨kb0, kb1, kb2, kb3, kb4⟩
                  replace hHeld := hKeep (by first | rfl | trivial) hHeld
                  clear hK K hKeep
                  try simp only [Act.put, List.setIfInBounds_toArray, List.set_cons_zero, List.set_cons_succ, List.getElem_toArray, List.getElem_cons_zero, List.getElem_cons_succ]
                  refine AnyT.takeA (i := 7) (v := ?_) rfl (by kernel_rfl) (by kernel_rfl) (by kernel_rfl) (fun _ _ _ h => h) (Or.inl ⟨by rfl, ?_⟩) ?_
                  rotate_left 1
                  · (intro w0 _; go_simp; try with_reducible rfl)
                  try simp only [Act.put, List.setIfInBounds_toArray, List.set_cons_zero, List.set_cons_succ, List.getElem_toArray, List.getElem_cons_zero, List.getElem_cons_succ]
                  have mb0 : ((wb.setCell ⟨w1.heap.size, 0, none⟩ (.slice Y yn yc)).setCell ⟨w1.heap.size, 1, none⟩ (.slice (Option.map (fun x => x.add (hm * 3)) Q) (qn - hm) (qc - hm))).cell? ⟨o3, 0, none⟩ = some (.slice S sn sc) := (World.cell?_of_block (a := ⟨o3, 0, none⟩) ((Below.heap_setCell _ ⟨w1.heap.size, 1, none⟩ _ o3 (by show o3 ≠ w1.heap.size; omega)).trans (Below.heap_setCell _ ⟨w1.heap.size, 0, none⟩ _ o3 (by show o3 ≠ w1.heap.size; omega)))).trans kb0
                  have mb1 : ((wb.setCell ⟨w1.heap.size, 0, none⟩ (.slice Y yn yc)).setCell ⟨w1.heap.size, 1, none⟩ (.slice (Option.map (fun x => x.add (hm * 3)) Q) (qn - hm) (qc - hm))).cell? ⟨o3, 1, none⟩ = some (.slice R rn rc) := (World.cell?_of_block (a := ⟨o3, 1, none⟩) ((Below.heap_setCell _ ⟨w1.heap.size, 1, none⟩ _ o3 (by show o3 ≠ w1.heap.size; omega)).trans (Below.heap_setCell _ ⟨w1.heap.size, 0, none⟩ _ o3 (by show o3 ≠ w1.heap.size; omega)))).trans kb1
                  have mb2 : ((wb.setCell ⟨w1.heap.size, 0, none⟩ (.slice Y yn yc)).setCell ⟨w1.heap.size, 1, none⟩ (.slice (Option.map (fun x => x.add (hm * 3)) Q) (qn - hm) (qc - hm))).cell? ⟨o4, 1, none⟩ = some (.slice Q qn qc) := (World.cell?_of_block (a := ⟨o4, 1, none⟩) ((Below.heap_setCell _ ⟨w1.heap.size, 1, none⟩ _ o4 (by show o4 ≠ w1.heap.size; omega)).trans (Below.heap_setCell _ ⟨w1.heap.size, 0, none⟩ _ o4 (by show o4 ≠ w1.heap.size; omega)))).trans kb2
                  have mb3 : ((wb.setCell ⟨w1.heap.size, 0, none⟩ (.slice Y yn yc)).setCell ⟨w1.heap.size, 1, none⟩ (.slice (Option.map (fun x => x.add (hm * 3)) Q) (qn - hm) (qc - hm))).cell? ⟨o20, 0, none⟩ = some (.slice F fn fc) := (World.cell?_of_block (a := ⟨o20, 0, none⟩) ((Below.heap_setCell _ ⟨w1.heap.size, 1, none⟩ _ o20 (by show o20 ≠ w1.heap.size; omega)).trans (Below.heap_setCell _ ⟨w1.heap.size, 0, none⟩ _ o20 (by show o20 ≠ w1.heap.size; omega)))).trans kb3
                  have mb4 : ((wb.setCell ⟨w1.heap.size, 0, none⟩ (.slice Y yn yc)).setCell ⟨w1.heap.size, 1, none⟩ (.slice (Option.map (fun x => x.add (hm * 3)) Q) (qn - hm) (qc - hm))).cell? ⟨o20, 1, none⟩ = some (.slice Q hm qc) := (World.cell?_of_block (a := ⟨o20, 1, none⟩) ((Below.heap_setCell _ ⟨w1.heap.size, 1, none⟩ _ o20 (by show o20 ≠ w1.heap.size; omega)).trans (Below.heap_setCell _ ⟨w1.heap.size, 0, none⟩ _ o20 (by show o20 ≠ w1.heap.size; omega)))).trans kb4
                  refine AnyT.call (i := 9) (by kernel_rfl) rfl (fun K hK => ?_)
                  try simp only [Act.put, List.setIfInBounds_toArray, List.set_cons_zero, List.set_cons_succ, List.getElem_toArray, List.getElem_cons_zero, List.getElem_cons_succ]
                  rw [if_pos (by rfl)]
                  go_simp
                  refine hK.out _ _ (fun _ _ => ?_) (fun hKeep => ?_)
                  · exact ⟨mb0, mb1, mb2, mb3, mb4⟩
                  replace hHeld := hKeep (by first | rfl | trivial) hHeld
                  clear hK K hKeep
                  try simp only [Act.put, List.setIfInBounds_toArray, List.set_cons_zero, List.set_cons_succ, List.getElem_toArray, List.getElem_cons_zero, List.getElem_cons_succ]
                  refine AnyT.done (by kernel_rfl) ?_ _
                  go_wp2_with fail
                  go_meet
                  exact keptL_a oY q4 (Nat.le_refl _) (by simp only [Go.Proofs.YtpcnjcgglonifaaGreat.compImpl.sz_alloc]; omega) bwwb LL.out
            case rest =>
              rename World => we3
              obtain ⟨o21, G1, g1, gc1, Q1, q1, qc1, rfl, M21, bx⟩ := hcut
              replace T := T.drew.next bx
              replace M := M.drew.next bx
              replace M20 := M20.drew.next bx
              clear bx LR zo3 zo4 zo20 c0 c1 c2 c3 c4
              have LJ := Lib.hid (implJoinedWalk _ _ _ _ _ _ d _ _ we3 T.s M20.m M21.m HZ.out.1 HK20.out (walkB_sz CF.out.2.1))
              rw [CF.out.2.2.1, CF.out.2.2.2] at LJ
              have c0 : we3.cell? ⟨o3, 0, none⟩ = some (.slice S sn sc) := T.c0
              have c1 : we3.cell? ⟨o3, 1, none⟩ = some (.slice R rn rc) := T.c1
              have c2 : we3.cell? ⟨o20, 0, none⟩ = some (.slice F fn fc) := M20.c0
              have c3 : we3.cell? ⟨o20, 1, none⟩ = some (.slice Q hm qc) := M20.c1
              have c4 : we3.cell? ⟨o21, 0, none⟩ = some (.slice G1 g1 gc1) := M21.c0
              have c5 : we3.cell? ⟨o21, 1, none⟩ = some (.slice Q1 q1 qc1) := M21.c1
              go_wp2_with fail
              refine LJ.out.mono ?_
              rintro e w22 ⟨F22, fn22, fc22, Q22, qn22, qc22, rfl, oW, bb⟩
              obtain ⟨o22, ho22⟩ : ∃ o, w22.heap.size = o := ⟨_, rfl⟩
              obtain ⟨V22, hV22⟩ : ∃ W, W = w22.alloc (.cells #[.slice F22 fn22 fc22, .slice Q22 qn22 qc22] 41) := ⟨_, rfl⟩
              obtain ⟨J22, b22⟩ := Lo.of oW.rd ho22 hV22
              replace T := (T.next bb).next b22
              replace M := (M.next bb).next b22
              have HV22 := Lib.hid hV22
              have HO22 := Lib.hid ho22
              clear oW bb b22 hV22 ho22 M20 M21 LJ c0 c1 c2 c3 c4 c5
              have J := J22
              have c0 : V22.cell? ⟨o3, 0, none⟩ = some (.slice S sn sc) := T.c0
              have c1 : V22.cell? ⟨o3, 1, none⟩ = some (.slice R rn rc) := T.c1
              have c2 : V22.cell? ⟨o4, 0, none⟩ = some (.slice F fn fc) := M.c0
              have c3 : V22.cell? ⟨o4, 1, none⟩ = some (.slice Q qn qc) := M.c1
              have c4 : V22.cell? ⟨o22, 0, none⟩ = some (.slice F22 fn22 fc22) := J.c0
              have c5 : V22.cell? ⟨o22, 1, none⟩ = some (.slice Q22 qn22 qc22) := J.c1
              have HT := Lib.hid T.drew
              have HM := Lib.hid M.drew
              have HJ := Lib.hid J.drew
              have hks : sz sStepS k.2 ≤ 1048576 := by have h1 : sz sI k.1 + sz sStepS k.2 ≤ 1048576 := HZ.out.2.1; omega
              have HKS := Lib.hid hks
              have HEL : Hid ((endW d.1 d.2 k).length ≤ 1048576) := Lib.hid (endW_len HZ.out.2.1)
              clear T M J J22 hks
              go_upto_region 22 with fail
              rw [← HV22.out, HO22.out]
              refine AnyT.start (S := (fun w' => w'.cell? ⟨o3, 0, none⟩ = some (.slice S sn sc) ∧ w'.cell? ⟨o3, 1, none⟩ = some (.slice R rn rc) ∧ w'.cell? ⟨o4, 0, none⟩ = some (.slice F fn fc) ∧ w'.cell? ⟨o4, 1, none⟩ = some (.slice Q qn qc) ∧ w'.cell? ⟨o22, 0, none⟩ = some (.slice F22 fn22 fc22) ∧ w'.cell? ⟨o22, 1, none⟩ = some (.slice Q22 qn22 qc22))) (fun _ => false) (by kernel_rfl) ⟨c0, c1, c2, c3, c4, c5⟩ (fun hHeld => ?_)
              refine AnyT.takeA (i := 0) (v := ?_) rfl (by kernel_rfl) (by kernel_rfl) (by kernel_rfl) (fun _ _ _ h => h) (Or.inl ⟨by rfl, ?_⟩) ?_
              rotate_left 1
              · (intro w0 _; go_simp; try with_reducible rfl)
              try simp only [Act.put, List.setIfInBounds_toArray, List.set_cons_zero, List.set_cons_succ, List.getElem_toArray, List.getElem_cons_zero, List.getElem_cons_succ]
              refine AnyT.takeA (i := 1) (v := ?_) rfl (by kernel_rfl) (by kernel_rfl) (by kernel_rfl) (fun _ _ _ h => h) (Or.inl ⟨by rfl, ?_⟩) ?_
              rotate_left 1
              · (intro w0 _; go_simp; try with_reducible rfl)
              try simp only [Act.put, List.setIfInBounds_toArray, List.set_cons_zero, List.set_cons_succ, List.getElem_toArray, List.getElem_cons_zero, List.getElem_cons_succ]
              refine AnyT.takeA (i := 2) (v := ?_) rfl (by kernel_rfl) (by kernel_rfl) (by kernel_rfl) (fun _ _ _ h => h) (Or.inl ⟨by rfl, ?_⟩) ?_
              rotate_left 1
              · (intro w0 _; go_simp; try with_reducible rfl)
              try simp only [Act.put, List.setIfInBounds_toArray, List.set_cons_zero, List.set_cons_succ, List.getElem_toArray, List.getElem_cons_zero, List.getElem_cons_succ]
              refine AnyT.take (i := 3) (v := ?_) rfl (by kernel_rfl) (by kernel_rfl) (by kernel_rfl) (by kernel_rfl) (fun _ _ _ h => h) (Or.inl ⟨by rfl, ?_⟩) (by assumption) ?_
              rotate_left 1
              · (intro w0 hSw; (try dsimp only at hSw); go_simp; try with_reducible rfl)
              try simp only [Act.put, List.setIfInBounds_toArray, List.set_cons_zero, List.set_cons_succ, List.getElem_toArray, List.getElem_cons_zero, List.getElem_cons_succ]
              refine AnyT.takeA (i := 4) (v := ?_) rfl (by kernel_rfl) (by kernel_rfl) (by kernel_rfl) (fun _ _ _ h => h) (Or.inl ⟨by rfl, ?_⟩) ?_
              rotate_left 1
              · (intro w0 _; go_simp; try with_reducible rfl)
              try simp only [Act.put, List.setIfInBounds_toArray, List.set_cons_zero, List.set_cons_succ, List.getElem_toArray, List.getElem_cons_zero, List.getElem_cons_succ]
              refine AnyT.take (i := 5) (v := ?_) rfl (by kernel_rfl) (by kernel_rfl) (by kernel_rfl) (by kernel_rfl) (fun _ _ _ h => h) (Or.inl ⟨by rfl, ?_⟩) (by assumption) ?_
              rotate_left 1
              · (intro w0 hSw; (try dsimp only at hSw); go_simp; try with_reducible rfl)
              try simp only [Act.put, List.setIfInBounds_toArray, List.set_cons_zero, List.set_cons_succ, List.getElem_toArray, List.getElem_cons_zero, List.getElem_cons_succ]
              refine AnyT.call (i := 6) (by kernel_rfl) rfl (fun K hK => ?_)
              try simp only [Act.put, List.setIfInBounds_toArray, List.set_cons_zero, List.set_cons_succ, List.getElem_toArray, List.getElem_cons_zero, List.getElem_cons_succ]
              rw [if_pos (by rfl)]
              go_simp
              (go_at_call 35; refine (w5Yes _ _ _ _ HJ.out.steps HM.out.steps HKS.out).mono ?_; rintro e wa ⟨rfl, bqwa⟩; have Twa := HT.out.next bqwa; have Mwa := HM.out.next bqwa; have Jwa := HJ.out.next bqwa; have kwa0 : wa.cell? ⟨o3, 0, none⟩ = some (.slice S sn sc) := Twa.c0; have kwa1 : wa.cell? ⟨o3, 1, none⟩ = some (.slice R rn rc) := Twa.c1; have kwa2 : wa.cell? ⟨o4, 0, none⟩ = some (.slice F fn fc) := Mwa.c0; have kwa3 : wa.cell? ⟨o4, 1, none⟩ = some (.slice Q qn qc) := Mwa.c1; have kwa4 : wa.cell? ⟨o22, 0, none⟩ = some (.slice F22 fn22 fc22) := Jwa.c0; have kwa5 : wa.cell? ⟨o22, 1, none⟩ = some (.slice Q22 qn22 qc22) := Jwa.c1; go_wp2_with fail)
              refine hK.out _ _ (fun _ _ => ?_) (fun hKeep => ?_)
              · exact ⟨kwa0, kwa1, kwa2, kwa3, kwa4, kwa5⟩
              replace hHeld := hKeep (by first | rfl | trivial) hHeld
              clear hK K hKeep
              try simp only [Act.put, List.setIfInBounds_toArray, List.set_cons_zero, List.set_cons_succ, List.getElem_toArray, List.getElem_cons_zero, List.getElem_cons_succ]
              refine AnyT.takeA (i := 7) (v := ?_) rfl (by kernel_rfl) (by kernel_rfl) (by kernel_rfl) (fun _ _ _ h => h) (Or.inl ⟨by rfl, ?_⟩) ?_
              rotate_left 1
              · (intro w0 _; go_simp; try with_reducible rfl)
              try simp only [Act.put, List.setIfInBounds_toArray, List.set_cons_zero, List.set_cons_succ, List.getElem_toArray, List.getElem_cons_zero, List.getElem_cons_succ]
              refine AnyT.takeA (i := 8) (v := ?_) rfl (by kernel_rfl) (by kernel_rfl) (by kernel_rfl) (fun _ _ _ h => h) (Or.inl ⟨by rfl, ?_⟩) ?_
              rotate_left 1
              · (intro w0 _; go_simp; try with_reducible rfl)
              try simp only [Act.put, List.setIfInBounds_toArray, List.set_cons_zero, List.set_cons_succ, List.getElem_toArray, List.getElem_cons_zero, List.getElem_cons_succ]
              refine AnyT.take (i := 9) (v := ?_) rfl (by kernel_rfl) (by kernel_rfl) (by kernel_rfl) (by kernel_rfl) (fun _ _ _ h => h) (Or.inl ⟨by rfl, ?_⟩) (by assumption) ?_
              rotate_left 1
              · (intro w0 hSw; (try dsimp only at hSw); go_simp; try with_reducible rfl)
              try simp only [Act.put, List.setIfInBounds_toArray, List.set_cons_zero, List.set_cons_succ, List.getElem_toArray, List.getElem_cons_zero, List.getElem_cons_succ]
              refine AnyT.take (i := 10) (v := ?_) rfl (by kernel_rfl) (by kernel_rfl) (by kernel_rfl) (by kernel_rfl) (fun _ _ _ h => h) (Or.inl ⟨by rfl, ?_⟩) (by assumption) ?_
              rotate_left 1
              · (intro w0 hSw; (try dsimp only at hSw); go_simp; try with_reducible rfl)
              try simp only [Act.put, List.setIfInBounds_toArray, List.set_cons_zero, List.set_cons_succ, List.getElem_toArray, List.getElem_cons_zero, List.getElem_cons_succ]
              refine AnyT.take (i := 12) (v := ?_) rfl (by kernel_rfl) (by kernel_rfl) (by kernel_rfl) (by kernel_rfl) (fun _ _ _ h => h) (Or.inl ⟨by rfl, ?_⟩) (by assumption) ?_
              rotate_left 1
              · (intro w0 hSw; (try dsimp only at hSw); go_simp; try with_reducible rfl)
              try simp only [Act.put, List.setIfInBounds_toArray, List.set_cons_zero, List.set_cons_succ, List.getElem_toArray, List.getElem_cons_zero, List.getElem_cons_succ]
              refine AnyT.take (i := 13) (v := ?_) rfl (by kernel_rfl) (by kernel_rfl) (by kernel_rfl) (by kernel_rfl) (fun _ _ _ h => h) (Or.inl ⟨by rfl, ?_⟩) (by assumption) ?_
              rotate_left 1
              · (intro w0 hSw; (try dsimp only at hSw); go_simp; try with_reducible rfl)
              try simp only [Act.put, List.setIfInBounds_toArray, List.set_cons_zero, List.set_cons_succ, List.getElem_toArray, List.getElem_cons_zero, List.getElem_cons_succ]
              refine AnyT.call (i := 11) (by kernel_rfl) rfl (fun K hK => ?_)
              try simp only [Act.put, List.setIfInBounds_toArray, List.set_cons_zero, List.set_cons_succ, List.getElem_toArray, List.getElem_cons_zero, List.getElem_cons_succ]
              rw [if_pos (by rfl)]
              go_simp
              (go_at_call 15; refine (implEndTerm _ _ _ _ d k _ Twa.s Jwa.m HZ.out.1 HZ.out.2.1).mono ?_; rintro e wb ⟨X, xn, xc, rfl, oX, bqwb⟩; have Twb := Twa.next bqwb; have Mwb := Mwa.next bqwb; have Jwb := Jwa.next bqwb; have hXl := Lib.hid (Own.len oX); have hXs := Own.seg oX; have kwb0 : wb.cell? ⟨o3, 0, none⟩ = some (.slice S sn sc) := Twb.c0; have kwb1 : wb.cell? ⟨o3, 1, none⟩ = some (.slice R rn rc) := Twb.c1; have kwb2 : wb.cell? ⟨o4, 0, none⟩ = some (.slice F fn fc) := Mwb.c0; have kwb3 : wb.cell? ⟨o4, 1, none⟩ = some (.slice Q qn qc) := Mwb.c1; have kwb4 : wb.cell? ⟨o22, 0, none⟩ = some (.slice F22 fn22 fc22) := Jwb.c0; have kwb5 : wb.cell? ⟨o22, 1, none⟩ = some (.slice Q22 qn22 qc22) := Jwb.c1; go_wp2_with fail)
              refine hK.out _ _ (fun _ _ => ?_) (fun hKeep => ?_)
              · exact ⟨kwb0, kwb1, kwb2, kwb3, kwb4, kwb5⟩
              replace hHeld := hKeep (by first | rfl | trivial) hHeld
              clear hK K hKeep
              try simp only [Act.put, List.setIfInBounds_toArray, List.set_cons_zero, List.set_cons_succ, List.getElem_toArray, List.getElem_cons_zero, List.getElem_cons_succ]
              refine AnyT.call (i := 14) (by kernel_rfl) rfl (fun K hK => ?_)
              try simp only [Act.put, List.setIfInBounds_toArray, List.set_cons_zero, List.set_cons_succ, List.getElem_toArray, List.getElem_cons_zero, List.getElem_cons_succ]
              rw [if_pos (by rfl)]
              go_simp
              (go_at_call 15; refine (implEndTerm _ _ _ _ d k _ Twb.s Mwb.m HZ.out.1 HZ.out.2.1).mono ?_; rintro e wc ⟨Y, yn, yc, rfl, oY, bqwc⟩; have Twc := Twb.next bqwc; have Mwc := Mwb.next bqwc; have Jwc := Jwb.next bqwc; have hXs2 := hXs.next bqwc; have hYl := Lib.hid (Own.len oY); have hYs := Own.seg oY; have kwc0 : wc.cell? ⟨o3, 0, none⟩ = some (.slice S sn sc) := Twc.c0; have kwc1 : wc.cell? ⟨o3, 1, none⟩ = some (.slice R rn rc) := Twc.c1; have kwc2 : wc.cell? ⟨o4, 0, none⟩ = some (.slice F fn fc) := Mwc.c0; have kwc3 : wc.cell? ⟨o4, 1, none⟩ = some (.slice Q qn qc) := Mwc.c1; have kwc4 : wc.cell? ⟨o22, 0, none⟩ = some (.slice F22 fn22 fc22) := Jwc.c0; have kwc5 : wc.cell? ⟨o22, 1, none⟩ = some (.slice Q22 qn22 qc22) := Jwc.c1; go_wp2_with fail)
              refine hK.out _ _ (fun _ _ => ?_) (fun hKeep => ?_)
              · exact ⟨kwc0, kwc1, kwc2, kwc3, kwc4, kwc5⟩
              replace hHeld := hKeep (by first | rfl | trivial) hHeld
              clear hK K hKeep
              try simp only [Act.put, List.setIfInBounds_toArray, List.set_cons_zero, List.set_cons_succ, List.getElem_toArray, List.getElem_cons_zero, List.getElem_cons_succ]
              refine AnyT.call (i := 15) (by kernel_rfl) rfl (fun K hK => ?_)
              try simp only [Act.put, List.setIfInBounds_toArray, List.set_cons_zero, List.set_cons_succ, List.getElem_toArray, List.getElem_cons_zero, List.getElem_cons_succ]
              rw [if_pos (by rfl)]
              go_simp
              (go_at_call 13; refine (same_yes hXs2 hYs (by have := HEL.out; have := hXl.out; omega) (by have := HEL.out; have := hYl.out; omega)).mono ?_; rintro e wd ⟨rfl, bqwd⟩; have Twd := Twc.next bqwd; have Mwd := Mwc.next bqwd; have Jwd := Jwc.next bqwd; have kwd0 : wd.cell? ⟨o3, 0, none⟩ = some (.slice S sn sc) := Twd.c0; have kwd1 : wd.cell? ⟨o3, 1, none⟩ = some (.slice R rn rc) := Twd.c1; have kwd2 : wd.cell? ⟨o4, 0, none⟩ = some (.slice F fn fc) := Mwd.c0; have kwd3 : wd.cell? ⟨o4, 1, none⟩ = some (.slice Q qn qc) := Mwd.c1; have kwd4 : wd.cell? ⟨o22, 0, none⟩ = some (.slice F22 fn22 fc22) := Jwd.c0; have kwd5 : wd.cell? ⟨o22, 1, none⟩ = some (.slice Q22 qn22 qc22) := Jwd.c1; go_wp2_with fail)
              refine hK.out _ _ (fun _ _ => ?_) (fun hKeep => ?_)
              · exact ⟨kwd0, kwd1, kwd2, kwd3, kwd4, kwd5⟩
              replace hHeld := hKeep (by first | rfl | trivial) hHeld
              clear hK K hKeep
              try simp only [Act.put, List.setIfInBounds_toArray, List.set_cons_zero, List.set_cons_succ, List.getElem_toArray, List.getElem_cons_zero, List.getElem_cons_succ]
              refine AnyT.takeA (i := 16) (v := ?_) rfl (by kernel_rfl) (by kernel_rfl) (by kernel_rfl) (fun _ _ _ h => h) (Or.inl ⟨by rfl, ?_⟩) ?_
              rotate_left 1
              · (intro w0 _; go_simp; try with_reducible rfl)
              try simp only [Act.put, List.setIfInBounds_toArray, List.set_cons_zero, List.set_cons_succ, List.getElem_toArray, List.getElem_cons_zero, List.getElem_cons_succ]
              refine AnyT.takeA (i := 17) (v := ?_) rfl (by kernel_rfl) (by kernel_rfl) (by kernel_rfl) (fun _ _ _ h => h) (Or.inl ⟨by rfl, ?_⟩) ?_
              rotate_left 1
              · (intro w0 _; go_simp; try with_reducible rfl)
              try simp only [Act.put, List.setIfInBounds_toArray, List.set_cons_zero, List.set_cons_succ, List.getElem_toArray, List.getElem_cons_zero, List.getElem_cons_succ]
              refine AnyT.done (by kernel_rfl) ?_ _
              have FF := Lib.hid Twd.b
              clear kwa0 kwa1 kwa2 kwa3 kwa4 kwa5 kwb0 kwb1 kwb2 kwb3 kwb4 kwb5 kwc0 kwc1 kwc2 kwc3 kwc4 kwc5 kwd0 kwd1 kwd2 kwd3 kwd4 kwd5 Twa Mwa Jwa Twb Mwb Jwb Twc Mwc Jwc Twd Mwd Jwd bqwa bqwb bqwc bqwd oX oY hXl hXs hXs2 hYl hYs HT HM HJ HEL HKS c0 c1 c2 c3 c4 c5
              go_wp2
              go_ret
              exact ⟨rfl, FF.out⟩
      | true =>
        go_upto_region 7 with fail
        rw [← HW7.out, HO10.out]
        go_wp2_with fail
        refine LI.out.mono ?_
        rintro e w8 ⟨rfl, bb⟩
        replace T := T.next bb
        replace M := M.next bb
        replace I := I.next bb
        clear bb c0 c1 m0 m1 LI HW7 HO10 himp
        have IF := ins_walk HFI.out
        have hq8 : qn8 = qn := by rw [← I.len, ← M.len]; exact IF.2.1
        subst hq8
        have HIF := Lib.hid IF
        clear IF
        have LI := Lib.hid (implWalkOk _ _ _ _ d (insideW d.1 d.2 k t x) w8 T.s I.m HZ.out.1 inside_sz)
        rw [HIF.out.1] at LI
        have c0 : w8.cell? ⟨o3, 0, none⟩ = some (.slice S sn sc) := T.c0
        have c1 : w8.cell? ⟨o3, 1, none⟩ = some (.slice R rn rc) := T.c1
        have c2 : w8.cell? ⟨o8, 0, none⟩ = some (.slice F8 fn8 fc8) := I.c0
        have c3 : w8.cell? ⟨o8, 1, none⟩ = some (.slice Q8 qn8 qc8) := I.c1
        go_wp2_with fail
        refine LI.out.mono ?_
        rintro e w9 ⟨rfl, bb⟩
        replace T := T.next bb
        replace M := M.next bb
        replace I := I.next bb
        clear bb LI c0 c1 c2 c3
        have ezq : ((qn8 : Int) != (qn8 : Int)) = false := by simp
        have ezq2 : ((qn8 : Int) == (qn8 : Int)) = true := by simp
        have c0 : w9.cell? ⟨o4, 0, none⟩ = some (.slice F fn fc) := M.c0
        have c1 : w9.cell? ⟨o4, 1, none⟩ = some (.slice Q qn8 qc) := M.c1
        have c2 : w9.cell? ⟨o8, 0, none⟩ = some (.slice F8 fn8 fc8) := I.c0
        have c3 : w9.cell? ⟨o8, 1, none⟩ = some (.slice Q8 qn8 qc8) := I.c1
        have d0 : w9.cell? ⟨o3, 0, none⟩ = some (.slice S sn sc) := T.c0
        have d1 : w9.cell? ⟨o3, 1, none⟩ = some (.slice R rn rc) := T.c1
        have HT := Lib.hid T.drew
        have HM := Lib.hid M.drew
        have HI := Lib.hid I.drew
        have HEL : Hid ((endW d.1 d.2 k).length ≤ 1048576) := Lib.hid (endW_len HZ.out.2.1)
        have HEI : Hid ((endW d.1 d.2 (insideW d.1 d.2 k t x)).length ≤ 1048576) := Lib.hid (endW_len inside_sz)
        clear T M I
        go_wp2_with fail
        refine AnyT.start (S := (fun w' => w'.cell? ⟨o3, 0, none⟩ = some (.slice S sn sc) ∧ w'.cell? ⟨o3, 1, none⟩ = some (.slice R rn rc) ∧ w'.cell? ⟨o4, 0, none⟩ = some (.slice F fn fc) ∧ w'.cell? ⟨o4, 1, none⟩ = some (.slice Q qn8 qc) ∧ w'.cell? ⟨o8, 0, none⟩ = some (.slice F8 fn8 fc8) ∧ w'.cell? ⟨o8, 1, none⟩ = some (.slice Q8 qn8 qc8))) (fun _ => false) (by kernel_rfl) ⟨d0, d1, c0, c1, c2, c3⟩ (fun hHeld => ?_)
        refine AnyT.takeA (i := 0) (v := ?_) rfl (by kernel_rfl) (by kernel_rfl) (by kernel_rfl) (fun _ _ _ h => h) (Or.inl ⟨by rfl, ?_⟩) ?_
        rotate_left 1
        · (intro w0 _; go_simp; try with_reducible rfl)
        try simp only [Act.put, List.setIfInBounds_toArray, List.set_cons_zero, List.set_cons_succ, List.getElem_toArray, List.getElem_cons_zero, List.getElem_cons_succ]
        refine AnyT.takeA (i := 1) (v := ?_) rfl (by kernel_rfl) (by kernel_rfl) (by kernel_rfl) (fun _ _ _ h => h) (Or.inl ⟨by rfl, ?_⟩) ?_
        rotate_left 1
        · (intro w0 _; go_simp; try with_reducible rfl)
        try simp only [Act.put, List.setIfInBounds_toArray, List.set_cons_zero, List.set_cons_succ, List.getElem_toArray, List.getElem_cons_zero, List.getElem_cons_succ]
        refine AnyT.takeA (i := 2) (v := ?_) rfl (by kernel_rfl) (by kernel_rfl) (by kernel_rfl) (fun _ _ _ h => h) (Or.inl ⟨by rfl, ?_⟩) ?_
        rotate_left 1
        · (intro w0 _; go_simp; try with_reducible rfl)
        try simp only [Act.put, List.setIfInBounds_toArray, List.set_cons_zero, List.set_cons_succ, List.getElem_toArray, List.getElem_cons_zero, List.getElem_cons_succ]
        refine AnyT.take (i := 3) (v := ?_) rfl (by kernel_rfl) (by kernel_rfl) (by kernel_rfl) (by kernel_rfl) (fun _ _ _ h => h) (Or.inl ⟨by rfl, ?_⟩) (by assumption) ?_
        rotate_left 1
        · (intro w0 hSw; (try dsimp only at hSw); go_simp; try with_reducible rfl)
        try simp only [Act.put, List.setIfInBounds_toArray, List.set_cons_zero, List.set_cons_succ, List.getElem_toArray, List.getElem_cons_zero, List.getElem_cons_succ]
        refine AnyT.take (i := 4) (v := ?_) rfl (by kernel_rfl) (by kernel_rfl) (by kernel_rfl) (by kernel_rfl) (fun _ _ _ h => h) (Or.inl ⟨by rfl, ?_⟩) (by assumption) ?_
        rotate_left 1
        · (intro w0 hSw; (try dsimp only at hSw); go_simp; try with_reducible rfl)
        try simp only [Act.put, List.setIfInBounds_toArray, List.set_cons_zero, List.set_cons_succ, List.getElem_toArray, List.getElem_cons_zero, List.getElem_cons_succ]
        refine AnyT.take (i := 5) (v := ?_) rfl (by kernel_rfl) (by kernel_rfl) (by kernel_rfl) (by kernel_rfl) (fun _ _ _ h => h) (Or.inl ⟨by rfl, ?_⟩) (by assumption) ?_
        rotate_left 1
        · (intro w0 hSw; (try dsimp only at hSw); go_simp; try with_reducible rfl)
        try simp only [Act.put, List.setIfInBounds_toArray, List.set_cons_zero, List.set_cons_succ, List.getElem_toArray, List.getElem_cons_zero, List.getElem_cons_succ]
        refine AnyT.takeA (i := 7) (v := ?_) rfl (by kernel_rfl) (by kernel_rfl) (by kernel_rfl) (fun _ _ _ h => h) (Or.inl ⟨by rfl, ?_⟩) ?_
        rotate_left 1
        · (intro w0 _; go_simp; try with_reducible rfl)
        try simp only [Act.put, List.setIfInBounds_toArray, List.set_cons_zero, List.set_cons_succ, List.getElem_toArray, List.getElem_cons_zero, List.getElem_cons_succ]
        refine AnyT.take (i := 9) (v := ?_) rfl (by kernel_rfl) (by kernel_rfl) (by kernel_rfl) (by kernel_rfl) (fun _ _ _ h => h) (Or.inl ⟨by rfl, ?_⟩) (by assumption) ?_
        rotate_left 1
        · (intro w0 hSw; (try dsimp only at hSw); go_simp; try with_reducible rfl)
        try simp only [Act.put, List.setIfInBounds_toArray, List.set_cons_zero, List.set_cons_succ, List.getElem_toArray, List.getElem_cons_zero, List.getElem_cons_succ]
        refine AnyT.take (i := 10) (v := ?_) rfl (by kernel_rfl) (by kernel_rfl) (by kernel_rfl) (by kernel_rfl) (fun _ _ _ h => h) (Or.inl ⟨by rfl, ?_⟩) (by assumption) ?_
        rotate_left 1
        · (intro w0 hSw; (try dsimp only at hSw); go_simp; try with_reducible rfl)
        try simp only [Act.put, List.setIfInBounds_toArray, List.set_cons_zero, List.set_cons_succ, List.getElem_toArray, List.getElem_cons_zero, List.getElem_cons_succ]
        refine AnyT.call (i := 6) (by kernel_rfl) rfl (fun K hK => ?_)
        try simp only [Act.put, List.setIfInBounds_toArray, List.set_cons_zero, List.set_cons_succ, List.getElem_toArray, List.getElem_cons_zero, List.getElem_cons_succ]
        rw [if_pos (by rfl)]
        go_simp
        (go_at_call 15; refine (implEndTerm _ _ _ _ d (insideW d.1 d.2 k t x) _ HT.out.s HI.out.m HZ.out.1 inside_sz).mono ?_; rintro e wa ⟨X, xn, xc, rfl, oX, bqwa⟩; have Twa := HT.out.next bqwa; have Mwa := HM.out.next bqwa; have Iwa := HI.out.next bqwa; have hXl := Lib.hid (Own.len oX); have hXs := Own.seg oX; have hXc := look.own_cap oX; have kwa0 : wa.cell? ⟨o3, 0, none⟩ = some (.slice S sn sc) := Twa.c0; have kwa1 : wa.cell? ⟨o3, 1, none⟩ = some (.slice R rn rc) := Twa.c1; have kwa2 : wa.cell? ⟨o4, 0, none⟩ = some (.slice F fn fc) := Mwa.c0; have kwa3 : wa.cell? ⟨o4, 1, none⟩ = some (.slice Q qn8 qc) := Mwa.c1; have kwa4 : wa.cell? ⟨o8, 0, none⟩ = some (.slice F8 fn8 fc8) := Iwa.c0; have kwa5 : wa.cell? ⟨o8, 1, none⟩ = some (.slice Q8 qn8 qc8) := Iwa.c1; go_wp2_with fail)
        refine hK.out _ _ (fun _ _ => ?_) (fun hKeep => ?_)
        · exact ⟨kwa0, kwa1, kwa2, kwa3, kwa4, kwa5⟩
        replace hHeld := hKeep (by first | rfl | trivial) hHeld
        clear hK K hKeep
        try simp only [Act.put, List.setIfInBounds_toArray, List.set_cons_zero, List.set_cons_succ, List.getElem_toArray, List.getElem_cons_zero, List.getElem_cons_succ]
        refine AnyT.call (i := 8) (by kernel_rfl) rfl (fun K hK => ?_)
        try simp only [Act.put, List.setIfInBounds_toArray, List.set_cons_zero, List.set_cons_succ, List.getElem_toArray, List.getElem_cons_zero, List.getElem_cons_succ]
        rw [if_pos (by rfl)]
        go_simp
        (go_at_call 30; refine (implSubAt S X sn sc xn xc d.1 (endW d.1 d.2 (insideW d.1 d.2 k t x)) x _ (sy_seg Twa) hXs hsn (by have := HEI.out; have := hXl.out; omega) HX.out.1 HX.out.2 hXc.1 hXc.2.1).mono ?_; rintro e wb ⟨Y, yn, yc, rfl, oY, bqwb⟩; have Twb := Twa.next bqwb; have Mwb := Mwa.next bqwb; have Iwb := Iwa.next bqwb; rw [HIF.out.2.2] at oY; have hYl := Lib.hid (Own.len oY); have hYs := Own.seg oY; have kwb0 : wb.cell? ⟨o3, 0, none⟩ = some (.slice S sn sc) := Twb.c0; have kwb1 : wb.cell? ⟨o3, 1, none⟩ = some (.slice R rn rc) := Twb.c1; have kwb2 : wb.cell? ⟨o4, 0, none⟩ = some (.slice F fn fc) := Mwb.c0; have kwb3 : wb.cell? ⟨o4, 1, none⟩ = some (.slice Q qn8 qc) := Mwb.c1; have kwb4 : wb.cell? ⟨o8, 0, none⟩ = some (.slice F8 fn8 fc8) := Iwb.c0; have kwb5 : wb.cell? ⟨o8, 1, none⟩ = some (.slice Q8 qn8 qc8) := Iwb.c1; go_wp2_with fail)
        refine hK.out _ _ (fun _ _ => ?_) (fun hKeep => ?_)
        · exact ⟨kwb0, kwb1, kwb2, kwb3, kwb4, kwb5⟩
        replace hHeld := hKeep (by first | rfl | trivial) hHeld
        clear hK K hKeep
        try simp only [Act.put, List.setIfInBounds_toArray, List.set_cons_zero, List.set_cons_succ, List.getElem_toArray, List.getElem_cons_zero, List.getElem_cons_succ]
        refine AnyT.call (i := 11) (by kernel_rfl) rfl (fun K hK => ?_)
        try simp only [Act.put, List.setIfInBounds_toArray, List.set_cons_zero, List.set_cons_succ, List.getElem_toArray, List.getElem_cons_zero, List.getElem_cons_succ]
        rw [if_pos (by rfl)]
        go_simp
        (go_at_call 15; refine (implEndTerm _ _ _ _ d k _ Twb.s Mwb.m HZ.out.1 HZ.out.2.1).mono ?_; rintro e wc ⟨Z, zn, zc, rfl, oZ, bqwc⟩; have Twc := Twb.next bqwc; have Mwc := Mwb.next bqwc; have Iwc := Iwb.next bqwc; have hYs2 := hYs.next bqwc; have hZl := Lib.hid (Own.len oZ); have hZs := Own.seg oZ; have kwc0 : wc.cell? ⟨o3, 0, none⟩ = some (.slice S sn sc) := Twc.c0; have kwc1 : wc.cell? ⟨o3, 1, none⟩ = some (.slice R rn rc) := Twc.c1; have kwc2 : wc.cell? ⟨o4, 0, none⟩ = some (.slice F fn fc) := Mwc.c0; have kwc3 : wc.cell? ⟨o4, 1, none⟩ = some (.slice Q qn8 qc) := Mwc.c1; have kwc4 : wc.cell? ⟨o8, 0, none⟩ = some (.slice F8 fn8 fc8) := Iwc.c0; have kwc5 : wc.cell? ⟨o8, 1, none⟩ = some (.slice Q8 qn8 qc8) := Iwc.c1; go_wp2_with fail)
        refine hK.out _ _ (fun _ _ => ?_) (fun hKeep => ?_)
        · exact ⟨kwc0, kwc1, kwc2, kwc3, kwc4, kwc5⟩
        replace hHeld := hKeep (by first | rfl | trivial) hHeld
        clear hK K hKeep
        try simp only [Act.put, List.setIfInBounds_toArray, List.set_cons_zero, List.set_cons_succ, List.getElem_toArray, List.getElem_cons_zero, List.getElem_cons_succ]
        refine AnyT.call (i := 12) (by kernel_rfl) rfl (fun K hK => ?_)
        try simp only [Act.put, List.setIfInBounds_toArray, List.set_cons_zero, List.set_cons_succ, List.getElem_toArray, List.getElem_cons_zero, List.getElem_cons_succ]
        rw [if_pos (by rfl)]
        go_simp
        (go_at_call 13; refine (same_yes hYs2 hZs (by have := HEL.out; have := hYl.out; omega) (by have := HEL.out; have := hZl.out; omega)).mono ?_; rintro e wd ⟨rfl, bqwd⟩; have Twd := Twc.next bqwd; have Mwd := Mwc.next bqwd; have Iwd := Iwc.next bqwd; have kwd0 : wd.cell? ⟨o3, 0, none⟩ = some (.slice S sn sc) := Twd.c0; have kwd1 : wd.cell? ⟨o3, 1, none⟩ = some (.slice R rn rc) := Twd.c1; have kwd2 : wd.cell? ⟨o4, 0, none⟩ = some (.slice F fn fc) := Mwd.c0; have kwd3 : wd.cell? ⟨o4, 1, none⟩ = some (.slice Q qn8 qc) := Mwd.c1; have kwd4 : wd.cell? ⟨o8, 0, none⟩ = some (.slice F8 fn8 fc8) := Iwd.c0; have kwd5 : wd.cell? ⟨o8, 1, none⟩ = some (.slice Q8 qn8 qc8) := Iwd.c1; go_wp2_with fail)
        refine hK.out _ _ (fun _ _ => ?_) (fun hKeep => ?_)
        · exact ⟨kwd0, kwd1, kwd2, kwd3, kwd4, kwd5⟩
        replace hHeld := hKeep (by first | rfl | trivial) hHeld
        clear hK K hKeep
        try simp only [Act.put, List.setIfInBounds_toArray, List.set_cons_zero, List.set_cons_succ, List.getElem_toArray, List.getElem_cons_zero, List.getElem_cons_succ]
        refine AnyT.takeA (i := 13) (v := ?_) rfl (by kernel_rfl) (by kernel_rfl) (by kernel_rfl) (fun _ _ _ h => h) (Or.inl ⟨by rfl, ?_⟩) ?_
        rotate_left 1
        · (intro w0 _; go_simp; try with_reducible rfl)
        try simp only [Act.put, List.setIfInBounds_toArray, List.set_cons_zero, List.set_cons_succ, List.getElem_toArray, List.getElem_cons_zero, List.getElem_cons_succ]
        refine AnyT.takeA (i := 14) (v := ?_) rfl (by kernel_rfl) (by kernel_rfl) (by kernel_rfl) (fun _ _ _ h => h) (Or.inl ⟨by rfl, ?_⟩) ?_
        rotate_left 1
        · (intro w0 _; go_simp; try with_reducible rfl)
        try simp only [Act.put, List.setIfInBounds_toArray, List.set_cons_zero, List.set_cons_succ, List.getElem_toArray, List.getElem_cons_zero, List.getElem_cons_succ]
        refine AnyT.done (by kernel_rfl) ?_ _
        have T := Twd
        have M := Mwd
        clear kwa0 kwa1 kwa2 kwa3 kwa4 kwa5 kwb0 kwb1 kwb2 kwb3 kwb4 kwb5 kwc0 kwc1 kwc2 kwc3 kwc4 kwc5 kwd0 kwd1 kwd2 kwd3 kwd4 kwd5 Twa Mwa Iwa Twb Mwb Iwb Twc Mwc Iwc Twd Mwd Iwd bqwa bqwb bqwc bqwd oX oY oZ hXl hXs hXc hYl hYs hYs2 hZl hZs HT HM HI HEI HEL HIF ezq ezq2 d0 d1 c0 c1 c2 c3
        skip
        have LD := Lib.hid (drawWalkUnder A n c wd (segB_next HSB.out T.b) hbig)
        have HT := Lib.hid T
        have HM := Lib.hid M
        clear T M
        go_upto_region 11 with fail
        go_wp2_with fail
        refine LD.out.mono ?_
        rintro e wy ⟨S2, sn2, sc2, R2, rn2, rc2, d2, F2, fn2, fc2, Q2, qn2, qc2, k2, B, m, cB, ss, rfl, sd2, hz2, kd2, kz2, xd, xz, bb⟩
        have T := HT.out.next bb
        have M := HM.out.next bb
        have HZ2 := Lib.hid (show sz sSystem d2 ≤ 1048576 ∧ sz sWalk k2 ≤ 1048576 ∧ sz sSubst ss ≤ 1048576 from ⟨by omega, by omega, by omega⟩)
        obtain ⟨told, htold⟩ : ∃ b, undB d2.1 d2.2 k2 ss = b := ⟨_, rfl⟩
        have HTO := Lib.hid htold
        obtain ⟨o12, ho12⟩ : ∃ o, wy.heap.size = o := ⟨_, rfl⟩
        obtain ⟨o13, ho13⟩ : ∃ o, wy.heap.size + 1 = o := ⟨_, rfl⟩
        obtain ⟨o14, ho14⟩ : ∃ o, wy.heap.size + 1 + 1 = o := ⟨_, rfl⟩
        obtain ⟨V, hV⟩ : ∃ W, W = ((wy.alloc (.cells #[.slice S2 sn2 sc2, .slice R2 rn2 rc2] 29)).alloc (.cells #[.slice F2 fn2 fc2, .slice Q2 qn2 qc2] 41)).alloc (.cells #[.slice B m cB] 59) := ⟨_, rfl⟩
        have bv : Below wy.heap.size wy V := by rw [hV]; exact (((Below.refl _ _).alloc (Nat.le_refl _) _).alloc (by simp) _).alloc (by simp; omega) _
        replace T := T.next bv
        replace M := M.next bv
        have U2 : Un o12 o13 o14 S2 sn2 sc2 R2 rn2 rc2 d2 F2 Q2 fn2 fc2 qn2 qc2 k2 B m cB ss V := ⟨sd2.next bv, by rw [hV, ← ho12]; exact Go.Proofs.YtpcnjcgglonifaaGreat.compImpl.row_alloc (Go.Proofs.YtpcnjcgglonifaaGreat.compImpl.row_alloc (Row.new _ _ _)), ⟨kd2.next bv, by rw [hV, ← ho13]; exact Go.Proofs.YtpcnjcgglonifaaGreat.compImpl.row_alloc (Go.Proofs.YtpcnjcgglonifaaGreat.compImpl.row_top (by simp))⟩, xd.next bv, by rw [hV, ← ho14]; exact Go.Proofs.YtpcnjcgglonifaaGreat.compImpl.row_top (by simp)⟩
        have HV := Lib.hid hV
        have HO12 := Lib.hid ho12
        have HO13 := Lib.hid ho13
        have HO14 := Lib.hid ho14
        clear HT HM LD sd2 hz2 kd2 kz2 xd xz bb bv hV ho12 ho13 ho14 htold
        have LU := Lib.hid (implWalkUnder _ _ _ _ _ d2 k2 ss V U2.s U2.lo.m U2.x HZ2.out.1 HZ2.out.2.1 HZ2.out.2.2)
        rw [HTO.out] at LU
        have c0 : V.cell? ⟨o12, 0, none⟩ = some (.slice S2 sn2 sc2) := U2.r.cell 0
        have c1 : V.cell? ⟨o12, 1, none⟩ = some (.slice R2 rn2 rc2) := U2.r.cell 1
        have c2 : V.cell? ⟨o13, 0, none⟩ = some (.slice F2 fn2 fc2) := U2.lo.c0
        have c3 : V.cell? ⟨o13, 1, none⟩ = some (.slice Q2 qn2 qc2) := U2.lo.c1
        have c4 : V.cell? ⟨o14, 0, none⟩ = some (.slice B m cB) := U2.rx.cell 0
        go_upto_region 12 with fail
        rw [← HV.out, HO14.out, HO13.out, HO12.out]
        go_wp2_with fail
        refine LU.out.mono ?_
        rintro e v4 ⟨F15, fn15, fc15, Q15, qn15, qc15, rfl, oW, bb⟩
        obtain ⟨o15, ho15⟩ : ∃ o, v4.heap.size = o := ⟨_, rfl⟩
        obtain ⟨V5, hV5⟩ : ∃ W, W = v4.alloc (.cells #[.slice F15 fn15 fc15, .slice Q15 qn15 qc15] 41) := ⟨_, rfl⟩
        obtain ⟨J, b5⟩ := Lo.of oW.rd ho15 hV5
        replace T := (T.next bb).next b5
        replace M := (M.next bb).next b5
        replace U2 := (U2.next bb).next b5
        have HV5 := Lib.hid hV5
        have HO15 := Lib.hid ho15
        clear oW bb b5 hV5 ho15 c0 c1 c2 c3 c4 LU HV HO12 HO13 HO14
        have LU := Lib.hid (specWalkUnder _ _ _ _ _ d2 k2 ss V5 U2.s U2.lo.m U2.x HZ2.out.1 HZ2.out.2.1 HZ2.out.2.2)
        rw [HTO.out] at LU
        have c0 : V5.cell? ⟨o12, 0, none⟩ = some (.slice S2 sn2 sc2) := U2.r.cell 0
        have c1 : V5.cell? ⟨o12, 1, none⟩ = some (.slice R2 rn2 rc2) := U2.r.cell 1
        have c2 : V5.cell? ⟨o13, 0, none⟩ = some (.slice F2 fn2 fc2) := U2.lo.c0
        have c3 : V5.cell? ⟨o13, 1, none⟩ = some (.slice Q2 qn2 qc2) := U2.lo.c1
        have c4 : V5.cell? ⟨o14, 0, none⟩ = some (.slice B m cB) := U2.rx.cell 0
        go_upto_region 13 with fail
        rw [← HV5.out, HO15.out]
        go_wp2_with fail
        refine LU.out.mono ?_
        rintro e v6 ⟨F17, fn17, fc17, Q17, qn17, qc17, rfl, oW, bb⟩
        obtain ⟨V7, hV7⟩ : ∃ W, W = v6.alloc (.cells #[.slice F17 fn17 fc17, .slice Q17 qn17 qc17] 41) := ⟨_, rfl⟩
        have b7 : Below v6.heap.size v6 V7 := by rw [hV7]; exact (Below.refl _ _).alloc (Nat.le_refl _) _
        replace T := (T.next bb).next b7
        replace M := (M.next bb).next b7
        replace U2 := (U2.next bb).next b7
        replace J := (J.next bb).next b7
        have HV7 := Lib.hid hV7
        clear oW bb b7 hV7 c0 c1 c2 c3 c4 LU HV5 HO15
        go_upto_region 14 with fail
        rw [← HV7.out]
        clear HV7
        cases told
        case' false =>
          clear U2 J
          obtain ⟨v8, hv8⟩ : ∃ z, z = V7 := ⟨_, rfl⟩
          subst hv8
        case' true =>
          have LK := Lib.hid (implWalkOk _ _ _ _ d2 (undW d2.1 d2.2 k2 ss) V7 U2.s J.m HZ2.out.1 und_sz)
          rw [und_walk HTO.out] at LK
          have c0 : V7.cell? ⟨o12, 0, none⟩ = some (.slice S2 sn2 sc2) := U2.r.cell 0
          have c1 : V7.cell? ⟨o12, 1, none⟩ = some (.slice R2 rn2 rc2) := U2.r.cell 1
          have c2 : V7.cell? ⟨o15, 0, none⟩ = some (.slice F15 fn15 fc15) := J.c0
          have c3 : V7.cell? ⟨o15, 1, none⟩ = some (.slice Q15 qn15 qc15) := J.c1
          clear U2 J
          go_wp2_with fail
          refine LK.out.mono ?_
          rintro e v8 ⟨rfl, bb⟩
          replace T := T.next bb
          replace M := M.next bb
          clear bb c0 c1 c2 c3 LK
        all_goals
          as_aux_lemma =>
            obtain ⟨hm, hhm⟩ : ∃ z, qn8 / 2 = z := ⟨_, rfl⟩
            have hmq : hm ≤ qn8 := by omega
            have hdv : (qn8 : Int) / 2 = (hm : Int) := by omega
            have hdt : (qn8 : Int).tdiv 2 = (hm : Int) := by rw [Int.tdiv_eq_ediv_of_nonneg (by omega)]; exact hdv
            have hcap := M.cap
            have hc1 : qn8 ≤ qc := hcap.1
            have hc2 : qc ≤ 9223372036854775807 := hcap.2.1
            have CF := Lib.hid (cut_facts HOK.out hm)
            have hqn3 : qn8 ≤ 1048576 := hqn
            have hmc : hm ≤ qc := by omega
            have zo4a := M.r.lt
            clear hcap hhm
            have c0 : v8.cell? ⟨o4, 0, none⟩ = some (.slice F fn fc) := M.c0
            have c1 : v8.cell? ⟨o4, 1, none⟩ = some (.slice Q qn8 qc) := M.c1
            go_upto_region 19 with fail
            have HT := Lib.hid T.drew
            have HM := Lib.hid M.drew
            clear T M
            refine AnyT.start (S := (fun w' => w'.cell? ⟨o4, 0, none⟩ = some (.slice F fn fc) ∧ w'.cell? ⟨o4, 1, none⟩ = some (.slice Q qn8 qc))) (fun _ => false) (by kernel_rfl) ⟨c0, c1⟩ (fun hHeld => ?_)
            generalize v8.drew = w0 at *
            refine AnyT.takeA (i := 0) (v := ?_) rfl (by kernel_rfl) (by kernel_rfl) (by kernel_rfl) (fun _ _ _ h => h) (Or.inl ⟨by rfl, ?_⟩) ?_
            rotate_left 1
            · (intro w0 _; go_simp; try with_reducible rfl)
            try simp only [Act.put, List.setIfInBounds_toArray, List.set_cons_zero, List.set_cons_succ, List.getElem_toArray, List.getElem_cons_zero, List.getElem_cons_succ]
            refine AnyT.take (i := 1) (v := ?_) rfl (by kernel_rfl) (by kernel_rfl) (by kernel_rfl) (by kernel_rfl) (fun _ _ _ h => h) (Or.inl ⟨by rfl, ?_⟩) (by assumption) ?_
            rotate_left 1
            · (intro w0 hSw; (try dsimp only at hSw); go_simp; try with_reducible rfl)
            try simp only [Act.put, List.setIfInBounds_toArray, List.set_cons_zero, List.set_cons_succ, List.getElem_toArray, List.getElem_cons_zero, List.getElem_cons_succ]
            refine AnyT.takeA (i := 2) (v := ?_) rfl (by kernel_rfl) (by kernel_rfl) (by kernel_rfl) (fun _ _ _ h => h) (Or.inl ⟨by rfl, ?_⟩) ?_
            rotate_left 1
            · (intro w0 _; go_simp; try with_reducible rfl)
            try simp only [Act.put, List.setIfInBounds_toArray, List.set_cons_zero, List.set_cons_succ, List.getElem_toArray, List.getElem_cons_zero, List.getElem_cons_succ]
            refine AnyT.take (i := 3) (v := ?_) rfl (by kernel_rfl) (by kernel_rfl) (by kernel_rfl) (by kernel_rfl) (fun _ _ _ h => h) (Or.inl ⟨by rfl, ?_⟩) (by assumption) ?_
            rotate_left 1
            · (intro w0 hSw; (try dsimp only at hSw); go_simp; try with_reducible rfl)
            try simp only [Act.put, List.setIfInBounds_toArray, List.set_cons_zero, List.set_cons_succ, List.getElem_toArray, List.getElem_cons_zero, List.getElem_cons_succ]
            refine AnyT.takeA (i := 4) (v := ?_) rfl (by kernel_rfl) (by kernel_rfl) (by kernel_rfl) (fun _ _ _ h => h) (Or.inl ⟨by rfl, ?_⟩) ?_
            rotate_left 1
            · (intro w0 _; go_simp; try with_reducible rfl)
            try simp only [Act.put, List.setIfInBounds_toArray, List.set_cons_zero, List.set_cons_succ, List.getElem_toArray, List.getElem_cons_zero, List.getElem_cons_succ]
            refine AnyT.takeA (i := 5) (v := ?_) rfl (by kernel_rfl) (by kernel_rfl) (by kernel_rfl) (fun _ _ _ h => h) (Or.inl ⟨by rfl, ?_⟩) ?_
            rotate_left 1
            · (intro w0 _; go_simp; try with_reducible rfl)
            try simp only [Act.put, List.setIfInBounds_toArray, List.set_cons_zero, List.set_cons_succ, List.getElem_toArray, List.getElem_cons_zero, List.getElem_cons_succ]
            refine AnyT.takeA (i := 6) (v := ?_) rfl (by kernel_rfl) (by kernel_rfl) (by kernel_rfl) (fun _ _ _ h => h) (Or.inl ⟨by rfl, ?_⟩) ?_
            rotate_left 1
            · (intro w0 _; go_simp; try with_reducible rfl)
            try simp only [Act.put, List.setIfInBounds_toArray, List.set_cons_zero, List.set_cons_succ, List.getElem_toArray, List.getElem_cons_zero, List.getElem_cons_succ]
            have T0 := HT.out
            have M0 := HM.out
            have bA := (Below.refl w0.heap.size w0).alloc (Nat.le_refl _) (.cells #[.slice none 0 0, .slice none 0 0] 41)
            have bV := (Below.refl w0.heap.size w0).alloc (Nat.le_refl _) (.cells #[.slice F fn fc, .slice Q hm qc] 41)
            have ka0 : (w0.alloc (.cells #[.slice none 0 0, .slice none 0 0] 41)).cell? ⟨o4, 0, none⟩ = some (.slice F fn fc) := (M0.next bA).c0
            have ka1 : (w0.alloc (.cells #[.slice none 0 0, .slice none 0 0] 41)).cell? ⟨o4, 1, none⟩ = some (.slice Q qn8 qc) := (M0.next bA).c1
            have kv0 : (w0.alloc (.cells #[.slice F fn fc, .slice Q hm qc] 41)).cell? ⟨o4, 0, none⟩ = some (.slice F fn fc) := (M0.next bV).c0
            have kv1 : (w0.alloc (.cells #[.slice F fn fc, .slice Q hm qc] 41)).cell? ⟨o4, 1, none⟩ = some (.slice Q qn8 qc) := (M0.next bV).c1
            refine AnyT.call (i := 7) (by kernel_rfl) rfl (fun K hK => ?_)
            try simp only [Act.put, List.setIfInBounds_toArray, List.set_cons_zero, List.set_cons_succ, List.getElem_toArray, List.getElem_cons_zero, List.getElem_cons_succ]
            rw [if_pos (by rfl)]
            go_simp
            refine hK.out _ _ (fun _ _ => ?_) (fun hKeep => ?_)
            · exact ⟨ka0, ka1⟩
            replace hHeld := hKeep (by first | rfl | trivial) hHeld
            clear hK K hKeep
            try simp only [Act.put, List.setIfInBounds_toArray, List.set_cons_zero, List.set_cons_succ, List.getElem_toArray, List.getElem_cons_zero, List.getElem_cons_succ]
            refine AnyT.call (i := 8) (by kernel_rfl) rfl (fun K hK => ?_)
            try simp only [Act.put, List.setIfInBounds_toArray, List.set_cons_zero, List.set_cons_succ, List.getElem_toArray, List.getElem_cons_zero, List.getElem_cons_succ]
            rw [if_pos (by rfl)]
            go_simp
            refine hK.out _ _ (fun _ _ => ?_) (fun hKeep => ?_)
            · exact ⟨kv0, kv1⟩
            replace hHeld := hKeep (by first | rfl | trivial) hHeld
            clear hK K hKeep
            try simp only [Act.put, List.setIfInBounds_toArray, List.set_cons_zero, List.set_cons_succ, List.getElem_toArray, List.getElem_cons_zero, List.getElem_cons_succ]
            refine AnyT.done (by kernel_rfl) ?_ _
            have T := T0.next bV
            have M := M0.next bV
            have M20 : Lo w0.heap.size F Q fn fc hm qc ((k.1, k.2.take hm) : List Int × List St) (w0.alloc (.cells #[.slice F fn fc, .slice Q hm qc] 41)) := ⟨walk_join_rd M.from_ (rd_take M.steps hmq), Row.new _ _ _⟩
            obtain ⟨o20, ho20⟩ : ∃ q, w0.heap.size = q := ⟨_, rfl⟩
            obtain ⟨wd3, hwd3⟩ : ∃ q, (w0.alloc (.cells #[.slice F fn fc, .slice Q hm qc] 41)) = q := ⟨_, rfl⟩
            rw [hwd3] at T M M20
            rw [ho20] at M20
            have HO20 := Lib.hid ho20
            have HWD3 := Lib.hid hwd3
            clear HT HM T0 M0 bA bV ka0 ka1 kv0 kv1 ho20 hwd3 zo4a c0 c1
            have hk20 : sz sWalk ((k.1, k.2.take hm) : List Int × List St) ≤ 1048576 := walkB_sz CF.out.1
            have HK20 := Lib.hid hk20
            have zo3 := T.r.lt
            have zo4 := M.r.lt
            have zo20 := M20.r.lt
            have LR := Lib.hid (fun (w9 : World) (B : Below wd3.drew.heap.size wd3.drew w9) => (implEndTerm _ _ _ _ d ((k.1, k.2.take hm) : List Int × List St) w9 (T.drew.next B).s (M20.drew.next B).m HZ.out.1 HK20.out).mono fun e w' (q : AnsList w9 (endW d.1 d.2 (k.1, k.2.take hm)) e w') => (show ∃ Y yn yc, e = .returned (.slice Y yn yc) ∧ Go.Proofs.YtpcnjcgglonifaaGreat.marks.Own w' w9.heap.size (.slice Y yn yc) (endW d.1 d.2 (k.1, k.2.take hm)) ∧ Below w9.heap.size w9 w' ∧ Below wd3.drew.heap.size wd3.drew w' from by obtain ⟨Y, yn, yc, h1, h2, h3⟩ := q; exact ⟨Y, yn, yc, h1, h2, h3, next_trans B h3⟩))
            have c0 : wd3.cell? ⟨o3, 0, none⟩ = some (.slice S sn sc) := T.c0
            have c1 : wd3.cell? ⟨o3, 1, none⟩ = some (.slice R rn rc) := T.c1
            have c2 : wd3.cell? ⟨o4, 1, none⟩ = some (.slice Q qn8 qc) := M.c1
            have c3 : wd3.cell? ⟨o20, 0, none⟩ = some (.slice F fn fc) := M20.c0
            have c4 : wd3.cell? ⟨o20, 1, none⟩ = some (.slice Q hm qc) := M20.c1
            go_upto_region 20 with fail
            rw [HWD3.out, HO20.out]
            go_cut [21] (fun s21 wx => KeptL wd3.drew (endW d.1 d.2 (k.1, k.2.take hm)) (k.2.drop hm) s21 wx)
            case first =>
              rcases Classical.em (qc = hm) with hqh | hqh
              · obtain rfl : hm = qc := hqh.symm
                have LL0 := rd_drop2 M.drew.steps hmq
                rw [if_pos rfl, Nat.sub_self, show qn8 - hm = 0 by omega] at LL0
                have LL := Lib.hid LL0
                clear LL0
                have zo3 := T.drew.r.lt
                have zo4 := M.drew.r.lt
                have zo20 := M20.drew.r.lt
                have c0 : wd3.drew.cell? ⟨o3, 0, none⟩ = some (.slice S sn sc) := c0
                have c1 : wd3.drew.cell? ⟨o3, 1, none⟩ = some (.slice R rn rc) := c1
                have c2 : wd3.drew.cell? ⟨o4, 1, none⟩ = some (.slice Q qn8 hm) := c2
                have c3 : wd3.drew.cell? ⟨o20, 0, none⟩ = some (.slice F fn fc) := c3
                have c4 : wd3.drew.cell? ⟨o20, 1, none⟩ = some (.slice Q hm hm) := c4
                have HBW := Lib.hid (drew_below wd3)
                clear T M M20
                refine AnyT.start (S := (fun w' => w'.cell? ⟨o3, 0, none⟩ = some (.slice S sn sc) ∧ w'.cell? ⟨o3, 1, none⟩ = some (.slice R rn rc) ∧ w'.cell? ⟨o4, 1, none⟩ = some (.slice Q qn8 hm) ∧ w'.cell? ⟨o20, 0, none⟩ = some (.slice F fn fc) ∧ w'.cell? ⟨o20, 1, none⟩ = some (.slice Q hm hm))) (fun _ => false) (by kernel_rfl) ⟨c0, c1, c2, c3, c4⟩ (fun hHeld => ?_)
                generalize wd3.drew = w1 at *
                refine AnyT.take (i := 0) (v := ?_) rfl (by kernel_rfl) (by kernel_rfl) (by kernel_rfl) (by kernel_rfl) (fun _ _ _ h => h) (Or.inl ⟨by rfl, ?_⟩) (by assumption) ?_
                rotate_left 1
                · (intro w0 hSw; (try dsimp only at hSw); go_simp; try with_reducible rfl)
                try simp only [Act.put, List.setIfInBounds_toArray, List.set_cons_zero, List.set_cons_succ, List.getElem_toArray, List.getElem_cons_zero, List.getElem_cons_succ]
                refine AnyT.take (i := 1) (v := ?_) rfl (by kernel_rfl) (by kernel_rfl) (by kernel_rfl) (by kernel_rfl) (fun _ _ _ h => h) (Or.inl ⟨by rfl, ?_⟩) (by assumption) ?_
                rotate_left 1
                · (intro w0 hSw; (try dsimp only at hSw); go_simp; try with_reducible rfl)
                try simp only [Act.put, List.setIfInBounds_toArray, List.set_cons_zero, List.set_cons_succ, List.getElem_toArray, List.getElem_cons_zero, List.getElem_cons_succ]
                refine AnyT.takeA (i := 3) (v := ?_) rfl (by kernel_rfl) (by kernel_rfl) (by kernel_rfl) (fun _ _ _ h => h) (Or.inl ⟨by rfl, ?_⟩) ?_
                rotate_left 1
                · (intro w0 _; go_simp; try with_reducible rfl)
                try simp only [Act.put, List.setIfInBounds_toArray, List.set_cons_zero, List.set_cons_succ, List.getElem_toArray, List.getElem_cons_zero, List.getElem_cons_succ]
                refine AnyT.take (i := 4) (v := ?_) rfl (by kernel_rfl) (by kernel_rfl) (by kernel_rfl) (by kernel_rfl) (fun _ _ _ h => h) (Or.inl ⟨by rfl, ?_⟩) (by assumption) ?_
                rotate_left 1
                · (intro w0 hSw; (try dsimp only at hSw); go_simp; try with_reducible rfl)
                try simp only [Act.put, List.setIfInBounds_toArray, List.set_cons_zero, List.set_cons_succ, List.getElem_toArray, List.getElem_cons_zero, List.getElem_cons_succ]
                refine AnyT.takeA (i := 5) (v := ?_) rfl (by kernel_rfl) (by kernel_rfl) (by kernel_rfl) (fun _ _ _ h => h) (Or.inl ⟨by rfl, ?_⟩) ?_
                rotate_left 1
                · (intro w0 _; go_simp; try with_reducible rfl)
                try simp only [Act.put, List.setIfInBounds_toArray, List.set_cons_zero, List.set_cons_succ, List.getElem_toArray, List.getElem_cons_zero, List.getElem_cons_succ]
                refine AnyT.takeA (i := 6) (v := ?_) rfl (by kernel_rfl) (by kernel_rfl) (by kernel_rfl) (fun _ _ _ h => h) (Or.inl ⟨by rfl, ?_⟩) ?_
                rotate_left 1
                · (intro w0 _; go_simp; try with_reducible rfl)
                try simp only [Act.put, List.setIfInBounds_toArray, List.set_cons_zero, List.set_cons_succ, List.getElem_toArray, List.getElem_cons_zero, List.getElem_cons_succ]
                have bZ := (Below.refl w1.heap.size w1).alloc (Nat.le_refl _) (.cells #[.slice none 0 0, .slice none 0 0] 41)
                have rZ : Row (w1.alloc (.cells #[.slice none 0 0, .slice none 0 0] 41)) w1.heap.size 41 #[.slice none 0 0, .slice none 0 0] := Row.new _ _ _
                have za0 : (w1.alloc (.cells #[.slice none 0 0, .slice none 0 0] 41)).cell? ⟨o3, 0, none⟩ = some (.slice S sn sc) := (bZ.cell (p := ⟨o3, 0, none⟩) zo3).trans c0
                have za1 : (w1.alloc (.cells #[.slice none 0 0, .slice none 0 0] 41)).cell? ⟨o3, 1, none⟩ = some (.slice R rn rc) := (bZ.cell (p := ⟨o3, 1, none⟩) zo3).trans c1
                have za2 : (w1.alloc (.cells #[.slice none 0 0, .slice none 0 0] 41)).cell? ⟨o4, 1, none⟩ = some (.slice Q qn8 hm) := (bZ.cell (p := ⟨o4, 1, none⟩) zo4).trans c2
                have za3 : (w1.alloc (.cells #[.slice none 0 0, .slice none 0 0] 41)).cell? ⟨o20, 0, none⟩ = some (.slice F fn fc) := (bZ.cell (p := ⟨o20, 0, none⟩) zo20).trans c3
                have za4 : (w1.alloc (.cells #[.slice none 0 0, .slice none 0 0] 41)).cell? ⟨o20, 1, none⟩ = some (.slice Q hm hm) := (bZ.cell (p := ⟨o20, 1, none⟩) zo20).trans c4
                refine AnyT.two (i := 2) (j := 8) (by kernel_rfl) rfl rfl (fun K hK => ?_) (fun K hK => ?_)
                · try simp only [Act.put, List.setIfInBounds_toArray, List.set_cons_zero, List.set_cons_succ, List.getElem_toArray, List.getElem_cons_zero, List.getElem_cons_succ]
                  rw [if_pos (by rfl)]
                  go_simp
                  (go_at_call 15; refine (LR.out _ (Below.refl _ _)).mono ?_; rintro e wa ⟨Y, yn, yc, rfl, oY, -, bwwa⟩; have ka0 : wa.cell? ⟨o3, 0, none⟩ = some (.slice S sn sc) := (bwwa.cell (p := ⟨o3, 0, none⟩) zo3).trans c0; have ka1 : wa.cell? ⟨o3, 1, none⟩ = some (.slice R rn rc) := (bwwa.cell (p := ⟨o3, 1, none⟩) zo3).trans c1; have ka2 : wa.cell? ⟨o4, 1, none⟩ = some (.slice Q qn8 hm) := (bwwa.cell (p := ⟨o4, 1, none⟩) zo4).trans c2; have ka3 : wa.cell? ⟨o20, 0, none⟩ = some (.slice F fn fc) := (bwwa.cell (p := ⟨o20, 0, none⟩) zo20).trans c3; have ka4 : wa.cell? ⟨o20, 1, none⟩ = some (.slice Q hm hm) := (bwwa.cell (p := ⟨o20, 1, none⟩) zo20).trans c4; go_wp2_with fail)
                  refine hK.out _ _ (fun _ _ => ?_) (fun hKeep => ?_)
                  · exact ⟨ka0, ka1, ka2, ka3, ka4⟩
                  replace hHeld := hKeep (by first | rfl | trivial) hHeld
                  clear hK K hKeep
                  try simp only [Act.put, List.setIfInBounds_toArray, List.set_cons_zero, List.set_cons_succ, List.getElem_toArray, List.getElem_cons_zero, List.getElem_cons_succ]
                  refine AnyT.takeA (i := 7) (v := ?_) rfl (by kernel_rfl) (by kernel_rfl) (by kernel_rfl) (fun _ _ _ h => h) (Or.inl ⟨by rfl, ?_⟩) ?_
                  rotate_left 1
                  · (intro w0 _; go_simp; try with_reducible rfl)
                  try simp only [Act.put, List.setIfInBounds_toArray, List.set_cons_zero, List.set_cons_succ, List.getElem_toArray, List.getElem_cons_zero, List.getElem_cons_succ]
                  have bWA := (Below.refl wa.heap.size wa).alloc (Nat.le_refl _) (.cells #[.slice none 0 0, .slice none 0 0] 41)
                  have bWV := (Below.refl wa.heap.size wa).alloc (Nat.le_refl _) (.cells #[.slice Y yn yc, .slice Q 0 0] 41)
                  have la0 : (wa.alloc (.cells #[.slice none 0 0, .slice none 0 0] 41)).cell? ⟨o3, 0, none⟩ = some (.slice S sn sc) := (bWA.cell (p := ⟨o3, 0, none⟩) (Nat.lt_of_lt_of_le zo3 bwwa.size)).trans ka0
                  have la1 : (wa.alloc (.cells #[.slice none 0 0, .slice none 0 0] 41)).cell? ⟨o3, 1, none⟩ = some (.slice R rn rc) := (bWA.cell (p := ⟨o3, 1, none⟩) (Nat.lt_of_lt_of_le zo3 bwwa.size)).trans ka1
                  have la2 : (wa.alloc (.cells #[.slice none 0 0, .slice none 0 0] 41)).cell? ⟨o4, 1, none⟩ = some (.slice Q qn8 hm) := (bWA.cell (p := ⟨o4, 1, none⟩) (Nat.lt_of_lt_of_le zo4 bwwa.size)).trans ka2
                  have la3 : (wa.alloc (.cells #[.slice none 0 0, .slice none 0 0] 41)).cell? ⟨o20, 0, none⟩ = some (.slice F fn fc) := (bWA.cell (p := ⟨o20, 0, none⟩) (Nat.lt_of_lt_of_le zo20 bwwa.size)).trans ka3
                  have la4 : (wa.alloc (.cells #[.slice none 0 0, .slice none 0 0] 41)).cell? ⟨o20, 1, none⟩ = some (.slice Q hm hm) := (bWA.cell (p := ⟨o20, 1, none⟩) (Nat.lt_of_lt_of_le zo20 bwwa.size)).trans ka4
                  have lv0 : (wa.alloc (.cells #[.slice Y yn yc, .slice Q 0 0] 41)).cell? ⟨o3, 0, none⟩ = some (.slice S sn sc) := (bWV.cell (p := ⟨o3, 0, none⟩) (Nat.lt_of_lt_of_le zo3 bwwa.size)).trans ka0
                  have lv1 : (wa.alloc (.cells #[.slice Y yn yc, .slice Q 0 0] 41)).cell? ⟨o3, 1, none⟩ = some (.slice R rn rc) := (bWV.cell (p := ⟨o3, 1, none⟩) (Nat.lt_of_lt_of_le zo3 bwwa.size)).trans ka1
                  have lv2 : (wa.alloc (.cells #[.slice Y yn yc, .slice Q 0 0] 41)).cell? ⟨o4, 1, none⟩ = some (.slice Q qn8 hm) := (bWV.cell (p := ⟨o4, 1, none⟩) (Nat.lt_of_lt_of_le zo4 bwwa.size)).trans ka2
                  have lv3 : (wa.alloc (.cells #[.slice Y yn yc, .slice Q 0 0] 41)).cell? ⟨o20, 0, none⟩ = some (.slice F fn fc) := (bWV.cell (p := ⟨o20, 0, none⟩) (Nat.lt_of_lt_of_le zo20 bwwa.size)).trans ka3
                  have lv4 : (wa.alloc (.cells #[.slice Y yn yc, .slice Q 0 0] 41)).cell? ⟨o20, 1, none⟩ = some (.slice Q hm hm) := (bWV.cell (p := ⟨o20, 1, none⟩) (Nat.lt_of_lt_of_le zo20 bwwa.size)).trans ka4
                  refine AnyT.call (i := 8) (by kernel_rfl) rfl (fun K hK => ?_)
                  try simp only [Act.put, List.setIfInBounds_toArray, List.set_cons_zero, List.set_cons_succ, List.getElem_toArray, List.getElem_cons_zero, List.getElem_cons_succ]
                  rw [if_pos (by rfl)]
                  go_simp
                  refine hK.out _ _ (fun _ _ => ?_) (fun hKeep => ?_)
                  · exact ⟨la0, la1, la2, la3, la4⟩
                  replace hHeld := hKeep (by first | rfl | trivial) hHeld
                  clear hK K hKeep
                  try simp only [Act.put, List.setIfInBounds_toArray, List.set_cons_zero, List.set_cons_succ, List.getElem_toArray, List.getElem_cons_zero, List.getElem_cons_succ]
                  refine AnyT.call (i := 9) (by kernel_rfl) rfl (fun K hK => ?_)
                  try simp only [Act.put, List.setIfInBounds_toArray, List.set_cons_zero, List.set_cons_succ, List.getElem_toArray, List.getElem_cons_zero, List.getElem_cons_succ]
                  rw [if_pos (by rfl)]
                  go_simp
                  refine hK.out _ _ (fun _ _ => ?_) (fun hKeep => ?_)
                  · exact ⟨lv0, lv1, lv2, lv3, lv4⟩
                  replace hHeld := hKeep (by first | rfl | trivial) hHeld
                  clear hK K hKeep
                  try simp only [Act.put, List.setIfInBounds_toArray, List.set_cons_zero, List.set_cons_succ, List.getElem_toArray, List.getElem_cons_zero, List.getElem_cons_succ]
                  refine AnyT.done (by kernel_rfl) ?_ _
                  go_wp2_with fail
                  go_meet
                  exact keptL_b oY bwwa LL.out
                · try simp only [Act.put, List.setIfInBounds_toArray, List.set_cons_zero, List.set_cons_succ, List.getElem_toArray, List.getElem_cons_zero, List.getElem_cons_succ]
                  rw [if_pos (by rfl)]
                  go_simp
                  refine hK.out _ _ (fun _ _ => ?_) (fun hKeep => ?_)
                  · exact ⟨za0, za1, za2, za3, za4⟩
                  replace hHeld := hKeep (by first | rfl | trivial) hHeld
                  clear hK K hKeep
                  try simp only [Act.put, List.setIfInBounds_toArray, List.set_cons_zero, List.set_cons_succ, List.getElem_toArray, List.getElem_cons_zero, List.getElem_cons_succ]
                  refine AnyT.call (i := 2) (by kernel_rfl) rfl (fun K hK => ?_)
                  try simp only [Act.put, List.setIfInBounds_toArray, List.set_cons_zero, List.set_cons_succ, List.getElem_toArray, List.getElem_cons_zero, List.getElem_cons_succ]
                  rw [if_pos (by rfl)]
                  go_simp
                  (go_at_call 15; refine (LR.out _ bZ).mono ?_; rintro e wb ⟨Y, yn, yc, rfl, oY, b9, bwwb⟩; have q4 : Row wb w1.heap.size 41 #[.slice none 0 0, .slice none 0 0] := rZ.next b9; have kb0 : wb.cell? ⟨o3, 0, none⟩ = some (.slice S sn sc) := (bwwb.cell (p := ⟨o3, 0, none⟩) zo3).trans c0; have kb1 : wb.cell? ⟨o3, 1, none⟩ = some (.slice R rn rc) := (bwwb.cell (p := ⟨o3, 1, none⟩) zo3).trans c1; have kb2 : wb.cell? ⟨o4, 1, none⟩ = some (.slice Q qn8 hm) := (bwwb.cell (p := ⟨o4, 1, none⟩) zo4).trans c2; have kb3 : wb.cell? ⟨o20, 0, none⟩ = some (.slice F fn fc) := (bwwb.cell (p := ⟨o20, 0, none⟩) zo20).trans c3; have kb4 : wb.cell? ⟨o20, 1, none⟩ = some (.slice Q hm hm) := (bwwb.cell (p := ⟨o20, 1, none⟩) zo20).trans c4; have y0 : wb.cell? ⟨w1.heap.size, 0, none⟩ = some (.slice none 0 0) := q4.cell 0; have y1 : wb.cell? ⟨w1.heap.size, 1, none⟩ = some (.slice none 0 0) := q4.cell 1; have y2 := q4.free 0; have y3 := q4.free 1; have q5 := q4.put 0 (.slice Y yn yc); have y4 := q5.cell 1; have y5 := q5.free 1; have y6 : (wb.setCell ⟨w1.heap.size, 0, none⟩ (.slice Y yn yc)).cell? ⟨w1.heap.size, 1, none⟩ = some (.slice none 0 0) := y4; go_wp2_with fail)
                  refine hK.out _ _ (fun _ _ => ?_) (fun hKeep => ?_)
                  · exact ⟨kb0, kb1, kb2, kb3, kb4⟩
                  replace hHeld := hKeep (by first | rfl | trivial) hHeld
                  clear hK K hKeep
                  try simp only [Act.put, List.setIfInBounds_toArray, List.set_cons_zero, List.set_cons_succ, List.getElem_toArray, List.getElem_cons_zero, List.getElem_cons_succ]
                  refine AnyT.takeA (i := 7) (v := ?_) rfl (by kernel_rfl) (by kernel_rfl) (by kernel_rfl) (fun _ _ _ h => h) (Or.inl ⟨by rfl, ?_⟩) ?_
                  rotate_left 1
                  · (intro w0 _; go_simp; try with_reducible rfl)
                  try simp only [Act.put, List.setIfInBounds_toArray, List.set_cons_zero, List.set_cons_succ, List.getElem_toArray, List.getElem_cons_zero, List.getElem_cons_succ]
                  have mb0 : ((wb.setCell ⟨w1.heap.size, 0, none⟩ (.slice Y yn yc)).setCell ⟨w1.heap.size, 1, none⟩ (.slice Q 0 0)).cell? ⟨o3, 0, none⟩ = some (.slice S sn sc) := (World.cell?_of_block (a := ⟨o3, 0, none⟩) ((Below.heap_setCell _ ⟨w1.heap.size, 1, none⟩ _ o3 (by show o3 ≠ w1.heap.size; omega)).trans (Below.heap_setCell _ ⟨w1.heap.size, 0, none⟩ _ o3 (by show o3 ≠ w1.heap.size; omega)))).trans kb0
                  have mb1 : ((wb.setCell ⟨w1.heap.size, 0, none⟩ (.slice Y yn yc)).setCell ⟨w1.heap.size, 1, none⟩ (.slice Q 0 0)).cell? ⟨o3, 1, none⟩ = some (.slice R rn rc) := (World.cell?_of_block (a := ⟨o3, 1, none⟩) ((Below.heap_setCell _ ⟨w1.heap.size, 1, none⟩ _ o3 (by show o3 ≠ w1.heap.size; omega)).trans (Below.heap_setCell _ ⟨w1.heap.size, 0, none⟩ _ o3 (by show o3 ≠ w1.heap.size; omega)))).trans kb1
                  have mb2 : ((wb.setCell ⟨w1.heap.size, 0, none⟩ (.slice Y yn yc)).setCell ⟨w1.heap.size, 1, none⟩ (.slice Q 0 0)).cell? ⟨o4, 1, none⟩ = some (.slice Q qn8 hm) := (World.cell?_of_block (a := ⟨o4, 1, none⟩) ((Below.heap_setCell _ ⟨w1.heap.size, 1, none⟩ _ o4 (by show o4 ≠ w1.heap.size; omega)).trans (Below.heap_setCell _ ⟨w1.heap.size, 0, none⟩ _ o4 (by show o4 ≠ w1.heap.size; omega)))).trans kb2
                  have mb3 : ((wb.setCell ⟨w1.heap.size, 0, none⟩ (.slice Y yn yc)).setCell ⟨w1.heap.size, 1, none⟩ (.slice Q 0 0)).cell? ⟨o20, 0, none⟩ = some (.slice F fn fc) := (World.cell?_of_block (a := ⟨o20, 0, none⟩) ((Below.heap_setCell _ ⟨w1.heap.size, 1, none⟩ _ o20 (by show o20 ≠ w1.heap.size; omega)).trans (Below.heap_setCell _ ⟨w1.heap.size, 0, none⟩ _ o20 (by show o20 ≠ w1.heap.size; omega)))).trans kb3
                  have mb4 : ((wb.setCell ⟨w1.heap.size, 0, none⟩ (.slice Y yn yc)).setCell ⟨w1.heap.size, 1, none⟩ (.slice Q 0 0)).cell? ⟨o20, 1, none⟩ = some (.slice Q hm hm) := (World.cell?_of_block (a := ⟨o20, 1, none⟩) ((Below.heap_setCell _ ⟨w1.heap.size, 1, none⟩ _ o20 (by show o20 ≠ w1.heap.size; omega)).trans (Below.heap_setCell _ ⟨w1.heap.size, 0, none⟩ _ o20 (by show o20 ≠ w1.heap.size; omega)))).trans kb4
                  refine AnyT.call (i := 9) (by kernel_rfl) rfl (fun K hK => ?_)
                  try simp only [Act.put, List.setIfInBounds_toArray, List.set_cons_zero, List.set_cons_succ, List.getElem_toArray, List.getElem_cons_zero, List.getElem_cons_succ]
                  rw [if_pos (by rfl)]
                  go_simp
                  refine hK.out _ _ (fun _ _ => ?_) (fun hKeep => ?_)
                  · exact ⟨mb0, mb1, mb2, mb3, mb4⟩
                  replace hHeld := hKeep (by first | rfl | trivial) hHeld
                  clear hK K hKeep
                  try simp only [Act.put, List.setIfInBounds_toArray, List.set_cons_zero, List.set_cons_succ, List.getElem_toArray, List.getElem_cons_zero, List.getElem_cons_succ]
                  refine AnyT.done (by kernel_rfl) ?_ _
                  go_wp2_with fail
                  go_meet
                  exact keptL_a oY q4 (Nat.le_refl _) (by simp only [Go.Proofs.YtpcnjcgglonifaaGreat.compImpl.sz_alloc]; omega) bwwb LL.out
              · have LL0 := rd_drop2 M.drew.steps hmq
                rw [if_neg hqh] at LL0
                have LL := Lib.hid LL0
                clear LL0
                have zo3 := T.drew.r.lt
                have zo4 := M.drew.r.lt
                have zo20 := M20.drew.r.lt
                have c0 : wd3.drew.cell? ⟨o3, 0, none⟩ = some (.slice S sn sc) := c0
                have c1 : wd3.drew.cell? ⟨o3, 1, none⟩ = some (.slice R rn rc) := c1
                have c2 : wd3.drew.cell? ⟨o4, 1, none⟩ = some (.slice Q qn8 qc) := c2
                have c3 : wd3.drew.cell? ⟨o20, 0, none⟩ = some (.slice F fn fc) := c3
                have c4 : wd3.drew.cell? ⟨o20, 1, none⟩ = some (.slice Q hm qc) := c4
                have HBW := Lib.hid (drew_below wd3)
                clear T M M20
                refine AnyT.start (S := (fun w' => w'.cell? ⟨o3, 0, none⟩ = some (.slice S sn sc) ∧ w'.cell? ⟨o3, 1, none⟩ = some (.slice R rn rc) ∧ w'.cell? ⟨o4, 1, none⟩ = some (.slice Q qn8 qc) ∧ w'.cell? ⟨o20, 0, none⟩ = some (.slice F fn fc) ∧ w'.cell? ⟨o20, 1, none⟩ = some (.slice Q hm qc))) (fun _ => false) (by kernel_rfl) ⟨c0, c1, c2, c3, c4⟩ (fun hHeld => ?_)
                generalize wd3.drew = w1 at *
                refine AnyT.take (i := 0) (v := ?_) rfl (by kernel_rfl) (by kernel_rfl) (by kernel_rfl) (by kernel_rfl) (fun _ _ _ h => h) (Or.inl ⟨by rfl, ?_⟩) (by assumption) ?_
                rotate_left 1
                · (intro w0 hSw; (try dsimp only at hSw); go_simp; try with_reducible rfl)
                try simp only [Act.put, List.setIfInBounds_toArray, List.set_cons_zero, List.set_cons_succ, List.getElem_toArray, List.getElem_cons_zero, List.getElem_cons_succ]
                refine AnyT.take (i := 1) (v := ?_) rfl (by kernel_rfl) (by kernel_rfl) (by kernel_rfl) (by kernel_rfl) (fun _ _ _ h => h) (Or.inl ⟨by rfl, ?_⟩) (by assumption) ?_
                rotate_left 1
                · (intro w0 hSw; (try dsimp only at hSw); go_simp; try with_reducible rfl)
                try simp only [Act.put, List.setIfInBounds_toArray, List.set_cons_zero, List.set_cons_succ, List.getElem_toArray, List.getElem_cons_zero, List.getElem_cons_succ]
                refine AnyT.takeA (i := 3) (v := ?_) rfl (by kernel_rfl) (by kernel_rfl) (by kernel_rfl) (fun _ _ _ h => h) (Or.inl ⟨by rfl, ?_⟩) ?_
                rotate_left 1
                · (intro w0 _; go_simp; try with_reducible rfl)
                try simp only [Act.put, List.setIfInBounds_toArray, List.set_cons_zero, List.set_cons_succ, List.getElem_toArray, List.getElem_cons_zero, List.getElem_cons_succ]
                refine AnyT.take (i := 4) (v := ?_) rfl (by kernel_rfl) (by kernel_rfl) (by kernel_rfl) (by kernel_rfl) (fun _ _ _ h => h) (Or.inl ⟨by rfl, ?_⟩) (by assumption) ?_
                rotate_left 1
                · (intro w0 hSw; (try dsimp only at hSw); go_simp; try with_reducible rfl)
                try simp only [Act.put, List.setIfInBounds_toArray, List.set_cons_zero, List.set_cons_succ, List.getElem_toArray, List.getElem_cons_zero, List.getElem_cons_succ]
                refine AnyT.takeA (i := 5) (v := ?_) rfl (by kernel_rfl) (by kernel_rfl) (by kernel_rfl) (fun _ _ _ h => h) (Or.inl ⟨by rfl, ?_⟩) ?_
                rotate_left 1
                · (intro w0 _; go_simp; try with_reducible rfl)
                try simp only [Act.put, List.setIfInBounds_toArray, List.set_cons_zero, List.set_cons_succ, List.getElem_toArray, List.getElem_cons_zero, List.getElem_cons_succ]
                refine AnyT.takeA (i := 6) (v := ?_) rfl (by kernel_rfl) (by kernel_rfl) (by kernel_rfl) (fun _ _ _ h => h) (Or.inl ⟨by rfl, ?_⟩) ?_
                rotate_left 1
                · (intro w0 _; go_simp; try with_reducible rfl)
                try simp only [Act.put, List.setIfInBounds_toArray, List.set_cons_zero, List.set_cons_succ, List.getElem_toArray, List.getElem_cons_zero, List.getElem_cons_succ]
                have bZ := (Below.refl w1.heap.size w1).alloc (Nat.le_refl _) (.cells #[.slice none 0 0, .slice none 0 0] 41)
                have rZ : Row (w1.alloc (.cells #[.slice none 0 0, .slice none 0 0] 41)) w1.heap.size 41 #[.slice none 0 0, .slice none 0 0] := Row.new _ _ _
                have za0 : (w1.alloc (.cells #[.slice none 0 0, .slice none 0 0] 41)).cell? ⟨o3, 0, none⟩ = some (.slice S sn sc) := (bZ.cell (p := ⟨o3, 0, none⟩) zo3).trans c0
                have za1 : (w1.alloc (.cells #[.slice none 0 0, .slice none 0 0] 41)).cell? ⟨o3, 1, none⟩ = some (.slice R rn rc) := (bZ.cell (p := ⟨o3, 1, none⟩) zo3).trans c1
                have za2 : (w1.alloc (.cells #[.slice none 0 0, .slice none 0 0] 41)).cell? ⟨o4, 1, none⟩ = some (.slice Q qn8 qc) := (bZ.cell (p := ⟨o4, 1, none⟩) zo4).trans c2
                have za3 : (w1.alloc (.cells #[.slice none 0 0, .slice none 0 0] 41)).cell? ⟨o20, 0, none⟩ = some (.slice F fn fc) := (bZ.cell (p := ⟨o20, 0, none⟩) zo20).trans c3
                have za4 : (w1.alloc (.cells #[.slice none 0 0, .slice none 0 0] 41)).cell? ⟨o20, 1, none⟩ = some (.slice Q hm qc) := (bZ.cell (p := ⟨o20, 1, none⟩) zo20).trans c4
                refine AnyT.two (i := 2) (j := 8) (by kernel_rfl) rfl rfl (fun K hK => ?_) (fun K hK => ?_)
                · try simp only [Act.put, List.setIfInBounds_toArray, List.set_cons_zero, List.set_cons_succ, List.getElem_toArray, List.getElem_cons_zero, List.getElem_cons_succ]
                  rw [if_pos (by rfl)]
                  go_simp
                  (go_at_call 15; refine (LR.out _ (Below.refl _ _)).mono ?_; rintro e wa ⟨Y, yn, yc, rfl, oY, -, bwwa⟩; have ka0 : wa.cell? ⟨o3, 0, none⟩ = some (.slice S sn sc) := (bwwa.cell (p := ⟨o3, 0, none⟩) zo3).trans c0; have ka1 : wa.cell? ⟨o3, 1, none⟩ = some (.slice R rn rc) := (bwwa.cell (p := ⟨o3, 1, none⟩) zo3).trans c1; have ka2 : wa.cell? ⟨o4, 1, none⟩ = some (.slice Q qn8 qc) := (bwwa.cell (p := ⟨o4, 1, none⟩) zo4).trans c2; have ka3 : wa.cell? ⟨o20, 0, none⟩ = some (.slice F fn fc) := (bwwa.cell (p := ⟨o20, 0, none⟩) zo20).trans c3; have ka4 : wa.cell? ⟨o20, 1, none⟩ = some (.slice Q hm qc) := (bwwa.cell (p := ⟨o20, 1, none⟩) zo20).trans c4; go_wp2_with fail)
                  refine hK.out _ _ (fun _ _ => ?_) (fun hKeep => ?_)
                  · exact ⟨ka0, ka1, ka2, ka3, ka4⟩
                  replace hHeld := hKeep (by first | rfl | trivial) hHeld
                  clear hK K hKeep
                  try simp only [Act.put, List.setIfInBounds_toArray, List.set_cons_zero, List.set_cons_succ, List.getElem_toArray, List.getElem_cons_zero, List.getElem_cons_succ]
                  refine AnyT.takeA (i := 7) (v := ?_) rfl (by kernel_rfl) (by kernel_rfl) (by kernel_rfl) (fun _ _ _ h => h) (Or.inl ⟨by rfl, ?_⟩) ?_
                  rotate_left 1
                  · (intro w0 _; go_simp; try with_reducible rfl)
                  try simp only [Act.put, List.setIfInBounds_toArray, List.set_cons_zero, List.set_cons_succ, List.getElem_toArray, List.getElem_cons_zero, List.getElem_cons_succ]
                  have bWA := (Below.refl wa.heap.size wa).alloc (Nat.le_refl _) (.cells #[.slice none 0 0, .slice none 0 0] 41)
                  have bWV := (Below.refl wa.heap.size wa).alloc (Nat.le_refl _) (.cells #[.slice Y yn yc, .slice (Option.map (fun x => x.add (hm * 3)) Q) (qn8 - hm) (qc - hm)] 41)
                  have la0 : (wa.alloc (.cells #[.slice none 0 0, .slice none 0 0] 41)).cell? ⟨o3, 0, none⟩ = some (.slice S sn sc) := (bWA.cell (p := ⟨o3, 0, none⟩) (Nat.lt_of_lt_of_le zo3 bwwa.size)).trans ka0
                  have la1 : (wa.alloc (.cells #[.slice none 0 0, .slice none 0 0] 41)).cell? ⟨o3, 1, none⟩ = some (.slice R rn rc) := (bWA.cell (p := ⟨o3, 1, none⟩) (Nat.lt_of_lt_of_le zo3 bwwa.size)).trans ka1
                  have la2 : (wa.alloc (.cells #[.slice none 0 0, .slice none 0 0] 41)).cell? ⟨o4, 1, none⟩ = some (.slice Q qn8 qc) := (bWA.cell (p := ⟨o4, 1, none⟩) (Nat.lt_of_lt_of_le zo4 bwwa.size)).trans ka2
                  have la3 : (wa.alloc (.cells #[.slice none 0 0, .slice none 0 0] 41)).cell? ⟨o20, 0, none⟩ = some (.slice F fn fc) := (bWA.cell (p := ⟨o20, 0, none⟩) (Nat.lt_of_lt_of_le zo20 bwwa.size)).trans ka3
                  have la4 : (wa.alloc (.cells #[.slice none 0 0, .slice none 0 0] 41)).cell? ⟨o20, 1, none⟩ = some (.slice Q hm qc) := (bWA.cell (p := ⟨o20, 1, none⟩) (Nat.lt_of_lt_of_le zo20 bwwa.size)).trans ka4
                  have lv0 : (wa.alloc (.cells #[.slice Y yn yc, .slice (Option.map (fun x => x.add (hm * 3)) Q) (qn8 - hm) (qc - hm)] 41)).cell? ⟨o3, 0, none⟩ = some (.slice S sn sc) := (bWV.cell (p := ⟨o3, 0, none⟩) (Nat.lt_of_lt_of_le zo3 bwwa.size)).trans ka0
                  have lv1 : (wa.alloc (.cells #[.slice Y yn yc, .slice (Option.map (fun x => x.add (hm * 3)) Q) (qn8 - hm) (qc - hm)] 41)).cell? ⟨o3, 1, none⟩ = some (.slice R rn rc) := (bWV.cell (p := ⟨o3, 1, none⟩) (Nat.lt_of_lt_of_le zo3 bwwa.size)).trans ka1
                  have lv2 : (wa.alloc (.cells #[.slice Y yn yc, .slice (Option.map (fun x => x.add (hm * 3)) Q) (qn8 - hm) (qc - hm)] 41)).cell? ⟨o4, 1, none⟩ = some (.slice Q qn8 qc) := (bWV.cell (p := ⟨o4, 1, none⟩) (Nat.lt_of_lt_of_le zo4 bwwa.size)).trans ka2
                  have lv3 : (wa.alloc (.cells #[.slice Y yn yc, .slice (Option.map (fun x => x.add (hm * 3)) Q) (qn8 - hm) (qc - hm)] 41)).cell? ⟨o20, 0, none⟩ = some (.slice F fn fc) := (bWV.cell (p := ⟨o20, 0, none⟩) (Nat.lt_of_lt_of_le zo20 bwwa.size)).trans ka3
                  have lv4 : (wa.alloc (.cells #[.slice Y yn yc, .slice (Option.map (fun x => x.add (hm * 3)) Q) (qn8 - hm) (qc - hm)] 41)).cell? ⟨o20, 1, none⟩ = some (.slice Q hm qc) := (bWV.cell (p := ⟨o20, 1, none⟩) (Nat.lt_of_lt_of_le zo20 bwwa.size)).trans ka4
                  refine AnyT.call (i := 8) (by kernel_rfl) rfl (fun K hK => ?_)
                  try simp only [Act.put, List.setIfInBounds_toArray, List.set_cons_zero, List.set_cons_succ, List.getElem_toArray, List.getElem_cons_zero, List.getElem_cons_succ]
                  rw [if_pos (by rfl)]
                  go_simp
                  refine hK.out _ _ (fun _ _ => ?_) (fun hKeep => ?_)
                  · exact ⟨la0, la1, la2, la3, la4⟩
                  replace hHeld := hKeep (by first | rfl | trivial) hHeld
                  clear hK K hKeep
                  try simp only [Act.put, List.setIfInBounds_toArray, List.set_cons_zero, List.set_cons_succ, List.getElem_toArray, List.getElem_cons_zero, List.getElem_cons_succ]
                  refine AnyT.call (i := 9) (by kernel_rfl) rfl (fun K hK => ?_)
                  try simp only [Act.put, List.setIfInBounds_toArray, List.set_cons_zero, List.set_cons_succ, List.getElem_toArray, List.getElem_cons_zero, List.getElem_cons_succ]
                  rw [if_pos (by rfl)]
                  go_simp
                  refine hK.out _ _ (fun _ _ => ?_) (fun hKeep => ?_)
                  · exact ⟨lv0, lv1, lv2, lv3, lv4⟩
                  replace hHeld := hKeep (by first | rfl | trivial) hHeld
                  clear hK K hKeep
                  try simp only [Act.put, List.setIfInBounds_toArray, List.set_cons_zero, List.set_cons_succ, List.getElem_toArray, List.getElem_cons_zero, List.getElem_cons_succ]
                  refine AnyT.done (by kernel_rfl) ?_ _
                  go_wp2_with fail
                  go_meet
                  exact keptL_b oY bwwa LL.out
                · try simp only [Act.put, List.setIfInBounds_toArray, List.set_cons_zero, List.set_cons_succ, List.getElem_toArray, List.getElem_cons_zero, List.getElem_cons_succ]
                  rw [if_pos (by rfl)]
                  go_simp
                  refine hK.out _ _ (fun _ _ => ?_) (fun hKeep => ?_)
                  · exact ⟨za0, za1, za2, za3, za4⟩
                  replace hHeld := hKeep (by first | rfl | trivial) hHeld
                  clear hK K hKeep
                  try simp only [Act.put, List.setIfInBounds_toArray, List.set_cons_zero, List.set_cons_succ, List.getElem_toArray, List.getElem_cons_zero, List.getElem_cons_succ]
                  refine AnyT.call (i := 2) (by kernel_rfl) rfl (fun K hK => ?_)
                  try simp only [Act.put, List.setIfInBounds_toArray, List.set_cons_zero, List.set_cons_succ, List.getElem_toArray, List.getElem_cons_zero, List.getElem_cons_succ]
                  rw [if_pos (by rfl)]
                  go_simp
                  (go_at_call 15; refine (LR.out _ bZ).mono ?_; rintro e wb ⟨Y, yn, yc, rfl, oY, b9, bwwb⟩; have q4 : Row wb w1.heap.size 41 #[.slice none 0 0, .slice none 0 0] := rZ.next b9; have kb0 : wb.cell? ⟨o3, 0, none⟩ = some (.slice S sn sc) := (bwwb.cell (p := ⟨o3, 0, none⟩) zo3).trans c0; have kb1 : wb.cell? ⟨o3, 1, none⟩ = some (.slice R rn rc) := (bwwb.cell (p := ⟨o3, 1, none⟩) zo3).trans c1; have kb2 : wb.cell? ⟨o4, 1, none⟩ = some (.slice Q qn8 qc) := (bwwb.cell (p := ⟨o4, 1, none⟩) zo4).trans c2; have kb3 : wb.cell? ⟨o20, 0, none⟩ = some (.slice F fn fc) := (bwwb.cell (p := ⟨o20, 0, none⟩) zo20).trans c3; have kb4 : wb.cell? ⟨o20, 1, none⟩ = some (.slice Q hm qc) := (bwwb.cell (p := ⟨o20, 1, none⟩) zo20).trans c4; have y0 : wb.cell? ⟨w1.heap.size, 0, none⟩ = some (.slice none 0 0) := q4.cell 0; have y1 : wb.cell? ⟨w1.heap.size, 1, none⟩ = some (.slice none 0 0) := q4.cell 1; have y2 := q4.free 0; have y3 := q4.free 1; have q5 := q4.put 0 (.slice Y yn yc); have y4 := q5.cell 1; have y5 := q5.free 1; have y6 : (wb.setCell ⟨w1.heap.size, 0, none⟩ (.slice Y yn yc)).cell? ⟨w1.heap.size, 1, none⟩ = some (.slice none 0 0) := y4; go_wp2_with fail)
                  refine hK.out _ _ (fun _ _ => ?_) (fun hKeep => ?_)
                  · exact ⟨kb0, kb1, kb2, kb3, kb4⟩
                  replace hHeld := hKeep (by first | rfl | trivial) hHeld
                  clear hK K hKeep
                  try simp only [Act.put, List.setIfInBounds_toArray, List.set_cons_zero, List.set_cons_succ, List.getElem_toArray, List.getElem_cons_zero, List.getElem_cons_succ]
                  refine AnyT.takeA (i := 7) (v := ?_) rfl (by kernel_rfl) (by kernel_rfl) (by kernel_rfl) (fun _ _ _ h => h) (Or.inl ⟨by rfl, ?_⟩) ?_
                  rotate_left 1
                  · (intro w0 _; go_simp; try with_reducible rfl)
                  try simp only [Act.put, List.setIfInBounds_toArray, List.set_cons_zero, List.set_cons_succ, List.getElem_toArray, List.getElem_cons_zero, List.getElem_cons_succ]
                  have mb0 : ((wb.setCell ⟨w1.heap.size, 0, none⟩ (.slice Y yn yc)).setCell ⟨w1.heap.size, 1, none⟩ (.slice (Option.map (fun x => x.add (hm * 3)) Q) (qn8 - hm) (qc - hm))).cell? ⟨o3, 0, none⟩ = some (.slice S sn sc) := (World.cell?_of_block (a := ⟨o3, 0, none⟩) ((Below.heap_setCell _ ⟨w1.heap.size, 1, none⟩ _ o3 (by show o3 ≠ w1.heap.size; omega)).trans (Below.heap_setCell _ ⟨w1.heap.size, 0, none⟩ _ o3 (by show o3 ≠ w1.heap.size; omega)))).trans kb0
                  have mb1 : ((wb.setCell ⟨w1.heap.size, 0, none⟩ (.slice Y yn yc)).setCell ⟨w1.heap.size, 1, none⟩ (.slice (Option.map (fun x => x.add (hm * 3)) Q) (qn8 - hm) (qc - hm))).cell? ⟨o3, 1, none⟩ = some (.slice R rn rc) := (World.cell?_of_block (a := ⟨o3, 1, none⟩) ((Below.heap_setCell _ ⟨w1.heap.size, 1, none⟩ _ o3 (by show o3 ≠ w1.heap.size; omega)).trans (Below.heap_setCell _ ⟨w1.heap.size, 0, none⟩ _ o3 (by show o3 ≠ w1.heap.size; omega)))).trans kb1
                  have mb2 : ((wb.setCell ⟨w1.heap.size, 0, none⟩ (.slice Y yn yc)).setCell ⟨w1.heap.size, 1, none⟩ (.slice (Option.map (fun x => x.add (hm * 3)) Q) (qn8 - hm) (qc - hm))).cell? ⟨o4, 1, none⟩ = some (.slice Q qn8 qc) := (World.cell?_of_block (a := ⟨o4, 1, none⟩) ((Below.heap_setCell _ ⟨w1.heap.size, 1, none⟩ _ o4 (by show o4 ≠ w1.heap.size; omega)).trans (Below.heap_setCell _ ⟨w1.heap.size, 0, none⟩ _ o4 (by show o4 ≠ w1.heap.size; omega)))).trans kb2
                  have mb3 : ((wb.setCell ⟨w1.heap.size, 0, none⟩ (.slice Y yn yc)).setCell ⟨w1.heap.size, 1, none⟩ (.slice (Option.map (fun x => x.add (hm * 3)) Q) (qn8 - hm) (qc - hm))).cell? ⟨o20, 0, none⟩ = some (.slice F fn fc) := (World.cell?_of_block (a := ⟨o20, 0, none⟩) ((Below.heap_setCell _ ⟨w1.heap.size, 1, none⟩ _ o20 (by show o20 ≠ w1.heap.size; omega)).trans (Below.heap_setCell _ ⟨w1.heap.size, 0, none⟩ _ o20 (by show o20 ≠ w1.heap.size; omega)))).trans kb3
                  have mb4 : ((wb.setCell ⟨w1.heap.size, 0, none⟩ (.slice Y yn yc)).setCell ⟨w1.heap.size, 1, none⟩ (.slice (Option.map (fun x => x.add (hm * 3)) Q) (qn8 - hm) (qc - hm))).cell? ⟨o20, 1, none⟩ = some (.slice Q hm qc) := (World.cell?_of_block (a := ⟨o20, 1, none⟩) ((Below.heap_setCell _ ⟨w1.heap.size, 1, none⟩ _ o20 (by show o20 ≠ w1.heap.size; omega)).trans (Below.heap_setCell _ ⟨w1.heap.size, 0, none⟩ _ o20 (by show o20 ≠ w1.heap.size; omega)))).trans kb4
                  refine AnyT.call (i := 9) (by kernel_rfl) rfl (fun K hK => ?_)
                  try simp only [Act.put, List.setIfInBounds_toArray, List.set_cons_zero, List.set_cons_succ, List.getElem_toArray, List.getElem_cons_zero, List.getElem_cons_succ]
                  rw [if_pos (by rfl)]
                  go_simp
                  refine hK.out _ _ (fun _ _ => ?_) (fun hKeep => ?_)
                  · exact ⟨mb0, mb1, mb2, mb3, mb4⟩
                  replace hHeld := hKeep (by first | rfl | trivial) hHeld
                  clear hK K hKeep
                  try simp only [Act.put, List.setIfInBounds_toArray, List.set_cons_zero, List.set_cons_succ, List.getElem_toArray, List.getElem_cons_zero, List.getElem_cons_succ]
                  refine AnyT.done (by kernel_rfl) ?_ _
                  go_wp2_with fail
                  go_meet
                  exact keptL_a oY q4 (Nat.le_refl _) (by simp only [Go.Proofs.YtpcnjcgglonifaaGreat.compImpl.sz_alloc]; omega) bwwb LL.out
            case rest =>
              rename World => we3
              obtain ⟨o21, G1, g1, gc1, Q1, q1, qc1, rfl, M21, bx⟩ := hcut
              replace T := T.drew.next bx
              replace M := M.drew.next bx
              replace M20 := M20.drew.next bx
              clear bx LR zo3 zo4 zo20 c0 c1 c2 c3 c4
              have LJ := Lib.hid (implJoinedWalk _ _ _ _ _ _ d _ _ we3 T.s M20.m M21.m HZ.out.1 HK20.out (walkB_sz CF.out.2.1))
              rw [CF.out.2.2.1, CF.out.2.2.2] at LJ
              have c0 : we3.cell? ⟨o3, 0, none⟩ = some (.slice S sn sc) := T.c0
              have c1 : we3.cell? ⟨o3, 1, none⟩ = some (.slice R rn rc) := T.c1
              have c2 : we3.cell? ⟨o20, 0, none⟩ = some (.slice F fn fc) := M20.c0
              have c3 : we3.cell? ⟨o20, 1, none⟩ = some (.slice Q hm qc) := M20.c1
              have c4 : we3.cell? ⟨o21, 0, none⟩ = some (.slice G1 g1 gc1) := M21.c0
              have c5 : we3.cell? ⟨o21, 1, none⟩ = some (.slice Q1 q1 qc1) := M21.c1
              go_wp2_with fail
              refine LJ.out.mono ?_
              rintro e w22 ⟨F22, fn22, fc22, Q22, qn22, qc22, rfl, oW, bb⟩
              obtain ⟨o22, ho22⟩ : ∃ o, w22.heap.size = o := ⟨_, rfl⟩
              obtain ⟨V22, hV22⟩ : ∃ W, W = w22.alloc (.cells #[.slice F22 fn22 fc22, .slice Q22 qn22 qc22] 41) := ⟨_, rfl⟩
              obtain ⟨J22, b22⟩ := Lo.of oW.rd ho22 hV22
              replace T := (T.next bb).next b22
              replace M := (M.next bb).next b22
              have HV22 := Lib.hid hV22
              have HO22 := Lib.hid ho22
              clear oW bb b22 hV22 ho22 M20 M21 LJ c0 c1 c2 c3 c4 c5
              have J := J22
              have c0 : V22.cell? ⟨o3, 0, none⟩ = some (.slice S sn sc) := T.c0
              have c1 : V22.cell? ⟨o3, 1, none⟩ = some (.slice R rn rc) := T.c1
              have c2 : V22.cell? ⟨o4, 0, none⟩ = some (.slice F fn fc) := M.c0
              have c3 : V22.cell? ⟨o4, 1, none⟩ = some (.slice Q qn8 qc) := M.c1
              have c4 : V22.cell? ⟨o22, 0, none⟩ = some (.slice F22 fn22 fc22) := J.c0
              have c5 : V22.cell? ⟨o22, 1, none⟩ = some (.slice Q22 qn22 qc22) := J.c1
              have HT := Lib.hid T.drew
              have HM := Lib.hid M.drew
              have HJ := Lib.hid J.drew
              have hks : sz sStepS k.2 ≤ 1048576 := by have h1 : sz sI k.1 + sz sStepS k.2 ≤ 1048576 := HZ.out.2.1; omega
              have HKS := Lib.hid hks
              have HEL : Hid ((endW d.1 d.2 k).length ≤ 1048576) := Lib.hid (endW_len HZ.out.2.1)
              clear T M J J22 hks
              go_upto_region 22 with fail
              rw [← HV22.out, HO22.out]
              refine AnyT.start (S := (fun w' => w'.cell? ⟨o3, 0, none⟩ = some (.slice S sn sc) ∧ w'.cell? ⟨o3, 1, none⟩ = some (.slice R rn rc) ∧ w'.cell? ⟨o4, 0, none⟩ = some (.slice F fn fc) ∧ w'.cell? ⟨o4, 1, none⟩ = some (.slice Q qn8 qc) ∧ w'.cell? ⟨o22, 0, none⟩ = some (.slice F22 fn22 fc22) ∧ w'.cell? ⟨o22, 1, none⟩ = some (.slice Q22 qn22 qc22))) (fun _ => false) (by kernel_rfl) ⟨c0, c1, c2, c3, c4, c5⟩ (fun hHeld => ?_)
              refine AnyT.takeA (i := 0) (v := ?_) rfl (by kernel_rfl) (by kernel_rfl) (by kernel_rfl) (fun _ _ _ h => h) (Or.inl ⟨by rfl, ?_⟩) ?_
              rotate_left 1
              · (intro w0 _; go_simp; try with_reducible rfl)
              try simp only [Act.put, List.setIfInBounds_toArray, List.set_cons_zero, List.set_cons_succ, List.getElem_toArray, List.getElem_cons_zero, List.getElem_cons_succ]
              refine AnyT.takeA (i := 1) (v := ?_) rfl (by kernel_rfl) (by kernel_rfl) (by kernel_rfl) (fun _ _ _ h => h) (Or.inl ⟨by rfl, ?_⟩) ?_
              rotate_left 1
              · (intro w0 _; go_simp; try with_reducible rfl)
              try simp only [Act.put, List.setIfInBounds_toArray, List.set_cons_zero, List.set_cons_succ, List.getElem_toArray, List.getElem_cons_zero, List.getElem_cons_succ]
              refine AnyT.takeA (i := 2) (v := ?_) rfl (by kernel_rfl) (by kernel_rfl) (by kernel_rfl) (fun _ _ _ h => h) (Or.inl ⟨by rfl, ?_⟩) ?_
              rotate_left 1
              · (intro w0 _; go_simp; try with_reducible rfl)
              try simp only [Act.put, List.setIfInBounds_toArray, List.set_cons_zero, List.set_cons_succ, List.getElem_toArray, List.getElem_cons_zero, List.getElem_cons_succ]
              refine AnyT.take (i := 3) (v := ?_) rfl (by kernel_rfl) (by kernel_rfl) (by kernel_rfl) (by kernel_rfl) (fun _ _ _ h => h) (Or.inl ⟨by rfl, ?_⟩) (by assumption) ?_
              rotate_left 1
              · (intro w0 hSw; (try dsimp only at hSw); go_simp; try with_reducible rfl)
              try simp only [Act.put, List.setIfInBounds_toArray, List.set_cons_zero, List.set_cons_succ, List.getElem_toArray, List.getElem_cons_zero, List.getElem_cons_succ]
              refine AnyT.takeA (i := 4) (v := ?_) rfl (by kernel_rfl) (by kernel_rfl) (by kernel_rfl) (fun _ _ _ h => h) (Or.inl ⟨by rfl, ?_⟩) ?_
              rotate_left 1
              · (intro w0 _; go_simp; try with_reducible rfl)
              try simp only [Act.put, List.setIfInBounds_toArray, List.set_cons_zero, List.set_cons_succ, List.getElem_toArray, List.getElem_cons_zero, List.getElem_cons_succ]
              refine AnyT.take (i := 5) (v := ?_) rfl (by kernel_rfl) (by kernel_rfl) (by kernel_rfl) (by kernel_rfl) (fun _ _ _ h => h) (Or.inl ⟨by rfl, ?_⟩) (by assumption) ?_
              rotate_left 1
              · (intro w0 hSw; (try dsimp only at hSw); go_simp; try with_reducible rfl)
              try simp only [Act.put, List.setIfInBounds_toArray, List.set_cons_zero, List.set_cons_succ, List.getElem_toArray, List.getElem_cons_zero, List.getElem_cons_succ]
              refine AnyT.call (i := 6) (by kernel_rfl) rfl (fun K hK => ?_)
              try simp only [Act.put, List.setIfInBounds_toArray, List.set_cons_zero, List.set_cons_succ, List.getElem_toArray, List.getElem_cons_zero, List.getElem_cons_succ]
              rw [if_pos (by rfl)]
              go_simp
              (go_at_call 35; refine (w5Yes _ _ _ _ HJ.out.steps HM.out.steps HKS.out).mono ?_; rintro e wa ⟨rfl, bqwa⟩; have Twa := HT.out.next bqwa; have Mwa := HM.out.next bqwa; have Jwa := HJ.out.next bqwa; have kwa0 : wa.cell? ⟨o3, 0, none⟩ = some (.slice S sn sc) := Twa.c0; have kwa1 : wa.cell? ⟨o3, 1, none⟩ = some (.slice R rn rc) := Twa.c1; have kwa2 : wa.cell? ⟨o4, 0, none⟩ = some (.slice F fn fc) := Mwa.c0; have kwa3 : wa.cell? ⟨o4, 1, none⟩ = some (.slice Q qn8 qc) := Mwa.c1; have kwa4 : wa.cell? ⟨o22, 0, none⟩ = some (.slice F22 fn22 fc22) := Jwa.c0; have kwa5 : wa.cell? ⟨o22, 1, none⟩ = some (.slice Q22 qn22 qc22) := Jwa.c1; go_wp2_with fail)
              refine hK.out _ _ (fun _ _ => ?_) (fun hKeep => ?_)
              · exact ⟨kwa0, kwa1, kwa2, kwa3, kwa4, kwa5⟩
              replace hHeld := hKeep (by first | rfl | trivial) hHeld
              clear hK K hKeep
              try simp only [Act.put, List.setIfInBounds_toArray, List.set_cons_zero, List.set_cons_succ, List.getElem_toArray, List.getElem_cons_zero, List.getElem_cons_succ]
              refine AnyT.takeA (i := 7) (v := ?_) rfl (by kernel_rfl) (by kernel_rfl) (by kernel_rfl) (fun _ _ _ h => h) (Or.inl ⟨by rfl, ?_⟩) ?_
              rotate_left 1
              · (intro w0 _; go_simp; try with_reducible rfl)
              try simp only [Act.put, List.setIfInBounds_toArray, List.set_cons_zero, List.set_cons_succ, List.getElem_toArray, List.getElem_cons_zero, List.getElem_cons_succ]
              refine AnyT.takeA (i := 8) (v := ?_) rfl (by kernel_rfl) (by kernel_rfl) (by kernel_rfl) (fun _ _ _ h => h) (Or.inl ⟨by rfl, ?_⟩) ?_
              rotate_left 1
              · (intro w0 _; go_simp; try with_reducible rfl)
              try simp only [Act.put, List.setIfInBounds_toArray, List.set_cons_zero, List.set_cons_succ, List.getElem_toArray, List.getElem_cons_zero, List.getElem_cons_succ]
              refine AnyT.take (i := 9) (v := ?_) rfl (by kernel_rfl) (by kernel_rfl) (by kernel_rfl) (by kernel_rfl) (fun _ _ _ h => h) (Or.inl ⟨by rfl, ?_⟩) (by assumption) ?_
              rotate_left 1
              · (intro w0 hSw; (try dsimp only at hSw); go_simp; try with_reducible rfl)
              try simp only [Act.put, List.setIfInBounds_toArray, List.set_cons_zero, List.set_cons_succ, List.getElem_toArray, List.getElem_cons_zero, List.getElem_cons_succ]
              refine AnyT.take (i := 10) (v := ?_) rfl (by kernel_rfl) (by kernel_rfl) (by kernel_rfl) (by kernel_rfl) (fun _ _ _ h => h) (Or.inl ⟨by rfl, ?_⟩) (by assumption) ?_
              rotate_left 1
              · (intro w0 hSw; (try dsimp only at hSw); go_simp; try with_reducible rfl)
              try simp only [Act.put, List.setIfInBounds_toArray, List.set_cons_zero, List.set_cons_succ, List.getElem_toArray, List.getElem_cons_zero, List.getElem_cons_succ]
              refine AnyT.take (i := 12) (v := ?_) rfl (by kernel_rfl) (by kernel_rfl) (by kernel_rfl) (by kernel_rfl) (fun _ _ _ h => h) (Or.inl ⟨by rfl, ?_⟩) (by assumption) ?_
              rotate_left 1
              · (intro w0 hSw; (try dsimp only at hSw); go_simp; try with_reducible rfl)
              try simp only [Act.put, List.setIfInBounds_toArray, List.set_cons_zero, List.set_cons_succ, List.getElem_toArray, List.getElem_cons_zero, List.getElem_cons_succ]
              refine AnyT.take (i := 13) (v := ?_) rfl (by kernel_rfl) (by kernel_rfl) (by kernel_rfl) (by kernel_rfl) (fun _ _ _ h => h) (Or.inl ⟨by rfl, ?_⟩) (by assumption) ?_
              rotate_left 1
              · (intro w0 hSw; (try dsimp only at hSw); go_simp; try with_reducible rfl)
              try simp only [Act.put, List.setIfInBounds_toArray, List.set_cons_zero, List.set_cons_succ, List.getElem_toArray, List.getElem_cons_zero, List.getElem_cons_succ]
              refine AnyT.call (i := 11) (by kernel_rfl) rfl (fun K hK => ?_)
              try simp only [Act.put, List.setIfInBounds_toArray, List.set_cons_zero, List.set_cons_succ, List.getElem_toArray, List.getElem_cons_zero, List.getElem_cons_succ]
              rw [if_pos (by rfl)]
              go_simp
              (go_at_call 15; refine (implEndTerm _ _ _ _ d k _ Twa.s Jwa.m HZ.out.1 HZ.out.2.1).mono ?_; rintro e wb ⟨X, xn, xc, rfl, oX, bqwb⟩; have Twb := Twa.next bqwb; have Mwb := Mwa.next bqwb; have Jwb := Jwa.next bqwb; have hXl := Lib.hid (Own.len oX); have hXs := Own.seg oX; have kwb0 : wb.cell? ⟨o3, 0, none⟩ = some (.slice S sn sc) := Twb.c0; have kwb1 : wb.cell? ⟨o3, 1, none⟩ = some (.slice R rn rc) := Twb.c1; have kwb2 : wb.cell? ⟨o4, 0, none⟩ = some (.slice F fn fc) := Mwb.c0; have kwb3 : wb.cell? ⟨o4, 1, none⟩ = some (.slice Q qn8 qc) := Mwb.c1; have kwb4 : wb.cell? ⟨o22, 0, none⟩ = some (.slice F22 fn22 fc22) := Jwb.c0; have kwb5 : wb.cell? ⟨o22, 1, none⟩ = some (.slice Q22 qn22 qc22) := Jwb.c1; go_wp2_with fail)
              refine hK.out _ _ (fun _ _ => ?_) (fun hKeep => ?_)
              · exact ⟨kwb0, kwb1, kwb2, kwb3, kwb4, kwb5⟩
              replace hHeld := hKeep (by first | rfl | trivial) hHeld
              clear hK K hKeep
              try simp only [Act.put, List.setIfInBounds_toArray, List.set_cons_zero, List.set_cons_succ, List.getElem_toArray, List.getElem_cons_zero, List.getElem_cons_succ]
              refine AnyT.call (i := 14) (by kernel_rfl) rfl (fun K hK => ?_)
              try simp only [Act.put, List.setIfInBounds_toArray, List.set_cons_zero, List.set_cons_succ, List.getElem_toArray, List.getElem_cons_zero, List.getElem_cons_succ]
              rw [if_pos (by rfl)]
              go_simp
              (go_at_call 15; refine (implEndTerm _ _ _ _ d k _ Twb.s Mwb.m HZ.out.1 HZ.out.2.1).mono ?_; rintro e wc ⟨Y, yn, yc, rfl, oY, bqwc⟩; have Twc := Twb.next bqwc; have Mwc := Mwb.next bqwc; have Jwc := Jwb.next bqwc; have hXs2 := hXs.next bqwc; have hYl := Lib.hid (Own.len oY); have hYs := Own.seg oY; have kwc0 : wc.cell? ⟨o3, 0, none⟩ = some (.slice S sn sc) := Twc.c0; have kwc1 : wc.cell? ⟨o3, 1, none⟩ = some (.slice R rn rc) := Twc.c1; have kwc2 : wc.cell? ⟨o4, 0, none⟩ = some (.slice F fn fc) := Mwc.c0; have kwc3 : wc.cell? ⟨o4, 1, none⟩ = some (.slice Q qn8 qc) := Mwc.c1; have kwc4 : wc.cell? ⟨o22, 0, none⟩ = some (.slice F22 fn22 fc22) := Jwc.c0; have kwc5 : wc.cell? ⟨o22, 1, none⟩ = some (.slice Q22 qn22 qc22) := Jwc.c1; go_wp2_with fail)
              refine hK.out _ _ (fun _ _ => ?_) (fun hKeep => ?_)
              · exact ⟨kwc0, kwc1, kwc2, kwc3, kwc4, kwc5⟩
              replace hHeld := hKeep (by first | rfl | trivial) hHeld
              clear hK K hKeep
              try simp only [Act.put, List.setIfInBounds_toArray, List.set_cons_zero, List.set_cons_succ, List.getElem_toArray, List.getElem_cons_zero, List.getElem_cons_succ]
              refine AnyT.call (i := 15) (by kernel_rfl) rfl (fun K hK => ?_)
              try simp only [Act.put, List.setIfInBounds_toArray, List.set_cons_zero, List.set_cons_succ, List.getElem_toArray, List.getElem_cons_zero, List.getElem_cons_succ]
              rw [if_pos (by rfl)]
              go_simp
              (go_at_call 13; refine (same_yes hXs2 hYs (by have := HEL.out; have := hXl.out; omega) (by have := HEL.out; have := hYl.out; omega)).mono ?_; rintro e wd ⟨rfl, bqwd⟩; have Twd := Twc.next bqwd; have Mwd := Mwc.next bqwd; have Jwd := Jwc.next bqwd; have kwd0 : wd.cell? ⟨o3, 0, none⟩ = some (.slice S sn sc) := Twd.c0; have kwd1 : wd.cell? ⟨o3, 1, none⟩ = some (.slice R rn rc) := Twd.c1; have kwd2 : wd.cell? ⟨o4, 0, none⟩ = some (.slice F fn fc) := Mwd.c0; have kwd3 : wd.cell? ⟨o4, 1, none⟩ = some (.slice Q qn8 qc) := Mwd.c1; have kwd4 : wd.cell? ⟨o22, 0, none⟩ = some (.slice F22 fn22 fc22) := Jwd.c0; have kwd5 : wd.cell? ⟨o22, 1, none⟩ = some (.slice Q22 qn22 qc22) := Jwd.c1; go_wp2_with fail)
              refine hK.out _ _ (fun _ _ => ?_) (fun hKeep => ?_)
              · exact ⟨kwd0, kwd1, kwd2, kwd3, kwd4, kwd5⟩
              replace hHeld := hKeep (by first | rfl | trivial) hHeld
              clear hK K hKeep
              try simp only [Act.put, List.setIfInBounds_toArray, List.set_cons_zero, List.set_cons_succ, List.getElem_toArray, List.getElem_cons_zero, List.getElem_cons_succ]
              refine AnyT.takeA (i := 16) (v := ?_) rfl (by kernel_rfl) (by kernel_rfl) (by kernel_rfl) (fun _ _ _ h => h) (Or.inl ⟨by rfl, ?_⟩) ?_
              rotate_left 1
              · (intro w0 _; go_simp; try with_reducible rfl)
              try simp only [Act.put, List.setIfInBounds_toArray, List.set_cons_zero, List.set_cons_succ, List.getElem_toArray, List.getElem_cons_zero, List.getElem_cons_succ]
              refine AnyT.takeA (i := 17) (v := ?_) rfl (by kernel_rfl) (by kernel_rfl) (by kernel_rfl) (fun _ _ _ h => h) (Or.inl ⟨by rfl, ?_⟩) ?_
              rotate_left 1
              · (intro w0 _; go_simp; try with_reducible rfl)
              try simp only [Act.put, List.setIfInBounds_toArray, List.set_cons_zero, List.set_cons_succ, List.getElem_toArray, List.getElem_cons_zero, List.getElem_cons_succ]
              refine AnyT.done (by kernel_rfl) ?_ _
              have FF := Lib.hid Twd.b
              clear kwa0 kwa1 kwa2 kwa3 kwa4 kwa5 kwb0 kwb1 kwb2 kwb3 kwb4 kwb5 kwc0 kwc1 kwc2 kwc3 kwc4 kwc5 kwd0 kwd1 kwd2 kwd3 kwd4 kwd5 Twa Mwa Jwa Twb Mwb Jwb Twc Mwc Jwc Twd Mwd Jwd bqwa bqwb bqwc bqwd oX oY hXl hXs hXs2 hYl hYs HT HM HJ HEL HKS c0 c1 c2 c3 c4 c5
              go_wp2
              go_ret
              exact ⟨rfl, FF.out⟩
  · have LB := Lib.hid (bigAns A n c true w (by simp; omega) hN)
    clear h
    go_enter Tryz.func5, Tryz.ntmps5
    go_wp2_with fail
    refine LB.out.mono ?_
    rintro e w' ⟨rfl, rfl⟩
    go_wp2
    go_ret
    exact ⟨rfl, Below.refl _ _⟩
end Go.Proofs.YtpcnjcgglonifaaGreat.wFnWalksGoOn
end
