/-
  MERGED: my texts ParImpl, ParX, WParallelTo, OpenX, one behind the other, as they are. By an AI agent.
-/
import Derived.Test.YtjfpejohpjaahaaMFnExactParallelTo5
import Derived.BigRegion
import Derived.Deep.RegionHeld3
import Derived.ProofKit
import Derived.OpenShut
import Derived.Lib.SmallJoins
import Derived.Deep.Slices
import Derived.Deep.Fields
namespace Go.Proofs.Ytjfpejohpjaahaa
section
open Go.Lib (hid)
namespace parImpl
open Go.RowKit base ints sig term arity termOk marks app sym sub segs kinds same shifted shape kindsR varsOf ruleMath ruleSpec stepMath walkMath stepSpec drawX forest stk partsSpec cursor curO parMath parRoot parSpec
set_option maxRecDepth 100000
def upto (ps : List (List Int)) (j : Nat) : Nat := 1 + (ps.take j).flatten.length
theorem upto_next {ps : List (List Int)} {j : Nat} (hj : j < ps.length) : upto ps (j + 1) = upto ps j + (ps.getD j []).length := by
 unfold upto
 rw [List.take_add_one, List.flatten_append, List.length_append, List.getD, List.getElem?_eq_getElem hj]
 simp
 omega
theorem upto_drop {sg t : List Int} {ps : List (List Int)} (h : Prt sg t ps) {j : Nat} (hj : j < ps.length) : t.drop (upto ps j) = ps.getD j [] ++ (ps.drop (j + 1)).flatten := by
 obtain ⟨⟨x, -, -, e, -⟩, -⟩ := h
 have e1 : ps.flatten = (ps.take j).flatten ++ (ps.drop j).flatten := by rw [← List.flatten_append, List.take_append_drop]
 have e2 : ps.drop j = ps.getD j [] :: ps.drop (j + 1) := by rw [List.drop_eq_getElem_cons hj, List.getD, List.getElem?_eq_getElem hj]; rfl
 rw [e, e1, upto, Nat.add_comm, List.drop_succ_cons, List.drop_left, e2, List.flatten_cons]
theorem upto_cut {sg t : List Int} {ps : List (List Int)} (h : Prt sg t ps) {j : Nat} (hj : j < ps.length) : (t.drop (upto ps j)).take (ps.getD j []).length = ps.getD j [] := by
 rw [upto_drop h hj, List.take_left]
theorem upto_le {sg t : List Int} {ps : List (List Int)} (h : Prt sg t ps) {j : Nat} (hj : j < ps.length) : upto ps j + (ps.getD j []).length ≤ t.length := by
 have h1 := congrArg List.length (upto_drop h hj)
 rw [List.length_drop, List.length_append] at h1
 have h2 := fo_pos (part_fo h hj)
 omega
theorem part_in {sg t : List Int} {ps : List (List Int)} (h : Prt sg t ps) {j : Nat} (hj : j < ps.length) (hv : ∀ x ∈ t, -24 ≤ x) : ∀ x ∈ ps.getD j [], -24 ≤ x := by
 intro x hx
 refine hv x ?_
 have h1 : x ∈ t.drop (upto ps j) := by rw [upto_drop h hj]; exact List.mem_append_left _ hx
 exact List.mem_of_mem_drop h1
theorem upto_scan {sg t : List Int} {ps : List (List Int)} (h : Prt sg t ps) {j : Nat} (hj : j < ps.length) (hv : ∀ x ∈ t, -24 ≤ x) : scan sg 1 (t.drop (upto ps j)) = some (ps.getD j []).length := by
 rw [upto_drop h hj]
 exact Go.Proofs.Ytjfpejohpjaahaa.termMath.scan_append (scan_fo (part_fo h hj) (part_in h hj hv))
theorem rdq_cap {w : World} {Q : Nat → Prop} {A : Option Addr} {n c : Nat} {t : List Int} (h : RdQ w Q sI [.slice A n c] t) : Cap A n c := by
 obtain ⟨A', n', c', e, hc, -⟩ := h
 injection e with e
 injection e with e1 e2 e3
 rw [e1, e2, e3]
 exact hc
structure CC (w : World) (A V T U : Option Addr) (n cs q cv m mc k kc p1 p2 i j : Nat) (wr : World) : Prop where
 r : Row wr w.heap.size 79 #[.slice A n cs, .slice V q cv]
 a : Row wr p1 114 #[.slice A n cs, .slice T m mc, .int .i64 i]
 b : Row wr p2 114 #[.slice A n cs, .slice U k kc, .int .i64 j]
 ne : p1 ≠ p2
 ga : w.heap.size < p1
 gb : w.heap.size < p2
 bel : Below w.heap.size w wr
section
variable {w wr w' : World} {A V T U : Option Addr} {n cs q cv m mc k kc p1 p2 i j i' j' : Nat}
theorem CC.next (h : CC w A V T U n cs q cv m mc k kc p1 p2 i j wr) (hb : Below wr.heap.size wr w') : CC w A V T U n cs q cv m mc k kc p1 p2 i j w' :=
 ⟨h.r.next hb, h.a.next hb, h.b.next hb, h.ne, h.ga, h.gb, next_trans h.bel hb⟩
theorem CC.moveA (h : CC w A V T U n cs q cv m mc k kc p1 p2 i j wr) (hg : wr.grownBy w' (some p1)) (ha : Row w' p1 114 #[.slice A n cs, .slice T m mc, .int .i64 i']) : CC w A V T U n cs q cv m mc k kc p1 p2 i' j w' :=
 ⟨marks.Row.away h.r hg (fun e => by injection e with e; have := h.ga; omega), ha, marks.Row.away h.b hg (fun e => by injection e with e; exact h.ne e), h.ne, h.ga, h.gb, h.bel.grown hg h.bel.size (fun z e => by injection e with e; have := h.ga; omega)⟩
theorem CC.moveB (h : CC w A V T U n cs q cv m mc k kc p1 p2 i j wr) (hg : wr.grownBy w' (some p2)) (hb : Row w' p2 114 #[.slice A n cs, .slice U k kc, .int .i64 j']) : CC w A V T U n cs q cv m mc k kc p1 p2 i j' w' :=
 ⟨marks.Row.away h.r hg (fun e => by injection e with e; have := h.gb; omega), marks.Row.away h.a hg (fun e => by injection e with e; exact h.ne e.symm), hb, h.ne, h.ga, h.gb, h.bel.grown hg h.bel.size (fun z e => by injection e with e; have := h.gb; omega)⟩
theorem CC.curA {sg t : List Int} (h : CC w A V T U n cs q cv m mc k kc p1 p2 i j wr) (hs : Seg w w.heap.size A n sg) (ht : Seg w w.heap.size T m t) (hi : i ≤ m) (hn : n ≤ 1048576) (hm : m ≤ 1048576) (ha : Arities sg) : Cur wr p1 A n cs T m mc sg t i :=
 ⟨h.a, (hs.below h.bel).more (Nat.le_of_lt h.ga), (ht.below h.bel).more (Nat.le_of_lt h.ga), hi, hn, hm, ha⟩
theorem CC.curB {sg t : List Int} (h : CC w A V T U n cs q cv m mc k kc p1 p2 i j wr) (hs : Seg w w.heap.size A n sg) (ht : Seg w w.heap.size U k t) (hj : j ≤ k) (hn : n ≤ 1048576) (hk : k ≤ 1048576) (ha : Arities sg) : Cur wr p2 A n cs U k kc sg t j :=
 ⟨h.b, (hs.below h.bel).more (Nat.le_of_lt h.gb), (ht.below h.bel).more (Nat.le_of_lt h.gb), hj, hn, hk, ha⟩
theorem CC.drewN (h : CC w A V T U n cs q cv m mc k kc p1 p2 i j wr) (dd : Nat) : CC w A V T U n cs q cv m mc k kc p1 p2 i j (wr.drewN dd) :=
 ⟨h.r.drewN dd, h.a.drewN dd, h.b.drewN dd, h.ne, h.ga, h.gb, below_drewN h.bel dd⟩
theorem cc_new (hr : Row wr w.heap.size 79 #[.slice A n cs, .slice V q cv]) (hb : Below w.heap.size w wr) (T U : Option Addr) (m mc k kc : Nat) : CC w A V T U n cs q cv m mc k kc wr.heap.size (wr.heap.size + 1) 0 0 ((wr.alloc (.cells #[.slice A n cs, .slice T m mc, .int .i64 0] 114)).alloc (.cells #[.slice A n cs, .slice U k kc, .int .i64 0] 114)).drew := by
 have h1 := hr.lt
 have h2 := Row.new (wr.alloc (.cells #[.slice A n cs, .slice T m mc, .int .i64 0] 114)) 114 #[.slice A n cs, .slice U k kc, .int .i64 0]
 rw [show (wr.alloc (.cells #[.slice A n cs, .slice T m mc, .int .i64 0] 114)).heap.size = wr.heap.size + 1 by simp] at h2
 exact ⟨((hr.alloc _).alloc _).drew, ((Row.new _ _ _).alloc _).drew, h2.drew, by omega, by omega, by omega, ((hb.alloc (by omega) _).alloc (by simp; omega) _).drew⟩
theorem cc_new' (hr : Row wr w.heap.size 79 #[.slice A n cs, .slice V q cv]) (hb : Below w.heap.size w wr) (T U : Option Addr) (m mc k kc : Nat) : CC w A V T U n cs q cv m mc k kc (wr.heap.size + 1) wr.heap.size 0 0 ((wr.alloc (.cells #[.slice A n cs, .slice U k kc, .int .i64 0] 114)).alloc (.cells #[.slice A n cs, .slice T m mc, .int .i64 0] 114)).drew := by
 have h1 := hr.lt
 have h2 := Row.new (wr.alloc (.cells #[.slice A n cs, .slice U k kc, .int .i64 0] 114)) 114 #[.slice A n cs, .slice T m mc, .int .i64 0]
 rw [show (wr.alloc (.cells #[.slice A n cs, .slice U k kc, .int .i64 0] 114)).heap.size = wr.heap.size + 1 by simp] at h2
 exact ⟨((hr.alloc _).alloc _).drew, h2.drew, ((Row.new _ _ _).alloc _).drew, by omega, by omega, by omega, ((hb.alloc (by omega) _).alloc (by simp; omega) _).drew⟩
end
set_option maxHeartbeats 4000000 in
theorem parallel (a v : Value) (d : Dat sSystem) (Q : Nat → Prop) (hz : sz sSystem d ≤ 1048576) (oks : sysOkB d.1 d.2 = true) (hs : Arities d.1) : ∀ (f : Nat) (T U : Option Addr) (m k mc kc : Nat) (t y : List Int) (w : World), t.length < f → Rd w w.heap.size sSystem [a, v] d → RdQ w Q sI [.slice T m mc] t → RdQ w Q sI [.slice U k kc] y → (∀ b, Q b → b < w.heap.size) → m ≤ 1048576 → k ≤ 1048576 → Fo d.1 1 t → Fo d.1 1 y → (∀ x ∈ t, -24 ≤ x) → (∀ x ∈ y, -24 ≤ x) →
  Calls Try.prog 47 #[.agg #[a, v], .slice T m mc, .slice U k kc] w (AnsB w (parB d.1 d.2 t y))
 | 0, _, _, _, _, _, _, _, _, _, hf, _, _, _, _, _, _, _, _, _, _ => absurd hf (Nat.not_lt_zero _)
 | f + 1, T, U, m, k, mc, kc, t, y, w, hf, h, ht, hy, hQ, hm, hk, ft, fy, vt, vy => by
  have IH := hid (fun (w1 : World) (bb : Below w.heap.size w w1) (T' U' : Option Addr) (m' k' mc' kc' : Nat) (t' y' : List Int) hf' h1 h2 hm' hk' f1 f2 v1 v2 => parallel a v d Q hz oks hs f T' U' m' k' mc' kc' t' y' w1 hf' (h.next bb) h1 h2 (fun b hb => Nat.lt_of_lt_of_le (hQ b hb) bb.size) hm' hk' f1 f2 v1 v2)
  obtain ⟨A, n, cs, V, q, cv, rfl, rfl, hsg, hc, hcv, hq, hn, hq1, hrs, hsgr, hE⟩ := rd_sys h hz
  obtain ⟨W, hW, rA, bel⟩ := box1 w 79 #[.slice A n cs, .slice V q cv]
  have htl := rdq_len ht
  have hyl := rdq_len hy
  have hm1 : 0 < m := by have := fo_pos ft; omega
  have hk1 : 0 < k := by have := fo_pos fy; omega
  have hQW : ∀ b, Q b → b < W.heap.size := fun b hb => Nat.lt_of_lt_of_le (hQ b hb) bel.size
  have tW : RdQ W Q sI [.slice T m mc] t := ht.keep (Keep.below bel hQ)
  have yW : RdQ W Q sI [.slice U k kc] y := hy.keep (Keep.below bel hQ)
  have sT : Seg W W.heap.size T m t := shape.Rd.seg (tW.rd hQW)
  have sU : Seg W W.heap.size U k y := shape.Rd.seg (yW.rd hQW)
  obtain ⟨b1, o1, rfl, hb1, hx⟩ := sT.round hm1
  obtain ⟨b2, o2, rfl, hb2, hxy⟩ := sU.round hk1
  obtain ⟨x, ex⟩ : ∃ x, t.getD 0 0 = x := ⟨_, rfl⟩
  obtain ⟨z, ez⟩ : ∃ z, y.getD 0 0 = z := ⟨_, rfl⟩
  rw [ex] at hx
  rw [ez] at hxy
  have LE := hid (implSame _ _ m k mc kc t y W sT sU hm hk)
  have LR := hid (fun dd => leadsOnTop (.slice A n cs) (.slice V q cv) (.slice (some ⟨b1, o1, none⟩) m mc) (some ⟨b2, o2, none⟩) k kc d t y (W.drewN dd) (h.next (below_drewN bel dd)) (ht.rd hQ |>.next (below_drewN bel dd)) (sU.drewN dd) hz (by rw [sz_ints]; omega) hk oks)
  have HT := hid ht
  have HY := hid hy
  have HQ := hid hQ
  have HW := hid hW
  have HFT := hid ft
  have HFY := hid fy
  have HX := hid ex
  have HZ := hid ez
  have HS := hid hs
  have HSG := hid hsg
  have HVT := hid vt
  have HVY := hid vy
  have HF := hid hf
  have HTL := hid htl
  have HYL := hid hyl
  have K0 : (w.alloc (.cells #[.slice A n cs, .slice V q cv] 79)).cell? ⟨w.heap.size, 0, none⟩ = some (.slice A n cs) := (Row.new w _ _).cell 0
  have K1 : (w.alloc (.cells #[.slice A n cs, .slice V q cv] 79)).cell? ⟨w.heap.size, 1, none⟩ = some (.slice V q cv) := (Row.new w _ _).cell 1
  clear h hsg hc hcv hq hrs hsgr hE hz oks ht hy hQ hQW tW yW sT sU ft fy ex ez hs hf htl hyl hW vt vy
  go_enter Try.func47, Try.ntmps47
  go_wp2_with fail
  rw [← HW.out]
  clear K0 K1
  refine LE.out.mono ?_
  rintro e w2 ⟨rfl, dd, rfl⟩
  have r2 := rA.drewN dd
  have bel2 := below_drewN bel dd
  have hx2 : (W.drewN dd).cell? ⟨b1, o1 + 0, none⟩ = some (.int .i64 x) := hx
  have hz2 : (W.drewN dd).cell? ⟨b2, o2 + 0, none⟩ = some (.int .i64 z) := hxy
  have K0 : (W.drewN dd).cell? ⟨w.heap.size, 0, none⟩ = some (.slice A n cs) := r2.cell 0
  have K1 : (W.drewN dd).cell? ⟨w.heap.size, 1, none⟩ = some (.slice V q cv) := r2.cell 1
  have L2 := hid (LR.out dd)
  have hs2 : b1 < (W.drewN dd).heap.size := hb1
  have hs3 : b2 < (W.drewN dd).heap.size := hb2
  generalize hw2 : W.drewN dd = w2 at *
  clear LE LR rA bel hx hxy hw2 HW hb1 hb2
  by_cases hty : t = y
  ·have F := hid (show AnsB w (parB d.1 d.2 t y) (.returned (.bool true)) w2 from ⟨by rw [par_same hty], bel2⟩)
   rw [decide_eq_true hty]
   clear r2 bel2
   go_wp2
   go_ret
   exact F.out
  ·have HNE := hid hty
   rw [decide_eq_false hty]
   clear hty
   go_wp2_with fail
   refine L2.out.mono ?_
   rintro e w3 ⟨rfl, bb⟩
   have r3 := r2.next bb
   have bel3 := next_trans bel2 bb
   have hx3 : w3.cell? ⟨b1, o1, none⟩ = some (.int .i64 x) := (bb.cell (p := ⟨b1, o1 + 0, none⟩) hs2).trans hx2
   have hz3 : w3.cell? ⟨b2, o2, none⟩ = some (.int .i64 z) := (bb.cell (p := ⟨b2, o2 + 0, none⟩) hs3).trans hz2
   have K0 : w3.cell? ⟨w.heap.size, 0, none⟩ = some (.slice A n cs) := r3.cell 0
   have K1 : w3.cell? ⟨w.heap.size, 1, none⟩ = some (.slice V q cv) := r3.cell 1
   clear r2 bel2 hx2 hz2 bb hs2 hs3 L2
   cases hroot : rootB d.1 d.2 t y d.2.length with
   | true =>
    have F := hid (show AnsB w (parB d.1 d.2 t y) (.returned (.bool true)) w3 from ⟨by rw [par_root hroot], bel3⟩)
    clear r3 bel3
    go_wp2
    go_ret
    exact F.out
   | false =>
    have HR := hid hroot
    clear hroot
    have j1 : (0 : Int) < (m : Int) := by omega
    have j2 : (0 : Int) < (k : Int) := by omega
    by_cases hxz : x = z
    ·subst hxz
     have e0 : (x != x) = false := by simp
     have hpz : 0 ≤ t.getD 0 0 := by
      refine Int.not_lt.1 fun hn0 => HNE.out (heads_neg HFT.out HFY.out hn0 (by rw [HX.out, HZ.out]))
     obtain ⟨ps, hP⟩ := prt_ex HFT.out hpz
     obtain ⟨qs, hQs⟩ := prt_ex HFY.out (by rw [HZ.out, ← HX.out]; exact hpz)
     have HP := hid hP
     have HQQ := hid hQs
     have HR3 := hid (fun n' => (⟨r3.drewN n', below_drewN bel3 n'⟩ : Row (w3.drewN n') w.heap.size 79 #[.slice A n cs, .slice V q cv] ∧ Below w.heap.size w (w3.drewN n')))
     clear hP hQs hpz r3 bel3
     go_wp2_with fail
     go_quiet (fail)
     generalize hw4 : w3.drewN _ = w4
     have r4 : Row w4 w.heap.size 79 #[.slice A n cs, .slice V q cv] := by rw [← hw4]; exact (HR3.out _).1
     have bel4 : Below w.heap.size w w4 := by rw [← hw4]; exact (HR3.out _).2
     have K0 : w4.cell? ⟨w.heap.size, 0, none⟩ = some (.slice A n cs) := r4.cell 0
     clear hw4 HR3 K1 hx3 hz3
     go_wp2_with fail
     go_cut [7, 8] (fun a b wx => ∃ p1 p2, a = .pointer (some ⟨p1, 0, none⟩) ∧ b = .pointer (some ⟨p2, 0, none⟩) ∧ CC w A V (some ⟨b1, o1, none⟩) (some ⟨b2, o2, none⟩) n cs q cv m mc k kc p1 p2 0 0 wx)
     case first =>
      have C1 := hid (cc_new r4 bel4 (some ⟨b1, o1, none⟩) (some ⟨b2, o2, none⟩) m mc k kc)
      have C2 := hid (cc_new' r4 bel4 (some ⟨b1, o1, none⟩) (some ⟨b2, o2, none⟩) m mc k kc)
      clear r4 bel4
      go_region_held3 (fun w' => w'.cell? ⟨w.heap.size, 0, none⟩ = some (.slice A n cs)) (go_keep) ((fail))
      all_goals
       go_wp2_with fail
       go_meet
       first
        | exact ⟨_, _, rfl, rfl, C1.out⟩
        | exact ⟨_, _, rfl, rfl, C2.out⟩
     case rest =>
      rename World => wc
      obtain ⟨p1, p2, rfl, rfl, C0⟩ := hcut
      have sT0 : Seg w w.heap.size (some ⟨b1, o1, none⟩) m t := shape.Rd.seg (HT.out.rd HQ.out)
      have sU0 : Seg w w.heap.size (some ⟨b2, o2, none⟩) k y := shape.Rd.seg (HY.out.rd HQ.out)
      have HA := hid (fun (wx : World) (i j : Nat) (C : CC w A V (some ⟨b1, o1, none⟩) (some ⟨b2, o2, none⟩) n cs q cv m mc k kc p1 p2 i j wx) (hi : i ≤ m) => C.curA HSG.out sT0 hi hn hm HS.out)
      have HB := hid (fun (wx : World) (i j : Nat) (C : CC w A V (some ⟨b1, o1, none⟩) (some ⟨b2, o2, none⟩) n cs q cv m mc k kc p1 p2 i j wx) (hj : j ≤ k) => C.curB HSG.out sU0 hj hn hk HS.out)
      have hpl := HP.out
      obtain ⟨⟨x', hx0, hx2, hux, hpl⟩, -⟩ := hpl
      have exx : x' = x := by have := HX.out; rw [hux] at this; exact this
      subst exx
      have hbd := (ar_bd HS.out x').2
      obtain ⟨pk, hpk⟩ := Int.eq_ofNat_of_zero_le hx2
      rw [hpk, Int.toNat_natCast] at hpl
      rw [hpk] at hbd
      have HPK := hid hpk
      have HPL := hid hpl
      have HQL := hid ((prt_len2 HP.out HQQ.out (by rw [HX.out, HZ.out])).symm.trans hpl)
      have hcT := rdq_cap HT.out
      have hcU := rdq_cap HY.out
      have cT1 := hcT.1
      have cT2 := hcT.2.1
      have cU1 := hcU.1
      have cU2 := hcU.2.1
      have LN := hid (next p2 A n cs (some ⟨b2, o2, none⟩) k kc d.1 y 0 wc (HB.out wc 0 0 C0 (Nat.zero_le _)))
      have HC0 := hid C0
      clear C0 sT0 sU0 hcT hcU hux hpl hpk hx0 hx2 r4 bel4 K0
      go_wp2_with fail
      refine LN.out.mono ?_
      rintro e w5 ⟨g5, ⟨-, rfl, hc5⟩ | ⟨h0, -⟩⟩
      case inr => omega
      have HC5 := hid (HC0.out.moveB g5 hc5.row)
      have LM := hid (next p1 A n cs (some ⟨b1, o1, none⟩) m mc d.1 t 0 w5 (HA.out w5 0 1 HC5.out (Nat.zero_le _)))
      clear g5 hc5 LN HC0
      go_wp2_with fail
      refine LM.out.mono ?_
      rintro e w6 ⟨g6, ⟨-, rfl, hc6⟩ | ⟨h0, -⟩⟩
      case inr => omega
      have HC6 := hid (HC5.out.moveA g6 hc6.row)
      rw [HX.out, HPK.out]
      clear g6 hc6 LM HC5
      go_wp2_with fail
      go_loopg [35] pk (fun g i wr => ∃ j : Nat, i = .int .i64 j ∧ j + g = pk ∧ (∀ i, i < j → parB d.1 d.2 (ps.getD i []) (qs.getD i []) = true) ∧ CC w A V (some ⟨b1, o1, none⟩) (some ⟨b2, o2, none⟩) n cs q cv m mc k kc p1 p2 (upto ps j) (upto qs j) wr)
      case atStart => exact ⟨0, rfl, by omega, fun i hi => absurd hi (Nat.not_lt_zero i), HC6.out⟩
      case round =>
       clear HC6
       obtain ⟨j, rfl, hjg, hyes, S⟩ := hrel
       have HJ := hid hjg
       have HY2 := hid hyes
       clear hjg hyes
       by_cases hj : j < pk
       ·have i1 : (j : Int) < (pk : Int) := by omega
        have hjl : j < ps.length := by rw [HPL.out]; exact hj
        have hjl2 : j < qs.length := by rw [HQL.out]; exact hj
        have hlt := part_lt HP.out hjl
        have ule := upto_le HP.out hjl
        have ule2 := upto_le HQQ.out hjl2
        have u1 := fo_pos (part_fo HP.out hjl)
        have u2 := fo_pos (part_fo HQQ.out hjl2)
        rw [HTL.out] at ule
        rw [HYL.out] at ule2
        have HSA := hid (upto_scan HP.out hjl HVT.out)
        have HSB := hid (upto_scan HQQ.out hjl2 HVY.out)
        have HCA := hid (upto_cut HP.out hjl)
        have HCB := hid (upto_cut HQQ.out hjl2)
        have HNA := hid (upto_next hjl)
        have HNB := hid (upto_next hjl2)
        obtain ⟨ua, hua⟩ : ∃ u, upto ps j = u := ⟨_, rfl⟩
        obtain ⟨ub, hub⟩ : ∃ u, upto qs j = u := ⟨_, rfl⟩
        obtain ⟨pa, hpa⟩ : ∃ u, ps.getD j [] = u := ⟨_, rfl⟩
        obtain ⟨pb, hpb⟩ : ∃ u, qs.getD j [] = u := ⟨_, rfl⟩
        rw [hua, hub] at S
        rw [hua, hpa] at HSA HCA HNA ule
        rw [hub, hpb] at HSB HCB HNB ule2
        rw [hpa] at hlt u1
        rw [hpb] at u2
        obtain ⟨la, hla⟩ : ∃ u, pa.length = u := ⟨_, rfl⟩
        obtain ⟨lb, hlb⟩ : ∃ u, pb.length = u := ⟨_, rfl⟩
        rw [hla] at HSA HCA HNA ule u1
        rw [hlb] at HSB HCB HNB ule2 u2
        have K0 : wr.cell? ⟨w.heap.size, 0, none⟩ = some (.slice A n cs) := S.r.cell 0
        have K1 : wr.cell? ⟨w.heap.size, 1, none⟩ = some (.slice V q cv) := S.r.cell 1
        have LA := hid (fun dd => (partC p1 A n cs b1 o1 m mc d.1 t ua la (wr.drewN dd) (HA.out _ ua ub (S.drewN dd) (by omega)) HSA.out ule u1 cT1 cT2).mono fun e w' (r : _ ∧ _ ∧ _) => (⟨r.1, (S.drewN dd).moveA r.2.1 r.2.2.row⟩ : e = .returned (.slice (some ⟨b1, o1 + ua, none⟩) la (mc - ua)) ∧ CC w A V (some ⟨b1, o1, none⟩) (some ⟨b2, o2, none⟩) n cs q cv m mc k kc p1 p2 (ua + la) ub w'))
        have LB := hid (fun (wx : World) (C : CC w A V (some ⟨b1, o1, none⟩) (some ⟨b2, o2, none⟩) n cs q cv m mc k kc p1 p2 (ua + la) ub wx) => (partC p2 A n cs b2 o2 k kc d.1 y ub lb wx (HB.out _ _ ub C (by omega)) HSB.out ule2 u2 cU1 cU2).mono fun e w' (r : _ ∧ _ ∧ _) => (⟨r.1, C.moveB r.2.1 r.2.2.row⟩ : e = .returned (.slice (some ⟨b2, o2 + ub, none⟩) lb (kc - ub)) ∧ CC w A V (some ⟨b1, o1, none⟩) (some ⟨b2, o2, none⟩) n cs q cv m mc k kc p1 p2 (ua + la) (ub + lb) w'))
        have LI := hid (fun (wx : World) (C : CC w A V (some ⟨b1, o1, none⟩) (some ⟨b2, o2, none⟩) n cs q cv m mc k kc p1 p2 (ua + la) (ub + lb) wx) => IH.out wx C.bel (some ⟨b1, o1 + ua, none⟩) (some ⟨b2, o2 + ub, none⟩) la lb (mc - ua) (kc - ub) pa pb (by have := HF.out; omega)
         (by have h9 := rdq_cut (HT.out.keep (Keep.below C.bel HQ.out)) u1 ule; rw [HCA.out] at h9; exact h9)
         (by have h9 := rdq_cut (HY.out.keep (Keep.below C.bel HQ.out)) u2 ule2; rw [HCB.out] at h9; exact h9) (by omega) (by omega)
         (by have h9 := part_fo HP.out hjl; rw [hpa] at h9; exact h9) (by have h9 := part_fo HQQ.out hjl2; rw [hpb] at h9; exact h9)
         (by have h9 := part_in HP.out hjl HVT.out; rw [hpa] at h9; exact h9) (by have h9 := part_in HQQ.out hjl2 HVY.out; rw [hpb] at h9; exact h9))
        obtain ⟨bo, hbo⟩ : ∃ bo, parB d.1 d.2 pa pb = bo := ⟨_, rfl⟩
        rw [hbo] at LI
        have HBO := hid (show parB d.1 d.2 (ps.getD j []) (qs.getD j []) = bo by rw [hpa, hpb]; exact hbo)
        clear S hbo hla hlb hpa hpb hlt hua hub u1 u2
        go_wp2_with fail
        go_region_held3 (fun w' => w'.cell? ⟨w.heap.size, 0, none⟩ = some (.slice A n cs) ∧ w'.cell? ⟨w.heap.size, 1, none⟩ = some (.slice V q cv))
         (go_keep)
         (first
          | (go_at_call 47; refine (LI.out w8 C8).mono ?_; rintro e w9 ⟨rfl, bb⟩; have C9 := C8.next bb; have k0 : w9.cell? ⟨w.heap.size, 0, none⟩ = some (.slice A n cs) := C9.r.cell 0; have k1 : w9.cell? ⟨w.heap.size, 1, none⟩ = some (.slice V q cv) := C9.r.cell 1; clear bb)
          | (go_at_call 80; refine (LB.out w7 C7).mono ?_; rintro e w8 ⟨rfl, C8⟩; have k0 : w8.cell? ⟨w.heap.size, 0, none⟩ = some (.slice A n cs) := C8.r.cell 0; have k1 : w8.cell? ⟨w.heap.size, 1, none⟩ = some (.slice V q cv) := C8.r.cell 1)
          | (go_at_call 80; refine (LA.out _).mono ?_; rintro e w7 ⟨rfl, C7⟩; have k0 : w7.cell? ⟨w.heap.size, 0, none⟩ = some (.slice A n cs) := C7.r.cell 0; have k1 : w7.cell? ⟨w.heap.size, 1, none⟩ = some (.slice V q cv) := C7.r.cell 1))
        clear LA LB LI C7 C8 k0 k1 K0 K1
        have HC9 := hid C9
        clear C9
        cases bo with
        | true =>
         have HN := hid (show ∀ i, i < j + 1 → parB d.1 d.2 (ps.getD i []) (qs.getD i []) = true from fun i hi => by
          rcases Nat.lt_succ_iff_lt_or_eq.1 hi with h1 | h1
          ·exact HY2.out i h1
          ·rw [h1]; exact HBO.out)
         go_wp2
         go_roundg (gk - 1)
         case measure => have := HJ.out; omega
         case rel => exact ⟨j + 1, by simp, by have := HJ.out; omega, HN.out, by rw [HNA.out, HNB.out]; exact HC9.out⟩
        | false =>
         have F := hid (show AnsB w (parB d.1 d.2 t y) (.returned (.bool false)) w9 from ⟨by rw [par_miss HNE.out HR.out HP.out HQQ.out hjl HBO.out], HC9.out.bel⟩)
         clear HC9
         go_wp2
         go_ret
         exact F.out
       ·have i1 : ¬ (j : Int) < (pk : Int) := by omega
        have F := hid (show AnsB w (parB d.1 d.2 t y) (.returned (.bool true)) wr from ⟨by rw [par_all HP.out HQQ.out (by rw [HX.out, HZ.out]) fun i hi => HY2.out i (by have := HPL.out; have := HJ.out; omega)], S.bel⟩)
        clear S
        go_wp2
        go_ret
        exact F.out
    ·have e0 : (x != z) = true := by simp [hxz]
     have F := hid (fun n' => show AnsB w (parB d.1 d.2 t y) (.returned (.bool false)) (w3.drewN n') from ⟨by rw [par_head HNE.out HR.out (by rw [HX.out, HZ.out]; exact hxz)], below_drewN bel3 n'⟩)
     clear r3 bel3
     go_wp2_with fail
     go_quiet (fail)
     go_wp2
     go_ret
     exact F.out _
end parImpl
end
section
open Go.Lib (hid)
namespace parX
open Go.RowKit base ints sig term termOk termFacts marks app sym segs kinds shape kindsR varsOf ruleMath ruleSpec ruleImpl stepMath walkMath stepSpec drawX forest parMath parSpec parImpl
noncomputable def parToB (sg : List Int) (rs : List Rl) (t y : List Int) : Bool := sysOkB sg rs && (termOkB sg t && (termOkB sg y && parB sg rs t y))
section
variable {sg : List Int} {rs : List Rl} {t y : List Int}
theorem par_sys (h : sysOkB sg rs = false) : parToB sg rs t y = false := by unfold parToB; rw [h]; rfl
theorem par_one (h : sysOkB sg rs = true) (h1 : termOkB sg t = false) : parToB sg rs t y = false := by unfold parToB; rw [h, h1]; rfl
theorem par_two (h : sysOkB sg rs = true) (h1 : termOkB sg t = true) (h2 : termOkB sg y = false) : parToB sg rs t y = false := by unfold parToB; rw [h, h1, h2]; rfl
theorem par_ok (h : sysOkB sg rs = true) (h1 : termOkB sg t = true) (h2 : termOkB sg y = true) : parToB sg rs t y = parB sg rs t y := by unfold parToB; rw [h, h1, h2]; rfl
end
theorem rdq_ints {w : World} {A : Option Addr} {n c : Nat} {t : List Int} (h : Seg w w.heap.size A n t) (hc : Cap A n c) : RdQ w (fun b => b < w.heap.size) sI [.slice A n c] t :=
 rdq_seg h.1 hc fun hn => by obtain ⟨b, off, e, hb, hj⟩ := h.2 hn; exact ⟨b, off, e, hb, hj⟩
theorem vars24 {sg t : List Int} (h : termOkB sg t = true) : ∀ x ∈ t, -24 ≤ x := fun x hx => (term_mem h hx).1
set_option maxHeartbeats 4000000 in
theorem specParallelToX (a v u z : Value) (d : Dat sSystem) (t y : List Int) (w : World) (h : Rd w w.heap.size sSystem [a, v] d) (ht : Rd w w.heap.size sI [u] t) (hy : Rd w w.heap.size sI [z] y) (hz : sz sSystem d ≤ 1048576) (hz1 : sz sI t ≤ 1048576) (hz2 : sz sI y ≤ 1048576) :
  Calls Try.prog 18 #[.agg #[a, v], u, z] w (AnsB w (parToB d.1 d.2 t y)) := by
 obtain ⟨T, m, mc, rfl, hT, hcT⟩ := rd_ints.1 ht
 obtain ⟨U, k, kc, rfl, hU, hcU⟩ := rd_ints.1 hy
 have hm : m ≤ 1048576 := len_ints hT.1 hz1
 have hk : k ≤ 1048576 := len_ints hU.1 hz2
 have qT := rdq_ints hT hcT
 have qU := rdq_ints hU hcU
 have h0 := h
 obtain ⟨A, n, cs, V, q, cv, rfl, rfl, hs, hc, hcv, hq, hn, hq1, hrs, hsg, hE⟩ := rd_sys h hz
 obtain ⟨W, hW, rA, bel⟩ := box1 w 32 #[.slice A n cs, .slice V q cv]
 have HW := hid hW
 have L1 := hid (specSystemOk _ _ d W (h.next bel) hz)
 have L2 := hid (fun (w1 : World) (bb : Below w.heap.size w w1) => specTermOk A T n cs m mc d.1 t w1 (hs.next bb) (hT.next bb) hn hm)
 have L3 := hid (fun (w1 : World) (bb : Below w.heap.size w w1) => specTermOk A U n cs k kc d.1 y w1 (hs.next bb) (hU.next bb) hn hk)
 have L4 := hid (fun (w1 : World) (bb : Below w.heap.size w w1) oks (t1 : termOkB d.1 t = true) (t2 : termOkB d.1 y = true) => l12Parallel _ _ d (fun b => b < w.heap.size) hz oks (sig_arities (sys_parts oks).1).1 (t.length + 1) T U m k mc kc t y w1 (Nat.lt_succ_self _) (h0.next bb) (qT.keep (stk.Keep.below bb fun b hb => hb)) (qU.keep (stk.Keep.below bb fun b hb => hb)) (fun b hb => Nat.lt_of_lt_of_le hb bb.size) hm hk (fo_term t1) (fo_term t2))
 clear hW h h0 hz hs hc hcv hq hrs hsg hE ht hy hT hU hcT hcU qT qU hz1 hz2
 cases ok1 : sysOkB d.1 d.2 with
 | false =>
  have HS := hid ok1
  clear ok1
  go_enter Try.func18, Try.ntmps18
  go_wp2_with fail
  rw [← HW.out]
  refine L1.out.mono ?_
  rintro e w1 ⟨he, bb⟩
  rw [HS.out] at he
  subst he
  have F := hid (ansB (b := parToB d.1 d.2 t y) (a := false) (by rw [par_sys HS.out]) (next_trans bel bb))
  clear bb bel rA
  go_wp2
  go_ret
  exact F.out
 | true =>
  obtain ⟨bt, hbt⟩ : ∃ b, termOkB d.1 t = b := ⟨_, rfl⟩
  obtain ⟨bu, hbu⟩ : ∃ b, termOkB d.1 y = b := ⟨_, rfl⟩
  have HS := hid ok1
  have HB := hid hbt
  have HU := hid hbu
  clear ok1 hbt hbu
  go_enter Try.func18, Try.ntmps18
  go_wp2_with fail
  rw [← HW.out]
  refine L1.out.mono ?_
  rintro e w1 ⟨he, bb⟩
  rw [HS.out] at he
  subst he
  replace rA := rA.next bb
  replace bel := next_trans bel bb
  have k0 : w1.cell? ⟨w.heap.size, 0, none⟩ = some (.slice A n cs) := rA.cell 0
  have k1 : w1.cell? ⟨w.heap.size, 1, none⟩ = some (.slice V q cv) := rA.cell 1
  clear bb L1
  go_wp2_with fail
  refine (L2.out _ bel).mono ?_
  rintro e w2 ⟨he, bb⟩
  rw [HB.out] at he
  subst he
  replace rA := rA.next bb
  replace bel := next_trans bel bb
  have k0 : w2.cell? ⟨w.heap.size, 0, none⟩ = some (.slice A n cs) := rA.cell 0
  have k1 : w2.cell? ⟨w.heap.size, 1, none⟩ = some (.slice V q cv) := rA.cell 1
  clear bb L2
  cases bt with
  | false =>
   have F := hid (ansB (b := parToB d.1 d.2 t y) (a := false) (by rw [par_one HS.out HB.out]) bel)
   clear bel rA
   go_wp2
   go_ret
   exact F.out
  | true =>
   go_wp2_with fail
   refine (L3.out _ bel).mono ?_
   rintro e w3 ⟨he, bb⟩
   rw [HU.out] at he
   subst he
   replace rA := rA.next bb
   replace bel := next_trans bel bb
   have k0 : w3.cell? ⟨w.heap.size, 0, none⟩ = some (.slice A n cs) := rA.cell 0
   have k1 : w3.cell? ⟨w.heap.size, 1, none⟩ = some (.slice V q cv) := rA.cell 1
   clear bb L3
   cases bu with
   | false =>
    have F := hid (ansB (b := parToB d.1 d.2 t y) (a := false) (by rw [par_two HS.out HB.out HU.out]) bel)
    clear bel rA
    go_wp2
    go_ret
    exact F.out
   | true =>
    have LL := hid (L4.out _ bel HS.out HB.out HU.out)
    obtain ⟨bz, hbz⟩ : ∃ b, parB d.1 d.2 t y = b := ⟨_, rfl⟩
    rw [hbz] at LL
    have HZ := hid hbz
    clear hbz L4 rA
    go_wp2_with fail
    refine LL.out.mono ?_
    rintro e w4 ⟨rfl, bb⟩
    have F := hid (ansB (b := parToB d.1 d.2 t y) (a := bz) (by rw [par_ok HS.out HB.out HU.out, HZ.out]) (next_trans bel bb))
    clear bb LL bel
    go_wp2
    go_ret
    exact F.out
set_option maxHeartbeats 4000000 in
theorem implParallelToX (a v u z : Value) (d : Dat sSystem) (t y : List Int) (w : World) (h : Rd w w.heap.size sSystem [a, v] d) (ht : Rd w w.heap.size sI [u] t) (hy : Rd w w.heap.size sI [z] y) (hz : sz sSystem d ≤ 1048576) (hz1 : sz sI t ≤ 1048576) (hz2 : sz sI y ≤ 1048576) :
  Calls Try.prog 14 #[.agg #[a, v], u, z] w (AnsB w (parToB d.1 d.2 t y)) := by
 obtain ⟨T, m, mc, rfl, hT, hcT⟩ := rd_ints.1 ht
 obtain ⟨U, k, kc, rfl, hU, hcU⟩ := rd_ints.1 hy
 have hm : m ≤ 1048576 := len_ints hT.1 hz1
 have hk : k ≤ 1048576 := len_ints hU.1 hz2
 have qT := rdq_ints hT hcT
 have qU := rdq_ints hU hcU
 have h0 := h
 obtain ⟨A, n, cs, V, q, cv, rfl, rfl, hs, hc, hcv, hq, hn, hq1, hrs, hsg, hE⟩ := rd_sys h hz
 obtain ⟨W, hW, rA, bel⟩ := box1 w 32 #[.slice A n cs, .slice V q cv]
 have HW := hid hW
 have L1 := hid (ruleImpl.systemOf _ _ d W (h.next bel) hz)
 have L2 := hid (fun (w1 : World) (bb : Below w.heap.size w w1) => implTermOk A T n cs m mc d.1 t w1 (hs.next bb) (hT.next bb) hn hm)
 have L3 := hid (fun (w1 : World) (bb : Below w.heap.size w w1) => implTermOk A U n cs k kc d.1 y w1 (hs.next bb) (hU.next bb) hn hk)
 have L4 := hid (fun (w1 : World) (bb : Below w.heap.size w w1) oks (t1 : termOkB d.1 t = true) (t2 : termOkB d.1 y = true) => parallel _ _ d (fun b => b < w.heap.size) hz oks (sig_arities (sys_parts oks).1).1 (t.length + 1) T U m k mc kc t y w1 (Nat.lt_succ_self _) (h0.next bb) (qT.keep (stk.Keep.below bb fun b hb => hb)) (qU.keep (stk.Keep.below bb fun b hb => hb)) (fun b hb => Nat.lt_of_lt_of_le hb bb.size) hm hk (fo_term t1) (fo_term t2) (vars24 t1) (vars24 t2))
 clear hW h h0 hz hs hc hcv hq hrs hsg hE ht hy hT hU hcT hcU qT qU hz1 hz2
 cases ok1 : sysOkB d.1 d.2 with
 | false =>
  have HS := hid ok1
  clear ok1
  go_enter Try.func14, Try.ntmps14
  go_wp2_with fail
  rw [← HW.out]
  refine L1.out.mono ?_
  rintro e w1 ⟨he, bb⟩
  rw [HS.out] at he
  have he : e = .returned (.tuple #[.agg #[.slice none 0 0, .slice none 0 0], .bool false]) := he
  subst he
  have F := hid (fun o => ansB (b := parToB d.1 d.2 t y) (a := false) (by rw [par_sys HS.out]) ((next_trans bel bb).alloc (next_trans bel bb).size o))
  clear bb bel rA
  go_wp2
  go_ret
  exact F.out _
 | true =>
  obtain ⟨bt, hbt⟩ : ∃ b, termOkB d.1 t = b := ⟨_, rfl⟩
  obtain ⟨bu, hbu⟩ : ∃ b, termOkB d.1 y = b := ⟨_, rfl⟩
  have HS := hid ok1
  have HB := hid hbt
  have HU := hid hbu
  clear ok1 hbt hbu
  go_enter Try.func14, Try.ntmps14
  go_wp2_with fail
  rw [← HW.out]
  refine L1.out.mono ?_
  rintro e w1 ⟨he, bb⟩
  rw [HS.out] at he
  have he : e = .returned (.tuple #[.agg #[.slice A n cs, .slice V q cv], .bool true]) := he
  subst he
  have bel1 := next_trans bel bb
  obtain ⟨wb, hwb⟩ : ∃ wb, wb = w1.alloc (.cells #[.slice A n cs, .slice V q cv] 79) := ⟨_, rfl⟩
  have rB : Row wb w1.heap.size 79 #[.slice A n cs, .slice V q cv] := by rw [hwb]; exact Row.new _ _ _
  have belB : Below w.heap.size w wb := by rw [hwb]; exact bel1.alloc bel1.size _
  have k0 : (w1.alloc (.cells #[.slice A n cs, .slice V q cv] 79)).cell? ⟨w1.heap.size, 0, none⟩ = some (.slice A n cs) := by rw [← hwb]; exact rB.cell 0
  have k1 : (w1.alloc (.cells #[.slice A n cs, .slice V q cv] 79)).cell? ⟨w1.heap.size, 1, none⟩ = some (.slice V q cv) := by rw [← hwb]; exact rB.cell 1
  have HWB := hid hwb
  clear bb L1 bel1 rA hwb bel
  go_wp2_with fail
  rw [← HWB.out]
  clear k0 k1
  refine (L2.out _ belB).mono ?_
  rintro e w2 ⟨he, bb⟩
  rw [HB.out] at he
  subst he
  replace rB := rB.next bb
  replace belB := next_trans belB bb
  have k0 : w2.cell? ⟨w1.heap.size, 0, none⟩ = some (.slice A n cs) := rB.cell 0
  have k1 : w2.cell? ⟨w1.heap.size, 1, none⟩ = some (.slice V q cv) := rB.cell 1
  clear bb L2
  cases bt with
  | false =>
   have F := hid (ansB (b := parToB d.1 d.2 t y) (a := false) (by rw [par_one HS.out HB.out]) belB)
   clear belB rB
   go_wp2
   go_ret
   exact F.out
  | true =>
   go_wp2_with fail
   refine (L3.out _ belB).mono ?_
   rintro e w3 ⟨he, bb⟩
   rw [HU.out] at he
   subst he
   replace rB := rB.next bb
   replace belB := next_trans belB bb
   have k0 : w3.cell? ⟨w1.heap.size, 0, none⟩ = some (.slice A n cs) := rB.cell 0
   have k1 : w3.cell? ⟨w1.heap.size, 1, none⟩ = some (.slice V q cv) := rB.cell 1
   clear bb L3
   cases bu with
   | false =>
    have F := hid (ansB (b := parToB d.1 d.2 t y) (a := false) (by rw [par_two HS.out HB.out HU.out]) belB)
    clear belB rB
    go_wp2
    go_ret
    exact F.out
   | true =>
    have LL := hid (L4.out _ belB HS.out HB.out HU.out)
    obtain ⟨bz, hbz⟩ : ∃ b, parB d.1 d.2 t y = b := ⟨_, rfl⟩
    rw [hbz] at LL
    have HZ := hid hbz
    clear hbz L4 rB
    go_wp2_with fail
    refine LL.out.mono ?_
    rintro e w4 ⟨rfl, bb⟩
    have F := hid (ansB (b := parToB d.1 d.2 t y) (a := bz) (by rw [par_ok HS.out HB.out HU.out, HZ.out]) (next_trans belB bb))
    clear bb LL belB
    go_wp2
    go_ret
    exact F.out
end parX
end
section
open Go.Lib (hid)
namespace wParallelTo
open Go.RowKit base ints sig cursor marks app sym appAt segs segsHelp segsMark kinds shape varsOf kindsR ruleMath ruleSpec stepMath walkMath parX
set_option maxRecDepth 100000
set_option maxHeartbeats 8000000 in
theorem law (v0_0 v0_1 : Value) (d0 : Dat sSystem) (a1 : Option Addr) (n1 c1 : Nat) (d1 : List Int) (a2 : Option Addr) (n2 c2 : Nat) (d2 : List Int) (w : World) (s0 : Rd w w.heap.size sSystem [v0_0, v0_1] d0) (s1 : Rd w w.heap.size sI [.slice a1 n1 c1] d1) (s2 : Rd w w.heap.size sI [.slice a2 n2 c2] d2) :
  Calls Try.prog 4 #[.agg #[v0_0, v0_1], .slice a1 n1 c1, .slice a2 n2 c2] w (Fine w) := by
 have Hl1 := hid s1.seg.1
 have cp1 := (by obtain ⟨A, c, ec, hc⟩ := s1.slice; injection ec with e1 e2 e3; subst e1 e2 e3; exact hc : Cap a1 n1 c1)
 have hN1 : n1 ≤ 9223372036854775807 := Nat.le_trans cp1.1 cp1.2.1
 clear cp1
 have Hl2 := hid s2.seg.1
 have cp2 := (by obtain ⟨A, c, ec, hc⟩ := s2.slice; injection ec with e1 e2 e3; subst e1 e2 e3; exact hc : Cap a2 n2 c2)
 have hN2 : n2 ≤ 9223372036854775807 := Nat.le_trans cp2.1 cp2.2.1
 clear cp2
 obtain ⟨W, hW⟩ : ∃ W, W = w.alloc (.cells #[v0_0, v0_1] 45) := ⟨_, rfl⟩
 have rA0 : Row W (w.heap.size) 45 #[v0_0, v0_1] := by rw [hW]; have := Row.new (w) 45 #[v0_0, v0_1]; simpa using this
 have bW : Below w.heap.size w W := by rw [hW]; exact (Below.refl w.heap.size w).alloc (by simp) (.cells #[v0_0, v0_1] 45)
 have zA0 := rA0.lt
 replace s0 := s0.next bW
 replace s1 := s1.next bW
 replace s2 := s2.next bW
 have HW := hid hW
 clear hW
 obtain ⟨t0, ht0⟩ : ∃ z, sz sSystem d0 = z := ⟨_, rfl⟩
 have HT0 := hid ht0
 clear ht0
 obtain ⟨v, hv⟩ : ∃ v, parToB d0.1 d0.2 d1 d2 = v := ⟨_, rfl⟩
 have HV := hid hv
 clear hv
 have ev : (v != v) = false := by simp
 by_cases h1 : n1 ≤ 1048576
 case neg =>
  go_enter Try.func4, Try.ntmps4
  go_wp2_with fail
  rw [← HW.out]
  go_ret
  exact ⟨rfl, bW⟩
 have hi1 : Hid (sz sI d1 ≤ 1048576) := hid (by rw [sz_ints, Hl1.out]; exact h1)
 have hn1 := h1
 clear h1
 have h1 := hi1
 clear hi1
 by_cases h2 : n2 ≤ 1048576
 case neg =>
  go_enter Try.func4, Try.ntmps4
  go_wp2_with fail
  rw [← HW.out]
  go_ret
  exact ⟨rfl, bW⟩
 have hi2 : Hid (sz sI d2 ≤ 1048576) := hid (by rw [sz_ints, Hl2.out]; exact h2)
 have hn2 := h2
 clear h2
 have h2 := hi2
 clear hi2
 go_enter Try.func4, Try.ntmps4
 go_wp2_with fail
 rw [← HW.out]
 clear HW
 have bel := Below.refl W.heap.size W
 have cA0_0 : W.cell? ⟨w.heap.size, 0, none⟩ = some (v0_0) := (rA0.next bel).cell 0
 have cA0_1 : W.cell? ⟨w.heap.size, 1, none⟩ = some (v0_1) := (rA0.next bel).cell 1
 refine (szK_System _ _ d0 (1048576) _ (s0.next bel) (by omega) (by omega)).mono ?_
 rintro e w1 ⟨he, bb⟩
 rw [HT0.out] at he
 replace bel := next_trans bel bb
 have zw1 := bb.size
 clear bb
 by_cases q0 : t0 ≤ 1048576
 case neg =>
  rw [if_pos (by omega)] at he
  subst he
  have F := hid (bW.trans (bel.mono bW.size))
  clear bel bW cA0_0 cA0_1
  go_wp2
  go_ret
  exact ⟨rfl, F.out⟩
 rw [if_neg (by omega)] at he
 subst he
 have h0 : Hid (sz sSystem d0 ≤ 1048576) := hid (by rw [HT0.out]; omega)
 clear cA0_0 cA0_1
 have cA0_0 : w1.cell? ⟨w.heap.size, 0, none⟩ = some (v0_0) := (rA0.next bel).cell 0
 have cA0_1 : w1.cell? ⟨w.heap.size, 1, none⟩ = some (v0_1) := (rA0.next bel).cell 1
 go_wp2_with fail
 refine (toK_System _ _ d0 _ (s0.next bel) h0.out).mono ?_
 rintro e w2 ⟨p0A0, p0n0, p0c0, p0A1, p0n1, p0c1, rfl, op0, bb⟩
 replace bel := next_trans bel bb
 have zw2 := bb.size
 clear bb
 clear cA0_0 cA0_1
 have cA0_0 : w2.cell? ⟨w.heap.size, 0, none⟩ = some (v0_0) := (rA0.next bel).cell 0
 have cA0_1 : w2.cell? ⟨w.heap.size, 1, none⟩ = some (v0_1) := (rA0.next bel).cell 1
 go_wp2_with fail
 refine (toK_ints _ d1 _ (s1.next bel) h1.out).mono ?_
 rintro e w3 ⟨p1A0, p1n0, p1c0, rfl, op1, bb⟩
 replace op0 := op0.next bb
 replace bel := next_trans bel bb
 have zw3 := bb.size
 clear bb
 clear cA0_0 cA0_1
 have cA0_0 : w3.cell? ⟨w.heap.size, 0, none⟩ = some (v0_0) := (rA0.next bel).cell 0
 have cA0_1 : w3.cell? ⟨w.heap.size, 1, none⟩ = some (v0_1) := (rA0.next bel).cell 1
 go_wp2_with fail
 refine (toK_ints _ d2 _ (s2.next bel) h2.out).mono ?_
 rintro e w4 ⟨p2A0, p2n0, p2c0, rfl, op2, bb⟩
 replace op0 := op0.next bb
 replace op1 := op1.next bb
 replace bel := next_trans bel bb
 have zw4 := bb.size
 clear bb
 clear cA0_0 cA0_1
 have cA0_0 : w4.cell? ⟨w.heap.size, 0, none⟩ = some (v0_0) := (rA0.next bel).cell 0
 have cA0_1 : w4.cell? ⟨w.heap.size, 1, none⟩ = some (v0_1) := (rA0.next bel).cell 1
 go_wp2_with fail
 refine (specParallelToX _ _ _ _ d0 d1 d2 _ op0.rd op1.rd op2.rd h0.out h1.out h2.out).mono ?_
 rintro e w5 ⟨he, bb⟩
 rw [HV.out] at he
 subst he
 replace op0 := op0.next bb
 replace op1 := op1.next bb
 replace op2 := op2.next bb
 replace bel := next_trans bel bb
 have zw5 := bb.size
 clear bb
 clear op0 op1 op2
 clear cA0_0 cA0_1
 have cA0_0 : w5.cell? ⟨w.heap.size, 0, none⟩ = some (v0_0) := (rA0.next bel).cell 0
 have cA0_1 : w5.cell? ⟨w.heap.size, 1, none⟩ = some (v0_1) := (rA0.next bel).cell 1
 clear cA0_0 cA0_1
 have cA0_0 : w5.cell? ⟨w.heap.size, 0, none⟩ = some (v0_0) := (rA0.next bel).cell 0
 have cA0_1 : w5.cell? ⟨w.heap.size, 1, none⟩ = some (v0_1) := (rA0.next bel).cell 1
 go_wp2_with fail
 refine (toK_System _ _ d0 _ (s0.next bel) h0.out).mono ?_
 rintro e w6 ⟨x0A0, x0n0, x0c0, x0A1, x0n1, x0c1, rfl, ox0, bb⟩
 replace bel := next_trans bel bb
 have zw6 := bb.size
 clear bb
 clear cA0_0 cA0_1
 have cA0_0 : w6.cell? ⟨w.heap.size, 0, none⟩ = some (v0_0) := (rA0.next bel).cell 0
 have cA0_1 : w6.cell? ⟨w.heap.size, 1, none⟩ = some (v0_1) := (rA0.next bel).cell 1
 have dA0_0 : (w6.alloc (.cells #[.slice x0A0 x0n0 x0c0, .slice x0A1 x0n1 x0c1] 32)).cell? ⟨w.heap.size, 0, none⟩ = some (v0_0) := ((rA0.next bel).alloc _).cell 0
 have dA0_1 : (w6.alloc (.cells #[.slice x0A0 x0n0 x0c0, .slice x0A1 x0n1 x0c1] 32)).cell? ⟨w.heap.size, 1, none⟩ = some (v0_1) := ((rA0.next bel).alloc _).cell 1
 go_wp2_with fail
 obtain ⟨w7, hw⟩ : ∃ W, W = w6.alloc (.cells #[.slice x0A0 x0n0 x0c0, .slice x0A1 x0n1 x0c1] 32) := ⟨_, rfl⟩
 rw [← hw]
 have rx0 : Row w7 w6.heap.size 32 #[.slice x0A0 x0n0 x0c0, .slice x0A1 x0n1 x0c1] := by rw [hw]; exact Row.new _ _ _
 have bb : Below w6.heap.size w6 w7 := by rw [hw]; exact (Below.refl _ _).alloc (Nat.le_refl _) _
 have yrx0 : w6.heap.size < w7.heap.size := by rw [hw]; simp
 clear hw
 replace ox0 := ox0.next bb
 replace bel := next_trans bel bb
 have zw7 := bb.size
 clear bb
 clear dA0_0 dA0_1
 clear cA0_0 cA0_1
 have cA0_0 : w7.cell? ⟨w.heap.size, 0, none⟩ = some (v0_0) := (rA0.next bel).cell 0
 have cA0_1 : w7.cell? ⟨w.heap.size, 1, none⟩ = some (v0_1) := (rA0.next bel).cell 1
 have cx0_0 : w7.cell? ⟨w6.heap.size, 0, none⟩ = some (.slice x0A0 x0n0 x0c0) := (rx0).cell 0
 have cx0_1 : w7.cell? ⟨w6.heap.size, 1, none⟩ = some (.slice x0A1 x0n1 x0c1) := (rx0).cell 1
 refine (toK_ints _ d1 _ (s1.next bel) h1.out).mono ?_
 rintro e w8 ⟨x1A0, x1n0, x1c0, rfl, ox1, bb⟩
 replace ox0 := ox0.next bb
 replace rx0 := rx0.next bb
 replace bel := next_trans bel bb
 have zw8 := bb.size
 clear bb
 clear cA0_0 cA0_1 cx0_0 cx0_1
 have cA0_0 : w8.cell? ⟨w.heap.size, 0, none⟩ = some (v0_0) := (rA0.next bel).cell 0
 have cA0_1 : w8.cell? ⟨w.heap.size, 1, none⟩ = some (v0_1) := (rA0.next bel).cell 1
 have cx0_0 : w8.cell? ⟨w6.heap.size, 0, none⟩ = some (.slice x0A0 x0n0 x0c0) := (rx0).cell 0
 have cx0_1 : w8.cell? ⟨w6.heap.size, 1, none⟩ = some (.slice x0A1 x0n1 x0c1) := (rx0).cell 1
 go_wp2_with fail
 refine (toK_ints _ d2 _ (s2.next bel) h2.out).mono ?_
 rintro e w9 ⟨x2A0, x2n0, x2c0, rfl, ox2, bb⟩
 replace ox0 := ox0.next bb
 replace rx0 := rx0.next bb
 replace ox1 := ox1.next bb
 replace bel := next_trans bel bb
 have zw9 := bb.size
 clear bb
 clear cA0_0 cA0_1 cx0_0 cx0_1
 have cA0_0 : w9.cell? ⟨w.heap.size, 0, none⟩ = some (v0_0) := (rA0.next bel).cell 0
 have cA0_1 : w9.cell? ⟨w.heap.size, 1, none⟩ = some (v0_1) := (rA0.next bel).cell 1
 have cx0_0 : w9.cell? ⟨w6.heap.size, 0, none⟩ = some (.slice x0A0 x0n0 x0c0) := (rx0).cell 0
 have cx0_1 : w9.cell? ⟨w6.heap.size, 1, none⟩ = some (.slice x0A1 x0n1 x0c1) := (rx0).cell 1
 go_wp2_with fail
 refine (implParallelToX _ _ _ _ d0 d1 d2 _ ox0.rd ox1.rd ox2.rd h0.out h1.out h2.out).mono ?_
 rintro e w10 ⟨he, bb⟩
 rw [HV.out] at he
 subst he
 replace ox0 := ox0.next bb
 replace rx0 := rx0.next bb
 replace ox1 := ox1.next bb
 replace ox2 := ox2.next bb
 replace bel := next_trans bel bb
 have zw10 := bb.size
 clear bb
 clear cA0_0 cA0_1 cx0_0 cx0_1
 have cA0_0 : w10.cell? ⟨w.heap.size, 0, none⟩ = some (v0_0) := (rA0.next bel).cell 0
 have cA0_1 : w10.cell? ⟨w.heap.size, 1, none⟩ = some (v0_1) := (rA0.next bel).cell 1
 have cx0_0 : w10.cell? ⟨w6.heap.size, 0, none⟩ = some (.slice x0A0 x0n0 x0c0) := (rx0).cell 0
 have cx0_1 : w10.cell? ⟨w6.heap.size, 1, none⟩ = some (.slice x0A1 x0n1 x0c1) := (rx0).cell 1
 go_wp2_with fail
 replace ox0 := ox0.drew
 replace rx0 := rx0.drew
 replace ox1 := ox1.drew
 replace ox2 := ox2.drew
 replace bel := bel.drew
 have zdw10 := (drew_below w10).size
 go_region_held3 (fun w' => w'.cell? ⟨w6.heap.size, 0, none⟩ = some (.slice x0A0 x0n0 x0c0) ∧ w'.cell? ⟨w6.heap.size, 1, none⟩ = some (.slice x0A1 x0n1 x0c1) ∧ w'.cell? ⟨w.heap.size, 0, none⟩ = some (v0_0) ∧ w'.cell? ⟨w.heap.size, 1, none⟩ = some (v0_1))
  (go_keep)
  (first
   | (go_at_call 19; refine (toK_System _ _ d0 _ (s0.next bel) h0.out).mono ?_; rintro e w11 ⟨t0A0, t0n0, t0c0, t0A1, t0n1, t0c1, rfl, ot, bb⟩; replace ox0 := ox0.next bb; replace rx0 := rx0.next bb; replace ox1 := ox1.next bb; replace ox2 := ox2.next bb; replace bel := next_trans bel bb; have k0_0w11 : w11.cell? ⟨w.heap.size, 0, none⟩ = some (v0_0) := (rA0.next bel).cell 0; have k0_1w11 : w11.cell? ⟨w.heap.size, 1, none⟩ = some (v0_1) := (rA0.next bel).cell 1; have l0_0w11 : w11.cell? ⟨w6.heap.size, 0, none⟩ = some (.slice x0A0 x0n0 x0c0) := rx0.cell 0; have l0_1w11 : w11.cell? ⟨w6.heap.size, 1, none⟩ = some (.slice x0A1 x0n1 x0c1) := rx0.cell 1; have zqw11 := bb.size; clear bb)
   | (go_at_call 21; refine (eqK_System _ _ _ _ d0 _ ox0.rd ot.rd h0.out).mono ?_; rintro e w12 ⟨rfl, bb⟩; replace ox0 := ox0.next bb; replace rx0 := rx0.next bb; replace ox1 := ox1.next bb; replace ox2 := ox2.next bb; replace bel := next_trans bel bb; have k0_0w12 : w12.cell? ⟨w.heap.size, 0, none⟩ = some (v0_0) := (rA0.next bel).cell 0; have k0_1w12 : w12.cell? ⟨w.heap.size, 1, none⟩ = some (v0_1) := (rA0.next bel).cell 1; have l0_0w12 : w12.cell? ⟨w6.heap.size, 0, none⟩ = some (.slice x0A0 x0n0 x0c0) := rx0.cell 0; have l0_1w12 : w12.cell? ⟨w6.heap.size, 1, none⟩ = some (.slice x0A1 x0n1 x0c1) := rx0.cell 1; have zqw12 := bb.size; clear bb ot))
 clear k0_0w11 l0_0w11 k0_1w11 l0_1w11 k0_0w12 l0_0w12 k0_1w12 l0_1w12
 clear ox0 rx0
 clear cA0_0 cA0_1 cx0_0 cx0_1
 have cA0_0 : w12.cell? ⟨w.heap.size, 0, none⟩ = some (v0_0) := (rA0.next bel).cell 0
 have cA0_1 : w12.cell? ⟨w.heap.size, 1, none⟩ = some (v0_1) := (rA0.next bel).cell 1
 go_wp2_with fail
 refine (toK_ints _ d1 _ (s1.next bel) h1.out).mono ?_
 rintro e w13 ⟨t1A0, t1n0, t1c0, rfl, ot1, bb⟩
 replace ox1 := ox1.next bb
 replace ox2 := ox2.next bb
 replace bel := next_trans bel bb
 have zw13 := bb.size
 clear bb
 clear cA0_0 cA0_1
 have cA0_0 : w13.cell? ⟨w.heap.size, 0, none⟩ = some (v0_0) := (rA0.next bel).cell 0
 have cA0_1 : w13.cell? ⟨w.heap.size, 1, none⟩ = some (v0_1) := (rA0.next bel).cell 1
 go_wp2_with fail
 refine (eqK_ints _ _ d1 _ ox1.rd ot1.rd h1.out).mono ?_
 rintro e w14 ⟨rfl, bb⟩
 replace ox1 := ox1.next bb
 replace ox2 := ox2.next bb
 replace ot1 := ot1.next bb
 replace bel := next_trans bel bb
 have zw14 := bb.size
 clear bb
 clear ot1 ox1
 clear cA0_0 cA0_1
 have cA0_0 : w14.cell? ⟨w.heap.size, 0, none⟩ = some (v0_0) := (rA0.next bel).cell 0
 have cA0_1 : w14.cell? ⟨w.heap.size, 1, none⟩ = some (v0_1) := (rA0.next bel).cell 1
 go_wp2_with fail
 refine (toK_ints _ d2 _ (s2.next bel) h2.out).mono ?_
 rintro e w15 ⟨t2A0, t2n0, t2c0, rfl, ot2, bb⟩
 replace ox2 := ox2.next bb
 replace bel := next_trans bel bb
 have zw15 := bb.size
 clear bb
 clear cA0_0 cA0_1
 have cA0_0 : w15.cell? ⟨w.heap.size, 0, none⟩ = some (v0_0) := (rA0.next bel).cell 0
 have cA0_1 : w15.cell? ⟨w.heap.size, 1, none⟩ = some (v0_1) := (rA0.next bel).cell 1
 go_wp2_with fail
 refine (eqK_ints _ _ d2 _ ox2.rd ot2.rd h2.out).mono ?_
 rintro e w16 ⟨rfl, bb⟩
 replace ox2 := ox2.next bb
 replace ot2 := ot2.next bb
 replace bel := next_trans bel bb
 have zw16 := bb.size
 clear bb
 clear ot2 ox2
 clear cA0_0 cA0_1
 have cA0_0 : w16.cell? ⟨w.heap.size, 0, none⟩ = some (v0_0) := (rA0.next bel).cell 0
 have cA0_1 : w16.cell? ⟨w.heap.size, 1, none⟩ = some (v0_1) := (rA0.next bel).cell 1
 have F := hid (bW.trans (bel.mono bW.size))
 clear bel bW cA0_0 cA0_1
 go_wp2
 go_ret
 exact ⟨rfl, F.out⟩
end wParallelTo
end
section
namespace openX
open Go.ChangeShapes Go.WideShapes Go.ChangeAt Go.RowKit base segs shape
def Wf : (s : Sh) → Dat s → Prop
 | .num, (x : Int) => -9223372036854775808 ≤ x ∧ x ≤ 9223372036854775807
 | .bit, _ => True
 | .row _ s, (d : List (Dat s)) => ∀ j, j < d.length → Wf s (d.getD j (dft s))
 | .cat a b, d => Wf a d.1 ∧ Wf b d.2
mutual
def fitsB (P : Program) : Nat → Sh → TypeId → Bool
 | 0, _, _ => false
 | n + 1, s, t => match P.underlying t with
  | some (.struct fs) => P.cellsOf t == nc s && fitsL P n fs.toList 0 s
  | some (.int .i64) => match s with | .num => true | _ => false
  | some .bool => match s with | .bit => true | _ => false
  | some (.slice e) => match s with | .row _ s' => P.cellsOf e == nc s' && fitsB P n s' e | _ => false
  | _ => false
def fitsL (P : Program) : Nat → List Field → Nat → Sh → Bool
 | 0, _, _, _ => false
 | _ + 1, [], _, _ => false
 | n + 1, [f], k, s => f.offset == k && (P.cellsOf f.type == nc s && fitsB P n s f.type)
 | n + 1, f :: g :: fs, k, s => match s with | .cat a b => f.offset == k && (P.cellsOf f.type == nc a && (fitsB P n a f.type && fitsL P n (g :: fs) (k + nc a) b)) | _ => false
end
section
variable {H : Type} {enc : TypeId × Value → H} {P : Program} {w : World} {held : Bool}
theorem addr_add {b off i : Nat} : (⟨b, off, none⟩ : Addr).add i = ⟨b, off + i, none⟩ := by unfold Addr.add; split <;> simp_all
theorem rd_trod : ∀ n : Nat, (∀ (s : Sh) (t : TypeId) (fuel : Nat) (cs : List Value) (x : DataW H × List MemPlace), fitsB P n s t = true → DataW.trod enc P w 0 (fun _ => true) held fuel t cs = some x → ∃ d, Rd w w.heap.size s cs d ∧ Wf s d) ∧
  (∀ (fs : List Field) (k : Nat) (s : Sh) (cs : List Value) (m : Nat), fitsL P n fs k s = true → (∀ (i : Nat) (f : Field), fs[i]? = some f → ∃ x, DataW.trod enc P w 0 (fun _ => true) held m f.type ((cs.drop f.offset).take (P.cellsOf f.type)) = some x) →
   ∃ d, Rd w w.heap.size s ((cs.drop k).take (nc s)) d ∧ Wf s d) := by
 intro n
 induction n with
 | zero => exact ⟨fun _ _ _ _ _ h => by simp [fitsB] at h, fun _ _ _ _ _ h => by simp [fitsL] at h⟩
 | succ n ih =>
  refine ⟨fun s t fuel cs x hf h => ?_, fun fs k s cs m hf h => ?_⟩
  ·unfold fitsB at hf
   split at hf
   ·rename_i fs hu
    simp only [Bool.and_eq_true, beq_iff_eq] at hf
    obtain ⟨xs, n', hfu, hx, hlen, hxl, hg⟩ := DataW.trod_struct hu h
    obtain ⟨d, hr, hw⟩ := ih.2 fs.toList 0 s cs n' hf.2 (fun i f hi => by
     have hi' : fs[i]? = some f := by simpa using hi
     have h1 := hg i f hi'
     have hlt : i < fs.size := (Array.getElem?_eq_some_iff.1 hi').1
     exact ⟨xs[i]'(by omega), by rw [h1]; exact List.getElem?_eq_getElem (by omega)⟩)
    rw [List.drop_zero, List.take_of_length_le (by omega)] at hr
    exact ⟨d, hr, hw⟩
   ·rename_i hu
    split at hf
    ·obtain ⟨z, e1, _, hw⟩ := DataW.trod_int hu h
     refine ⟨z, e1, ?_⟩
     show -9223372036854775808 ≤ z ∧ z ≤ 9223372036854775807
     simpa [Lit.wf, IntKind.min, IntKind.max, IntKind.signed, IntKind.bits] using hw
    ·cases hf
   ·rename_i hu
    split at hf
    ·obtain ⟨z, e1, _⟩ := DataW.trod_bool hu h
     exact ⟨z, e1, trivial⟩
    ·cases hf
   ·rename_i e hu
    split at hf
    ·rename_i e0 s'
     simp only [Bool.and_eq_true, beq_iff_eq] at hf
     rcases Go.Deep.open_slice hu h with ⟨hcs, _⟩ | ⟨a, len, cap, m, n', D, Pl, hcs, _, hl, hm, hmm, _, hi⟩
     ·exact ⟨[], ⟨none, 0, 0, hcs, ⟨by omega, by omega, fun _ => rfl⟩, rfl, fun h => absurd h (by omega)⟩, fun j hj => absurd hj (Nat.not_lt_zero _)⟩
     ·have hmc : m = cap := by simpa using hmm
      subst hmc
      have hd : ∀ j, j < len → ∃ (es : List Value) (dj : Dat s'), es.length = nc s' ∧ (∀ i, i < nc s' → w.cell? ((a.add (j * nc s')).add i) = es[i]?) ∧ Rd w w.heap.size s' es dj ∧ Wf s' dj := fun j hj => by
       obtain ⟨cs', hc, ht⟩ := hi j (by omega)
       obtain ⟨dj, hr, hw⟩ := ih.1 s' e n' cs' _ hf.2 ht
       rw [hf.1] at hc
       obtain ⟨_, hcl, hat⟩ := World.cells?_some hc
       exact ⟨cs', dj, hcl, hat, hr, hw⟩
      have hspot : 0 < len → a.spot = none := fun h0 => by
       obtain ⟨es, dj, h1, h2, _⟩ := hd 0 h0
       have hp := nc_pos s'
       have h3 := h2 0 (by omega)
       rw [List.getElem?_eq_getElem (by omega)] at h3
       have := World.cell?_spot h3
       simpa [Addr.add] using this
      obtain ⟨ds, hdl, hds⟩ : ∃ ds : List (Dat s'), ds.length = len ∧ ∀ j, j < len → ∃ es : List Value, es.length = nc s' ∧ (∀ i, i < nc s' → w.cell? ((a.add (j * nc s')).add i) = es[i]?) ∧ Rd w w.heap.size s' es (ds.getD j (dft s')) ∧ Wf s' (ds.getD j (dft s')) := by
       refine ⟨(List.range len).map fun j => if hj : j < len then Classical.choose (Classical.choose_spec (hd j hj)) else dft s', by simp, fun j hj => ?_⟩
       refine ⟨Classical.choose (hd j hj), ?_⟩
       have h1 := Classical.choose_spec (Classical.choose_spec (hd j hj))
       have e1 : ((List.range len).map fun j => if hj : j < len then Classical.choose (Classical.choose_spec (hd j hj)) else dft s').getD j (dft s') = Classical.choose (Classical.choose_spec (hd j hj)) := by simp [List.getD, hj]
       rw [e1]
       exact h1
      refine ⟨ds, ⟨some a, len, m, hcs, ⟨hl, by unfold maxLen at hm; omega, fun e => by cases e⟩, hdl, fun h0 => ?_⟩, fun j hj => by
       obtain ⟨es, _, _, _, hw⟩ := hds j (by rw [← hdl]; exact hj)
       exact hw⟩
      obtain ⟨b, off, spot⟩ := a
      have hs := hspot h0
      simp only at hs
      subst hs
      refine ⟨b, off, rfl, ?_, fun j hj => ?_⟩
      ·obtain ⟨es, h1, h2, _⟩ := hds 0 h0
       have hp := nc_pos s'
       have h3 := h2 0 (by omega)
       rw [List.getElem?_eq_getElem (by omega)] at h3
       have h4 := World.block_lt_of_cell? _ _ h3
       simpa [addr_add] using h4
      ·obtain ⟨es, h1, h2, h3, _⟩ := hds j hj
       refine ⟨es, h1, fun i hi2 => ?_, h3⟩
       have := h2 i (by omega)
       rw [addr_add, addr_add] at this
       exact this
    ·cases hf
   ·cases hf
  ·match fs, hf, h with
   | [], hf, _ => simp [fitsL] at hf
   | [f], hf, h =>
    unfold fitsL at hf
    simp only [Bool.and_eq_true, beq_iff_eq] at hf
    obtain ⟨h1, h2, h3⟩ := hf
    obtain ⟨x, hx⟩ := h 0 f rfl
    rw [h1, h2] at hx
    exact ih.1 s f.type m _ x h3 hx
   | f :: g :: fs, hf, h =>
    cases s with
    | cat a b =>
     unfold fitsL at hf
     simp only [Bool.and_eq_true, beq_iff_eq] at hf
     obtain ⟨h1, h2, h3, h4⟩ := hf
     obtain ⟨x, hx⟩ := h 0 f rfl
     rw [h1, h2] at hx
     obtain ⟨d1, r1, w1⟩ := ih.1 a f.type m _ x h3 hx
     obtain ⟨d2, r2, w2⟩ := ih.2 (g :: fs) (k + nc a) b cs m h4 (fun i f' hi => h (i + 1) f' hi)
     refine ⟨(d1, d2), ⟨_, _, ?_, r1, r2⟩, w1, w2⟩
     show List.take (nc a + nc b) (List.drop k cs) = _
     rw [List.take_add, List.drop_drop]
    | num => simp [fitsL] at hf
    | bit => simp [fitsL] at hf
    | row e s' => simp [fitsL] at hf
theorem open_val {s : Sh} {t : TypeId} {v : Value} {d : DataW H} {p : List MemPlace} {n : Nat} (hf : fitsB P n s t = true) (h : DataW.Trod enc P w 0 (fun _ => true) held t v d p) : ∃ x, Rd w w.heap.size s v.cells.toList x ∧ Wf s x := by
 obtain ⟨fuel, hfu⟩ := h
 exact (rd_trod n).1 s t fuel _ _ hf hfu
end
end openX
end
end Go.Proofs.Ytjfpejohpjaahaa
