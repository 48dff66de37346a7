/-
  MERGED: my texts Take, Extended, HeldT, StepImpl, AnyR, RuleImpl, RuleImplB, StepImplB, PathSpec, WayTo, one behind the other, as they are. By an AI agent.
-/
import Derived.Test.YtlaloakegajheaaGreatMFnExactPeakUnder4
import Derived.Deep.RegionHeld3
import Derived.OrdersHeld
import Derived.Deep.RegionHeld
import Derived.Deep.WholeRow
import Derived.Shelf.Abstract
import Derived.Deep.LoopGhost
namespace Go.Proofs.YtlaloakegajheaaGreat
section
open Go.Lib (hid)
namespace take
open Go.RowKit base ints sig same term termOk endAt marks app sym sub segs termFacts termMath posMath cursor matchMath matchSpec whole takeMath curO
set_option maxRecDepth 100000
theorem set_same {s : List (List Int)} {v : Nat} {ys : List Int} (h : s.getD v [] = ys) (hv : v < s.length) : s.set v ys = s := by
 refine List.ext_getElem (by simp) fun i h1 h2 => ?_
 rw [List.getElem_set]
 split
 ·rename_i e
  subst e
  rw [← h]
  simp [List.getD, hv]
 ·rfl
structure Tk (w : World) (g : Nat) (A : Option Addr) (n c : Nat) (Q : Option Addr) (m mc : Nat) (sg t : List Int) (k : Nat) (s : List (List Int)) : Prop where
 row : Row w (g + 1) 181 #[.slice A n c, .slice Q m mc, .int .i64 k]
 tab : ∃ cs, Row w g 240 cs ∧ TabR w g cs s
 ss : Seg w g A n sg
 st : Seg w g Q m t
 le : k ≤ m
 hn : n ≤ 1048576
 hm : m ≤ 1048576
 ars : Arities sg
 hs : ∀ j, (s.getD j []).length ≤ m
section
variable {w w' : World} {g : Nat} {A : Option Addr} {n c : Nat} {Q : Option Addr} {m mc : Nat} {sg t : List Int} {k k' : Nat} {s : List (List Int)}
theorem Tk.cur (h : Tk w g A n c Q m mc sg t k s) : Cur w (g + 1) A n c Q m mc sg t k := ⟨h.row, h.ss.more (Nat.le_succ _), h.st.more (Nat.le_succ _), h.le, h.hn, h.hm, h.ars⟩
theorem Tk.lt (h : Tk w g A n c Q m mc sg t k s) : g + 1 < w.heap.size := h.row.lt
theorem keep_of {B : Nat} {r : Option Nat} (hg : w.grownBy w' r) (hB : B ≤ w.heap.size) (hr : ∀ k, r = some k → B ≤ k) : ∀ p : Addr, p.block < B → w'.cell? p = w.cell? p :=
 fun q hq => World.cell?_of_block (hg.block q.block (by omega) (fun e => by have := hr _ e.symm; omega))
theorem Tk.move (h : Tk w g A n c Q m mc sg t k s) (hg : w.grownBy w' (some (g + 1))) (hr : Row w' (g + 1) 181 #[.slice A n c, .slice Q m mc, .int .i64 k']) (hk : k' ≤ m) : Tk w' g A n c Q m mc sg t k' s := by
 have hl := h.lt
 have hk0 := keep_of (B := g) hg (by omega) (fun k e => by injection e; omega)
 obtain ⟨cs, h1, h2⟩ := h.tab
 refine ⟨hr, ⟨cs, (hg.block g (by omega) (fun e => by injection e; omega)).trans h1, h2.keep hk0⟩, h.ss.keep hk0, h.st.keep hk0, hk, h.hn, h.hm, h.ars, h.hs⟩
theorem Tk.drewN (h : Tk w g A n c Q m mc sg t k s) (d : Nat) : Tk (w.drewN d) g A n c Q m mc sg t k s := ⟨h.row, h.tab, h.ss, h.st, h.le, h.hn, h.hm, h.ars, h.hs⟩
theorem Tk.put (h : Tk w g A n c Q m mc sg t k s) {j : Nat} (hj : j < 24) {D : Option Addr} {dn dc : Nat} {ys : List Int} (hs : Seg w g D dn ys) (hc : Cap D dn dc) (hl : ys.length ≤ m) :
  Tk (w.setCell ⟨g, j, none⟩ (.slice D dn dc)) g A n c Q m mc sg t k (s.set j ys) := by
 have hlt := h.lt
 have hg : w.grownBy (w.setCell ⟨g, j, none⟩ (.slice D dn dc)) (some g) := grown_put (World.grownBy.refl _ _) _ _
 have hk0 := keep_of (B := g) hg (by omega) (fun k e => by injection e; omega)
 obtain ⟨cs, h1, h2⟩ := h.tab
 exact ⟨h.row.far (show g + 1 ≠ g by omega) _, ⟨_, h1.put j _, (h2.put hj hs hc).keep hk0⟩, h.ss.keep hk0, h.st.keep hk0, h.le, h.hn, h.hm, h.ars, fun i => by rw [set_get]; split; exact hl; exact h.hs i⟩
theorem Tk.held (h : Tk w g A n c Q m mc sg t k s) {j : Nat} (hj : j < 24) : ∃ D dn dc, w.cell? ⟨g, j, none⟩ = some (.slice D dn dc) ∧ Seg w g D dn (s.getD j []) ∧ w.frozen? ⟨g, j, none⟩ = false := by
 obtain ⟨cs, h1, h2⟩ := h.tab
 obtain ⟨D, dn, dc, e, hs, _⟩ := h2.2.2 j hj
 exact ⟨D, dn, dc, by rw [h1.cell j, e], hs, h1.free j⟩
theorem Tk.len (h : Tk w g A n c Q m mc sg t k s) : s.length = 24 := by obtain ⟨cs, h1, h2⟩ := h.tab; exact h2.2.1
end
theorem btw_drewN (lo hi : Nat) (w : World) (d : Nat) : Btw lo hi w (w.drewN d) := ⟨rfl, rfl, rfl, Nat.le_refl _, fun _ _ _ => rfl⟩
def AnsTake (w : World) (g : Nat) (A : Option Addr) (n c : Nat) (Q : Option Addr) (m mc : Nat) (sg t : List Int) (k : Nat) (s : List (List Int)) (x : Int) (e : Ending) (w' : World) : Prop :=
 Btw g (g + 2) w w' ∧ ((∃ k' s', e = .returned (.bool true) ∧ Tk w' g A n c Q m mc sg t k' s' ∧ ((0 ≤ x ∧ t.getD k 0 = x ∧ k' = k + 1) ∨ (x < 0 ∧ k' = k + (subL sg t k).length)) ∧ ∀ r, mst sg t (x :: r) k s = mst sg t r k' s') ∨
  (e = .returned (.bool false) ∧ ∀ r, mst sg t (x :: r) k s = none))
set_option maxHeartbeats 1000000 in
theorem take (g : Nat) (A Q : Option Addr) (n c m mc : Nat) (sg t : List Int) (k : Nat) (s : List (List Int)) (x : Int) (w : World) (h : Tk w g A n c Q m mc sg t k s) (hk : k < m) (hmc : m ≤ mc) (hmc2 : mc ≤ 9223372036854775807) (hx : -24 ≤ x) (hok : termOkB sg t = true) :
  Calls Tryz.prog 218 #[.pointer (some ⟨g, 0, none⟩), .int .i64 x, .pointer (some ⟨g + 1, 0, none⟩)] w (AnsTake w g A n c Q m mc sg t k s x) := by
 have HT := hid hok
 have HL := hid h.st.1
 have hkt : ¬ t.length ≤ k := by rw [HL.out]; omega
 have hm := h.hm
 have c1 : w.cell? ⟨g + 1, 1, none⟩ = some (.slice Q m mc) := h.row.cell 1
 have c2 : w.cell? ⟨g + 1, 2, none⟩ = some (.int .i64 k) := h.row.cell 2
 have f2 : w.frozen? ⟨g + 1, 2, none⟩ = false := h.row.free 2
 obtain ⟨b, off, y, rfl, hbb, hy, ey⟩ := h.st.spot hk
 have i0 : (0 : Int) ≤ (k : Int) := by omega
 have i1 : (k : Int) < (m : Int) := by omega
 clear hok
 by_cases hx0 : 0 ≤ x
 ·have g0 : w.grownBy (w.setCell ⟨g + 1, 2, none⟩ (.int .i64 ((k : Int) + 1))) (some (g + 1)) := grown_put (World.grownBy.refl _ _) _ _
  have r0 := h.row.put 2 (.int .i64 ((k : Int) + 1))
  have er : (.int .i64 ((k : Int) + 1) : Value) = .int .i64 ((k + 1 : Nat) : Int) := by simp
  have r1 := r0
  rw [er] at r1
  have M := hid (h.move (k' := k + 1) g0 (by rw [← er] at r1; rw [← er]; exact r0) hk)
  clear r0 r1 er
  have B := hid (Btw.of_grown (lo := g) (hi := g + 2) g0 (fun k e => by injection e; omega))
  have hy1 : (w.setCell ⟨g + 1, 2, none⟩ (.int .i64 ((k : Int) + 1))).cell? ⟨b, off + k, none⟩ = some (.int .i64 y) := (World.cell?_setCell_far w ⟨g + 1, 2, none⟩ ⟨b, off + k, none⟩ _ (by show g + 1 ≠ b; omega)).trans hy
  by_cases hxy : x = y
  ·subst hxy
   have F := fun d => (show AnsTake w g A n c (some ⟨b, off, none⟩) m mc sg t k s x (.returned (.bool true)) ((w.setCell ⟨g + 1, 2, none⟩ (.int .i64 ((k : Int) + 1))).drewN d) from
    ⟨B.out.trans (btw_drewN _ _ _ d), .inl ⟨k + 1, s, rfl, M.out.drewN d, .inl ⟨hx0, ey.out, rfl⟩, fun r => mst_sym hkt hx0 ey.out.symm⟩⟩)
   have HF := hid F
   clear F M B g0 h ey
   go_enter Tryz.func218, Tryz.ntmps218
   go_wp2
   go_quiet (fail)
   go_wp2
   go_ret
   exact HF.out _
  ·have hd : (y == x) = false := by simp; exact fun e => hxy e.symm
   have F := fun d => (show AnsTake w g A n c (some ⟨b, off, none⟩) m mc sg t k s x (.returned (.bool false)) ((w.setCell ⟨g + 1, 2, none⟩ (.int .i64 ((k : Int) + 1))).drewN d) from
    ⟨B.out.trans (btw_drewN _ _ _ d), .inr ⟨rfl, fun r => mst_symNo hkt hx0 (by rw [ey.out]; exact hxy)⟩⟩)
   have HF := hid F
   clear F M B g0 h ey
   go_enter Tryz.func218, Tryz.ntmps218
   go_wp2
   go_quiet (fail)
   go_wp2
   go_ret
   exact HF.out _
 ·obtain ⟨v, hv⟩ : ∃ v : Nat, x = -1 - (v : Int) := ⟨(-1 - x).toNat, by omega⟩
  subst hv
  have hv24 : v < 24 := by omega
  have HVR := hid (show vr (-1 - (v : Int)) = v by unfold vr; omega)
  obtain ⟨t1, t2, t3⟩ := term_at HT.out (show k < t.length by rw [HL.out]; exact hk)
  rw [HL.out] at t3
  obtain ⟨j, hj⟩ : ∃ j, len1 sg t k = j := ⟨_, rfl⟩
  have hsl := (sub_len1 HT.out (show k < t.length by rw [HL.out]; exact hk)).1
  have hsub : subL sg t k = (t.drop k).take j := by unfold subL; rw [hj]
  rw [hj] at t1 t2 t3 hsl
  obtain ⟨ys, hys⟩ : ∃ ys, subL sg t k = ys := ⟨_, rfl⟩
  rw [hys] at hsl hsub
  have HYS := hid hys
  have HSUB := hid hsub
  have HSL := hid hsl
  have T1 := hid t1
  have C := hid h.cur
  have HH := hid h
  have HKT := hid hkt
  have a1 : (k : Int) ≤ (k : Int) + (j : Int) := by omega
  have a2 : (k : Int) + (j : Int) ≤ (mc : Int) := by omega
  have a3 : ¬ mc = k := by omega
  have a4 : k + j ≤ mc := by omega
  have w1 : IntKind.i64.wrap (-1 - (-1 - (v : Int))) = (v : Int) := by rw [IntKind.wrap_i64]; omega
  have w2 : IntKind.i64.wrap (v : Int) = (v : Int) := by rw [IntKind.wrap_i64]; omega
  have j0 : (0 : Int) ≤ (v : Int) := by omega
  have j1 : (v : Int) < 24 := by omega
  clear hj hys hsub hsl t1 hy ey f2 hkt h
  go_enter Tryz.func218, Tryz.ntmps218
  have C2 := hid (C.out.drewN 1)
  go_wp2_with fail
  go_region_held3 (fun _ => True) (trivial)
   (first
    | (go_at_call 219; refine (partC (g + 1) A n c b off m mc sg t k j w.drew C2.out T1.out t3 t2 hmc hmc2).mono ?_; rintro e w3 ⟨rfl, hg0, hc⟩))
  ·have hg : w.grownBy w3 (some (g + 1)) := grown_trans (World.grownBy.refl w _) ⟨hg0.os, hg0.tape, hg0.output, hg0.size, hg0.block⟩
   have M := HH.out.move hg hc.row t3
   have b3 := Btw.of_grown (lo := g) (hi := g + 2) hg (fun k e => by injection e; omega)
   obtain ⟨D, dn, dc, ch, sh, fh⟩ := M.held hv24
   obtain ⟨os, hos⟩ : ∃ os, s.getD v [] = os := ⟨_, rfl⟩
   have hdn : dn ≤ 1048576 := by rw [← sh.1]; exact Nat.le_trans (M.hs v) hm
   rw [hos] at sh
   have HOS := hid hos
   have HSH := hid sh
   have HM := hid M
   have HB := hid b3
   have cut := hid (Seg.cut (a := k) (j := j) M.st t3)
   clear hc hg hg0 hos sh b3 M C C2 c1 c2
   have HC := hid (show Cap (some ⟨b, off + k, none⟩) j (mc - k) from ⟨by omega, by omega, fun e => by cases e⟩)
   have hj60 : j ≤ 1048576 := by omega
   have HJ := hid (show 1 ≤ j from t2)
   by_cases hd0 : dn = 0
   ·subst hd0
    have hno : ¬ ((s.getD (vr (-1 - (v : Int))) []).length ≠ 0 ∧ s.getD (vr (-1 - (v : Int))) [] ≠ subL sg t k) := by
     rw [HVR.out, HOS.out, HSH.out.1]
     exact fun e => e.1 rfl
    have R := hid (fun r => mst_var (sg := sg) (r := r) HKT.out (show ¬ 0 ≤ -1 - (v : Int) by omega) hno)
    have P := hid (HM.out.put (j := v) (D := some ⟨b, off + k, none⟩) (dn := j) (dc := mc - k) (ys := ys) hv24 (by rw [HSUB.out]; exact cut.out) HC.out (by rw [HSL.out]; omega))
    have BP := hid (HB.out.trans (Btw.of_grown (lo := g) (hi := g + 2) (grown_put (World.grownBy.refl w3 (some g)) v (.slice (some ⟨b, off + k, none⟩) j (mc - k))) (fun k e => by injection e; omega)))
    have ce := World.cell?_setCell_same w3 ⟨g, v, none⟩ (.slice (some ⟨b, off + k, none⟩) j (mc - k)) (show w3.cell? ⟨g, v, none⟩ = some (.slice D 0 dc) from ch)
    have PS := hid (show Seg (w3.setCell ⟨g, v, none⟩ (.slice (some ⟨b, off + k, none⟩) j (mc - k))) (w3.setCell ⟨g, v, none⟩ (.slice (some ⟨b, off + k, none⟩) j (mc - k))).heap.size (some ⟨b, off + k, none⟩) j ys from by
     have q := cut.out.put (p := ⟨g, v, none⟩) (Nat.le_refl _) (.slice (some ⟨b, off + k, none⟩) j (mc - k))
     rw [← HSUB.out] at q
     exact q.more (by have := P.out.lt; omega))
    clear HM HB hno
    go_wp2_with fail
    refine (implSame _ _ j j _ _ ys ys _ PS.out PS.out hj60 hj60).mono ?_
    rintro e w5 ⟨rfl, d, rfl⟩
    rw [decide_eq_true (show ys = ys from rfl)]
    have F : AnsTake w g A n c (some ⟨b, off, none⟩) m mc sg t k s (-1 - (v : Int)) (.returned (.bool true)) ((w3.setCell ⟨g, v, none⟩ (.slice (some ⟨b, off + k, none⟩) j (mc - k))).drewN d) :=
     ⟨BP.out.trans (btw_drewN _ _ _ d), .inl ⟨k + j, s.set v ys, rfl, P.out.drewN d, .inr ⟨by omega, by rw [HYS.out, HSL.out]⟩, fun r => by rw [R.out r, HVR.out, HYS.out, HSL.out]⟩⟩
    have HF := hid F
    clear F R P BP ce PS cut
    go_wp2
    go_ret
    exact HF.out
   ·have hdz : ((dn : Int) == 0) = false := by simp; omega
    have hwg := hid (show g ≤ w3.heap.size by have := HM.out.lt; omega)
    have PS := hid (show Seg w3 w3.heap.size (some ⟨b, off + k, none⟩) j ys from by
     have q := cut.out
     rw [← HSUB.out] at q
     exact q.more hwg.out)
    have PO := hid (show Seg w3 w3.heap.size D dn os from HSH.out.more hwg.out)
    by_cases hoy : os = ys
    ·have hno : ¬ ((s.getD (vr (-1 - (v : Int))) []).length ≠ 0 ∧ s.getD (vr (-1 - (v : Int))) [] ≠ subL sg t k) := by
      rw [HVR.out, HOS.out, HYS.out]
      exact fun e => e.2 hoy
     have R := hid (fun r => mst_var (sg := sg) (r := r) HKT.out (show ¬ 0 ≤ -1 - (v : Int) by omega) hno)
     have SS := hid (show s.set v ys = s from set_same (HOS.out.trans hoy) (by rw [HM.out.len]; exact hv24))
     have DS := hid (decide_eq_true hoy)
     clear cut hno hoy
     go_wp2_with fail
     refine (implSame _ _ dn j _ _ os ys _ PO.out PS.out hdn hj60).mono ?_
     rintro e w5 ⟨rfl, d, rfl⟩
     rw [DS.out]
     have F : AnsTake w g A n c (some ⟨b, off, none⟩) m mc sg t k s (-1 - (v : Int)) (.returned (.bool true)) (w3.drewN d) :=
      ⟨HB.out.trans (btw_drewN _ _ _ d), .inl ⟨k + j, s, rfl, HM.out.drewN d, .inr ⟨by omega, by rw [HYS.out, HSL.out]⟩, fun r => by rw [R.out r, HVR.out, HYS.out, HSL.out, SS.out]⟩⟩
     have HF := hid F
     clear F R SS DS PS PO HM HB
     go_wp2
     go_ret
     exact HF.out
    ·have hyes : (s.getD (vr (-1 - (v : Int))) []).length ≠ 0 ∧ s.getD (vr (-1 - (v : Int))) [] ≠ subL sg t k := by
      rw [HVR.out, HOS.out, HYS.out]
      exact ⟨by rw [HSH.out.1]; exact hd0, hoy⟩
     have R := hid (fun r => mst_varNo (sg := sg) (r := r) HKT.out (show ¬ 0 ≤ -1 - (v : Int) by omega) hyes)
     have DS := hid (decide_eq_false hoy)
     clear cut hyes hoy
     go_wp2_with fail
     refine (implSame _ _ dn j _ _ os ys _ PO.out PS.out hdn hj60).mono ?_
     rintro e w5 ⟨rfl, d, rfl⟩
     rw [DS.out]
     have F : AnsTake w g A n c (some ⟨b, off, none⟩) m mc sg t k s (-1 - (v : Int)) (.returned (.bool false)) (w3.drewN d) :=
      ⟨HB.out.trans (btw_drewN _ _ _ d), .inr ⟨rfl, R.out⟩⟩
     have HF := hid F
     clear F R DS PS PO HM HB
     go_wp2
     go_ret
     exact HF.out
end take
end
section
open Go.Lib (hid)
namespace extended
open Go.RowKit base ints sig same term termOk endAt marks app sym sub segs termFacts termMath posMath cursor matchMath matchSpec whole takeMath take segsHelp kinds plainMath plain plainOf gives Go.Proofs.YtlaloakegajheaaGreat.look fillMath
set_option maxRecDepth 100000
def AnsExt (w : World) (R : Option (List (List Int))) (e : Ending) (w' : World) : Prop :=
 ∃ cs, e = .returned (.tuple #[.agg cs, .bool R.isSome]) ∧ TabR w' w.heap.size cs (R.getD s0) ∧ (∀ j, ((R.getD s0).getD j []).length ≤ 60) ∧ Below w.heap.size w w'
def HeadX (w : World) (A : Option Addr) (n c : Nat) (Q : Option Addr) (m mc : Nat) (sg t : List Int) (P : Option Addr) (pn : Nat) (p : List Int) (R : Option (List (List Int))) (i : Value) (wr : World) : Prop :=
 ∃ (j k : Nat) (s : List (List Int)), i = .int .i64 j ∧ j ≤ pn ∧ Tk wr w.heap.size A n c Q m mc sg t k s ∧ Row wr (w.heap.size + 1 + 1) 240 z24 ∧ Seg wr w.heap.size P pn p ∧ Below w.heap.size w wr ∧ Sync sg p t j k ∧ mst sg t (p.drop j) k s = R
theorem seg_btw {w w' : World} {lo hi : Nat} {A : Option Addr} {n : Nat} {xs : List Int} (h : Seg w lo A n xs) (hb : Btw lo hi w w') (hl : lo ≤ w.heap.size) : Seg w' lo A n xs :=
 h.keep fun p hp => World.cell?_of_block (hb.block p.block (by omega) (.inl hp))
set_option maxHeartbeats 1000000 in
theorem extended (A P Q : Option Addr) (n c pn pc m mc : Nat) (sg p t : List Int) (at_ : Nat) (cs : Array Value) (s : List (List Int)) (w : World) (h : Seg w w.heap.size A n sg) (hp : Seg w w.heap.size P pn p) (ht : Seg w w.heap.size Q m t)
  (hn : n ≤ 1048576) (hpn : pn ≤ 60) (hm : m ≤ 60) (hmc : m ≤ mc) (hmc2 : mc ≤ 9223372036854775807) (hat : at_ < m) (hokp : termOkB sg p = true) (hokt : termOkB sg t = true) (htab : TabR w w.heap.size cs s) (hs : ∀ j, (s.getD j []).length ≤ m) :
  Calls Tryz.prog 217 #[.agg cs, .slice P pn pc, .agg #[.slice A n c, .slice Q m mc, .int .i64 (at_ : Int)]] w (AnsExt w (mst sg t p at_ s)) := by
 obtain ⟨W, hW⟩ : ∃ W, W = ((w.alloc (.cells cs 240)).alloc (.cells #[.slice A n c, .slice Q m mc, .int .i64 (at_ : Int)] 181)).alloc (.cells z24 240) := ⟨_, rfl⟩
 have b0 : Below w.heap.size w W := by rw [hW]; exact (((Below.refl _ _).alloc (Nat.le_refl _) _).alloc (by simp) _).alloc (by simp; omega) _
 have r0 : Row W w.heap.size 240 cs := by rw [hW]; exact ((Row.new w _ _).alloc _).alloc _
 have r1 : Row W (w.heap.size + 1) 181 #[.slice A n c, .slice Q m mc, .int .i64 (at_ : Int)] := by
  rw [hW]
  have := (Row.new (w.alloc (.cells cs 240)) 181 #[.slice A n c, .slice Q m mc, .int .i64 (at_ : Int)]).alloc (.cells z24 240)
  simpa using this
 have r2 : Row W (w.heap.size + 1 + 1) 240 z24 := by
  rw [hW]
  have := Row.new ((w.alloc (.cells cs 240)).alloc (.cells #[.slice A n c, .slice Q m mc, .int .i64 (at_ : Int)] 181)) 240 z24
  simpa using this
 have HX : HeadX w A n c Q m mc sg t P pn p (mst sg t p at_ s) (.int .i64 0) W :=
  ⟨0, at_, s, rfl, Nat.zero_le _, ⟨r1, ⟨cs, r0, htab.below b0⟩, h.below b0, ht.below b0, Nat.le_of_lt hat, hn, by omega, (sig_arities (termOk_parts hokt).1).1, hs⟩, r2, hp.below b0, b0, Sync.start hokp hokt (by rw [ht.1]; exact hat), by rw [List.drop_zero]⟩
 have HH := hid HX
 have HW := hid hW
 have HT := hid hokt
 have HL := hid ht.1
 have HPL := hid hp.1
 have HPM : Hid (∀ i, i < pn → -24 ≤ p.getD i 0) := hid (fun i hi => (term_num hokp (by rw [hp.1]; exact hi)).1)
 generalize mst sg t p at_ s = R at *
 clear hW HX r0 r1 r2 b0 htab hs hokt hokp h hp ht
 go_enter Tryz.func217, Tryz.ntmps217
 go_wp2_with (first
  | (refine rowBox rfl 240 _ rfl cs rfl ?_)
  | (refine rowAlloc rfl 240 rfl z24 zero_b ?_))
 rw [← HW.out]
 go_loopw [12] (fun i wr => HeadX w A n c Q m mc sg t P pn p R i wr) (fun i _ => pn - (intOf i).toNat)
 case atStart => exact HH.out
 case round =>
  obtain ⟨j, k, s, rfl, hj, M, r2, sp, hb, hsy, hm1⟩ := hrel
  clear HH
  have HM1 := hid hm1
  have HSY := hid hsy
  clear hm1 hsy
  by_cases hlt : j < pn
  ·obtain ⟨bp, op, x, rfl, hbp, hx, ex⟩ := sp.spot hlt
   have hx24 : -24 ≤ x := by rw [← ex.out]; exact HPM.out j hlt
   have hkm : k < m := by have := HSY.out.lt (by rw [HPL.out]; exact hlt); rw [HL.out] at this; exact this
   have HD := hid (show p.drop j = x :: p.drop (j + 1) by rw [drop_cons (by rw [HPL.out]; exact hlt), ex.out])
   have LT := hid (take w.heap.size A Q n c m mc sg t k s x wr M hkm hmc hmc2 hx24 HT.out)
   have gl := M.lt
   have HR := hid r2
   have HB := hid hb
   have HP := hid sp
   clear M r2 hb sp
   go_wp2_with fail
   refine LT.out.mono ?_
   rintro e w2 ⟨bb, ⟨k', s', rfl, M, hmv, hr⟩ | ⟨rfl, hr⟩⟩
   ·have hsync : Sync sg p t (j + 1) k' := by
     rcases hmv with ⟨h0, h1, rfl⟩ | ⟨h0, rfl⟩
     ·exact HSY.out.sym (by rw [HPL.out]; exact hlt) ex.out h1
     ·exact HSY.out.var (by rw [HPL.out]; exact hlt) ex.out hx24 h0 HT.out
    have S : HeadX w A n c Q m mc sg t (some ⟨bp, op, none⟩) pn p R (.int .i64 ((j : Int) + 1)) w2 :=
     ⟨j + 1, k', s', by simp, hlt, M, segs.Row.btw HR.out bb (.inr (Nat.le_refl _)), seg_btw HP.out bb (by omega), Below.btw HB.out bb (Nat.le_refl _) (by omega), hsync, by rw [← hr, ← HD.out]; exact HM1.out⟩
    have HS := hid S
    clear S M hsync hmv hr bb HR HP HB LT ex HD hx
    go_wp2
    go_roundw
    case rel => exact HS.out
    case measure => simp [intOf]; omega
   ·have hR : R = none := by rw [← HM1.out, HD.out]; exact hr _
    have r2 := segs.Row.btw HR.out bb (.inr (Nat.le_refl _))
    have b2 := Below.btw HB.out bb (Nat.le_refl _) (by omega)
    have hz := r2
    unfold Row at hz
    have r3 := Row.setRow r2 z24
    have F : AnsExt w R (.returned (.tuple #[.agg z24, .bool false])) (w2.setRow (w.heap.size + 1 + 1) z24) :=
     ⟨z24, by rw [hR]; rfl, by rw [hR]; exact TabR.new _ _, fun i => by rw [hR]; simp only [Option.getD_none]; rw [s0_get]; simp, Below.btw b2 (Btw.of_grown (lo := w.heap.size) (hi := w.heap.size + 1 + 1 + 1) (grown_setRow w2 (w.heap.size + 1 + 1) z24) (fun k e => by injection e; omega)) (Nat.le_refl _) b2.size⟩
    have HF := hid F
    have H3 := hid r3
    have HZ := hid hz
    clear F r3 r2 b2 hz hr bb HR HP HB LT ex HD hx hR
    go_wp2_with (first
     | (refine rowBuild rfl 240 rfl z24 built_b ?_)
     | (refine rowStore rfl 240 _ _ rfl (w.heap.size + 1 + 1) z24 z24 240 rfl rfl HZ.out (by rw [z24_size]; exact size_b) rfl z24_one ?_))
    (try simp only [Exit.inBlock, Exit.then])
    refine bodyPost_ret (v := .tuple #[.agg z24, .bool false]) ?_ rfl HF.out
    exact results_row_tmp Tryz.results217 _ (w.heap.size + 1 + 1) 240 z24 _ rfl H3.out Tryz.underlying240 rfl (by rw [z24_size]; exact size_b)
  ·have hjp : j = pn := by omega
   have hR : R = some s := by rw [← HM1.out, hjp, List.drop_eq_nil_of_le (by rw [HPL.out]; exact Nat.le_refl _)]; rfl
   obtain ⟨cs', h1, h2⟩ := M.tab
   have hz1 := h1
   have hz2 := r2
   unfold Row at hz1 hz2
   have r3 := Row.setRow r2 cs'
   have hl := M.lt
   have F : AnsExt w R (.returned (.tuple #[.agg cs', .bool true])) (wr.setRow (w.heap.size + 1 + 1) cs') :=
    ⟨cs', by rw [hR]; rfl, by rw [hR]; exact h2.keep (keep_of (grown_setRow wr (w.heap.size + 1 + 1) cs') (by omega) (fun k e => by injection e; omega)), by rw [hR]; exact fun j => Nat.le_trans (M.hs j) hm,
     Below.btw hb (Btw.of_grown (lo := w.heap.size) (hi := w.heap.size + 1 + 1 + 1) (grown_setRow wr (w.heap.size + 1 + 1) cs') (fun k e => by injection e; omega)) (Nat.le_refl _) hb.size⟩
   have HF := hid F
   have H3 := hid r3
   have HZ1 := hid hz1
   have HZ2 := hid hz2
   have HSZ := hid h2.1
   have HON := hid h2.one
   clear F r3 r2 hz1 hz2 h1 h2 hR M sp hb hjp
   go_wp2_with (first
    | (refine wpList_load_row rfl 240 _ rfl w.heap.size rfl 240 cs' (0, 0) _ HZ1.out Tryz.underlying240 rfl (by rw [HSZ.out]; exact size_b) ?_)
    | (refine rowStore rfl 240 _ _ rfl (w.heap.size + 1 + 1) cs' z24 240 rfl rfl HZ2.out (by rw [HSZ.out]; exact size_b) (by rw [HSZ.out]; rfl) HON.out ?_))
   (try simp only [Exit.inBlock, Exit.then])
   refine bodyPost_ret (v := .tuple #[.agg cs', .bool true]) ?_ rfl HF.out
   exact results_row_tmp Tryz.results217 _ (w.heap.size + 1 + 1) 240 cs' _ rfl H3.out Tryz.underlying240 rfl (by rw [HSZ.out]; exact size_b)
end extended
end
section
namespace heldT
section
variable {P : Program} {md : Region.Mode} {ops : Array Oper} {Q : Exit → Act → World → Prop} {S : World → Prop} {late : Nat → Bool}
def AnyT (P : Program) (md : Region.Mode) (ops : Array Oper) (Q : Exit → Act → World → Prop) (S : World → Prop) (late : Nat → Bool) : Nat → Array Bool → Act → World → Prop
 | 0, listed, a, w => Region.ready md ops listed = [] ∧ Q .normal a w
 | fuel + 1, listed, a, w => (Region.ready md ops listed = [] → Q .normal a w) ∧
  ∀ i ∈ Region.ready md ops listed, wpOp P ops Q i (fun a' w' => (late i = false → S w → S w') ∧ AnyT P md ops Q S late fuel (listed.setIfInBounds i true) a' w') a w
theorem AnyT.any : ∀ (fuel : Nat) (listed : Array Bool) (a : Act) (w : World), AnyT P md ops Q S late fuel listed a w → wpAny P md ops Q fuel listed a w
 | 0, _, _, _, h => h
 | fuel + 1, _, _, _, h => ⟨h.1, fun i hi => wpOp_mono (fun a' w' h' => AnyT.any fuel _ a' w' h'.2) (h.2 i hi)⟩
def Waits (md : Region.Mode) (ops : Array Oper) (late : Nat → Bool) (listed : Array Bool) (i : Nat) : Prop :=
 ∀ j o, ops[j]? = some o → late j = true → listed.getD j true = false → ∃ e ∈ o.after, Region.binds md e = true ∧ e.on = i
def waitsB (md : Region.Mode) (ops : Array Oper) (late : Nat → Bool) (listed : Array Bool) (i : Nat) : Bool :=
 (List.range ops.size).all fun j => !late j || listed.getD j true || ((ops[j]?).map fun o => o.after.any fun e => Region.binds md e && e.on == i).getD false
theorem waits_of {listed : Array Bool} {i : Nat} (h : waitsB md ops late listed i = true) : Waits md ops late listed i := by
 intro j o ho hl hu
 have hj : j < ops.size := by
  rcases Nat.lt_or_ge j ops.size with h' | h'
  ·exact h'
  ·rw [Array.getElem?_eq_none h'] at ho; cases ho
 have := List.all_eq_true.1 h j (List.mem_range.2 hj)
 rw [hl, hu, ho] at this
 simp only [Bool.not_true, Bool.false_or, Option.map_some, Option.getD_some, Array.any_eq_true', Bool.and_eq_true, beq_iff_eq] at this
 exact this
theorem AnyT.first {i : Nat} {oi : Oper} {v : Value} (hi : ops[i]? = some oi) (hsel : ∀ (j : Nat) (o : Oper) cs b, ops[j]? = some o → o.op ≠ .select cs b) (hQ : ∀ c a w, Q (.panic c) (a.put oi.dst v) w → Q (.panic c) a w) :
  ∀ (fuel : Nat) (listed : Array Bool) (a : Act) (w : World),
   (∀ j oj, ops[j]? = some oj → j ≠ i → listed.getD j true = false → (∀ e ∈ oj.after, Region.binds md e = true → e.on ≠ i) → oi.apart ops oj = true) → Waits md ops late listed i →
   i ∈ Region.ready md ops listed → YieldsIf P ops S oi v a → S w → AnyT P md ops Q S late fuel (listed.setIfInBounds i true) (a.put oi.dst v) w → AnyT P md ops Q S late (fuel + 1) listed a w := by
 intro fuel
 induction fuel with
 | zero =>
  intro listed a w _ _ hr hy hS H
  refine ⟨fun h => (by rw [h] at hr; cases hr), fun j hj => ?_⟩
  rcases Classical.em (j = i) with e | e
  ·subst e; exact hy.wpOp hi hS ⟨fun _ h => h, H⟩
  ·have := ready_mono hj e
   rw [H.1] at this
   cases this
 | succ fuel ih =>
  intro listed a w hfree hwait hr hy hS H
  refine ⟨fun h => (by rw [h] at hr; cases hr), fun j hj => ?_⟩
  rcases Classical.em (j = i) with e | hji
  ·subst e; exact hy.wpOp hi hS ⟨fun _ h => h, H⟩
  have h1 := H.2 j (ready_mono hj hji)
  obtain ⟨hjun, oj, hoj, hall⟩ := mem_ready.1 hj
  have h0 := (mem_ready.1 hr).1
  have hnot : ∀ e ∈ oj.after, Region.binds md e = true → e.on ≠ i := fun e he hb heq => by
   have h1 := hall e he hb
   rw [heq] at h1
   rcases Nat.lt_or_ge i listed.size with h' | h'
   ·simp [h'] at h0 h1; rw [h0] at h1; cases h1
   ·simp [Array.getElem?_eq_none h'] at h1
  have hlj : late j = false := by
   cases e : late j with
   | false => rfl
   | true =>
    obtain ⟨x, hx, hb, ho⟩ := hwait j oj hoj e hjun
    exact absurd ho (hnot x hx hb)
  have far : ∀ {k : Nat}, j ≠ k → (listed.setIfInBounds j true).getD k true = false → listed.getD k true = false := fun hjk h => by rwa [getD_set_ne true hjk] at h
  have same : ∀ {k : Nat}, k = j → listed.getD k true = false := fun e => by rw [e]; exact hjun
  have un : ∀ (k : Nat), (listed.setIfInBounds j true).getD k true = false → listed.getD k true = false := fun k h => by
   rcases Classical.em (k = j) with e | e
   ·exact same e
   ·exact far (fun e' => e e'.symm) h
  have h2 := wpOp_putIf hoj (hfree j oj hoj hji hjun hnot) (fun cs b => hsel i oi cs b hi) (fun cs b => hsel j oj cs b hoj) hQ hy h1
  refine wpOp_mono (fun a' w' h3 => ⟨h3.2.1, ih (listed.setIfInBounds j true) a' w' (fun k ok hk hki hun hno => hfree k ok hk hki (un k hun) hno) (fun k o hk hl hu => hwait k o hk hl (un k hu)) (ready_mono hr (Ne.symm hji)) h3.1 (h3.2.1 hlj hS) ?_⟩) h2
  rw [Array.setIfInBounds_comm _ _ hji]
  exact h3.2.2
theorem AnyT.take {i : Nat} {oi : Oper} {v : Value} {fuel : Nat} {listed : Array Bool} {a : Act} {w : World} (hi : ops[i]? = some oi) (hs : Region.noSelect ops = true) (hf : Region.free md ops listed i = true) (hw : waitsB md ops late listed i = true) (hr : (Region.ready md ops listed).contains i = true)
  (hQ : ∀ c a w, Q (.panic c) (a.put oi.dst v) w → Q (.panic c) a w) (hy : YieldsIf P ops S oi v a) (hS : S w) (h : AnyT P md ops Q S late fuel (listed.setIfInBounds i true) (a.put oi.dst v) w) : AnyT P md ops Q S late (fuel + 1) listed a w :=
 AnyT.first hi (Region.noSelect_spec hs) hQ fuel listed a w (Region.free_spec hi hf) (waits_of hw) (by simpa using hr) hy hS h
theorem AnyT.firstA {i : Nat} {oi : Oper} {v : Value} (hi : ops[i]? = some oi) (hsel : ∀ (j : Nat) (o : Oper) cs b, ops[j]? = some o → o.op ≠ .select cs b) (hQ : ∀ c a w, Q (.panic c) (a.put oi.dst v) w → Q (.panic c) a w) :
  ∀ (fuel : Nat) (listed : Array Bool) (a : Act) (w : World),
   (∀ j oj, ops[j]? = some oj → j ≠ i → listed.getD j true = false → (∀ e ∈ oj.after, Region.binds md e = true → e.on ≠ i) → oi.apart ops oj = true) →
   i ∈ Region.ready md ops listed → YieldsIf P ops (fun _ => True) oi v a → AnyT P md ops Q S late fuel (listed.setIfInBounds i true) (a.put oi.dst v) w → AnyT P md ops Q S late (fuel + 1) listed a w := by
 intro fuel
 induction fuel with
 | zero =>
  intro listed a w _ hr hy H
  refine ⟨fun h => (by rw [h] at hr; cases hr), fun j hj => ?_⟩
  rcases Classical.em (j = i) with e | e
  ·subst e; exact hy.wpOp hi trivial ⟨fun _ h => h, H⟩
  ·have := ready_mono hj e
   rw [H.1] at this
   cases this
 | succ fuel ih =>
  intro listed a w hfree hr hy H
  refine ⟨fun h => (by rw [h] at hr; cases hr), fun j hj => ?_⟩
  rcases Classical.em (j = i) with e | hji
  ·subst e; exact hy.wpOp hi trivial ⟨fun _ h => h, H⟩
  have h1 := H.2 j (ready_mono hj hji)
  obtain ⟨hjun, oj, hoj, hall⟩ := mem_ready.1 hj
  have h0 := (mem_ready.1 hr).1
  have hnot : ∀ e ∈ oj.after, Region.binds md e = true → e.on ≠ i := fun e he hb heq => by
   have h1 := hall e he hb
   rw [heq] at h1
   rcases Nat.lt_or_ge i listed.size with h' | h'
   ·simp [h'] at h0 h1; rw [h0] at h1; cases h1
   ·simp [Array.getElem?_eq_none h'] at h1
  have un : ∀ (k : Nat), (listed.setIfInBounds j true).getD k true = false → listed.getD k true = false := fun k h => by
   rcases Classical.em (k = j) with e | e
   ·rw [e]; exact hjun
   ·rwa [getD_set_ne true (fun e' => e e'.symm)] at h
  have h2 := wpOp_putIf hoj (hfree j oj hoj hji hjun hnot) (fun cs b => hsel i oi cs b hi) (fun cs b => hsel j oj cs b hoj) hQ hy h1
  refine wpOp_mono (fun a' w' h3 => ⟨h3.2.1, ih (listed.setIfInBounds j true) a' w' (fun k ok hk hki hun hno => hfree k ok hk hki (un k hun) hno) (ready_mono hr (Ne.symm hji)) h3.1 ?_⟩) h2
  rw [Array.setIfInBounds_comm _ _ hji]
  exact h3.2.2
theorem AnyT.takeA {i : Nat} {oi : Oper} {v : Value} {fuel : Nat} {listed : Array Bool} {a : Act} {w : World} (hi : ops[i]? = some oi) (hs : Region.noSelect ops = true) (hf : Region.free md ops listed i = true) (hr : (Region.ready md ops listed).contains i = true)
  (hQ : ∀ c a w, Q (.panic c) (a.put oi.dst v) w → Q (.panic c) a w) (hy : YieldsIf P ops (fun _ => True) oi v a) (h : AnyT P md ops Q S late fuel (listed.setIfInBounds i true) (a.put oi.dst v) w) : AnyT P md ops Q S late (fuel + 1) listed a w :=
 AnyT.firstA hi (Region.noSelect_spec hs) hQ fuel listed a w (Region.free_spec hi hf) (by simpa using hr) hy h
theorem AnyT.call {i : Nat} {o : Oper} {fuel : Nat} {listed : Array Bool} {a : Act} {w : World} (hr : Region.ready md ops listed = [i]) (ho : ops[i]? = some o)
  (h : ∀ K' : Act → World → Prop, Shut (∀ a w', (late i = false → S w → S w') → ((late i = false → S w → S w') → AnyT P md ops Q S late fuel (listed.setIfInBounds i true) a w') → K' a w') → if Region.wanted o (yielded ops a.tmps) = true then Oper.wp P o a w K' Q else K' (a.put o.dst undef) w) : AnyT P md ops Q S late (fuel + 1) listed a w :=
 ⟨fun h0 => absurd (hr ▸ h0) (by simp), fun j hj => by
  rw [hr, List.mem_singleton] at hj
  subst hj
  exact wpOp_step ho (fun K' hK => h K' (fun a w' hS hW => hK a w' ⟨hS, hW hS⟩))⟩
theorem AnyT.done {listed : Array Bool} {a : Act} {w : World} (hr : Region.ready md ops listed = []) (h : Q .normal a w) : ∀ fuel, AnyT P md ops Q S late fuel listed a w
 | 0 => ⟨hr, h⟩
 | _ + 1 => ⟨fun _ => h, by rw [hr]; simp⟩
theorem AnyT.start {id : Nat} {a : Act} {w : World} (late : Nat → Bool) (hm : P.follows .mixedOrders = true) (hS : S w.drew) (h : S w.drew → AnyT P .any ops Q S late ops.size (Array.replicate ops.size false) a w.drew) : (Code.region id ops true).wp P Q a w :=
 wp_region_any hm (AnyT.any _ _ _ _ (h hS))
end
end heldT
end
section
open List (setIfInBounds_toArray set_cons_zero set_cons_succ getElem_toArray getElem_cons_zero getElem_cons_succ)
namespace stepImpl
open Go.RowKit base ints sig term termOk endAt marks app sym sub segs segsHelp kinds termFacts termMath posMath plainMath gives fillMath matchMath matchSpec whole takeMath take extended varsOf shape kindsR ruleMath ruleSpec stepMath walkMath stepSpec heldT
set_option maxRecDepth 100000
theorem wp_rowStore {P : Program} {o : Oper} {a : Act} {w : World} {K : Act → World → Prop} {Q : Exit → Act → World → Prop} (ty : TypeId) (x y : Operand) (ho : o.op = .store ty x y) (g : Nat) (cells old : Array Value) (t : TypeId) (hx : a.eval x = .pointer (some ⟨g, 0, none⟩)) (hy : a.eval y = .agg cells)
  (hg : w.heap[g]? = some (.cells old t (0, 0))) (hi : (P.info? ty).map (·.size) = some cells.size) (hs : old.size = cells.size) (h1 : cells.all (·.oneCell') = true) (h : K (a.put o.dst undef) (w.setRow g cells)) : Oper.wp P o a w K Q := by
 unfold Oper.wp execOp
 simp only [ho, hx, hy, Instr.storeAt, Instr.sureAddr, Sem.run_bind, Sem.run_pure, Result.andThen_ok, run_storeVar_row w g t ty old cells hg hi hs h1]
 exact h
theorem run_build0 {P : Program} {o : Oper} {a : Act} {w : World} (t : TypeId) (ho : o.op = .build t #[]) (z : Array Value) (hz : P.built t [] = some z) : (execOp a.eval o).run P w = .ok (.value (.agg z)) w := by
 unfold execOp
 simp [ho, Sem.run_bind, run_build w t #[] z hz, Result.andThen_ok]
theorem seg_down {w : World} {g n : Nat} {A : Option Addr} {xs : List Int} {T : TypeId} {cs : Array Value} (h : Seg w (g + 1) A n xs) (hr : Row w g T cs) (hc : ∀ (i : Nat) (x : Int), cs[i]? ≠ some (Value.int .i64 x)) : Seg w g A n xs := by
 refine ⟨h.1, fun hn => ?_⟩
 obtain ⟨b, off, e, hb, hcell⟩ := h.2 hn
 refine ⟨b, off, e, ?_, hcell⟩
 by_cases hbg : b = g
 ·exfalso
  subst hbg
  have := hcell 0 hn
  rw [hr.cell] at this
  exact hc _ _ this
 ·omega
theorem tab_down {w : World} {g : Nat} {rs : Array Value} {s : List (List Int)} {T : TypeId} {cs : Array Value} (h : TabR w (g + 1) rs s) (hr : Row w g T cs) (hc : ∀ (i : Nat) (x : Int), cs[i]? ≠ some (Value.int .i64 x)) : TabR w g rs s := by
 refine ⟨h.1, h.2.1, fun j hj => ?_⟩
 obtain ⟨A, n, c, e, hs, hcap⟩ := h.2.2 j hj
 exact ⟨A, n, c, e, seg_down hs hr hc, hcap⟩
theorem z24_nums (i : Nat) (x : Int) : z24[i]? ≠ some (Value.int .i64 x) := by
 unfold z24
 rw [Array.getElem?_replicate]
 split
 ·intro e; injection e with e; cases e
 ·intro e; cases e
theorem two_nums {A V : Option Addr} {n c q cv : Nat} (i : Nat) (x : Int) : (#[.slice A n c, .slice V q cv] : Array Value)[i]? ≠ some (Value.int .i64 x) := by
 match i with
 | 0 => intro e; injection e with e; cases e
 | 1 => intro e; injection e with e; cases e
 | i + 2 => intro e; simp at e
set_option maxHeartbeats 4000000 in
theorem matchAt (a v u : Value) (d : Dat sSystem) (t : List Int) (x k : Nat) (w : World) (h : Rd w w.heap.size sSystem [a, v] d) (ht : Rd w w.heap.size sI [u] t) (hz : sz sSystem d ≤ 1048576) (hok : rightB d.1 d.2 t = true) (hx : x < t.length) (hk : k < d.2.length) :
  Calls Tryz.prog 206 #[.agg #[a, v], u, .int .i64 (x : Int), .int .i64 (k : Int)] w (AnsExt w (mst d.1 t (d.2.getD k ([], [])).1 x s0)) := by
 obtain ⟨T, m, c, rfl, hT, hcT⟩ := rd_ints.1 ht
 obtain ⟨oks, okt⟩ := right_parts hok
 have hm : m ≤ 60 := by have := (term_len okt).2; have := hT.1; omega
 obtain ⟨A, n, cs, V, q, cv, rfl, rfl, hs, hc, hcv, hq, hn, hq1, hrs, hsg, hE⟩ := rd_sys h hz
 rw [hq] at hk
 obtain ⟨b, off, l, rr, y, rfl, hb, ey, cl, cr, hry⟩ := rd_at hrs (Below.refl _ _) hq hk
 have hzy : sz sRule y ≤ 1048576 := by rw [← ey.out]; exact hE k hk
 have okr : ruleOkB d.1 y = true := by rw [← ey.out]; exact sys_rule oks (by rw [hq]; exact hk)
 obtain ⟨P, pn, pc, P', pn', pc', rfl, rfl, sP, kP, sP', kP', hpn, hpn'⟩ := rd_rule hry hzy
 rw [ey.out]
 obtain ⟨W, hW, rA, rB, bel⟩ := box2 w 100 240 #[.slice A n cs, .slice (some ⟨b, off, none⟩) q cv] z24
 have HW := Lib.hid hW
 have okl := (rule_parts okr).1
 have hpn60 : pn ≤ 60 := by have := (term_len okl).2; have := sP.1; omega
 have LX := Lib.hid (extended A P T n cs pn pc m c d.1 y.1 t x z24 s0 W.drew (hs.next bel.drew) (sP.next bel.drew) (hT.next bel.drew) hn hpn60 hm hcT.1 hcT.2.1 (by rw [← hT.1]; exact hx) okl okt (TabR.new _ _) (fun j => by rw [s0_get]; simp))
 obtain ⟨R, hR⟩ : ∃ R, mst d.1 t y.1 x s0 = R := ⟨_, rfl⟩
 rw [hR] at LX ⊢
 have zA : w.heap.size < W.heap.size := rA.lt
 have zB : b < W.heap.size := by omega
 have K0 : W.cell? ⟨w.heap.size, 0, none⟩ = some (.slice A n cs) := rA.cell 0
 have K1 : W.cell? ⟨w.heap.size, 1, none⟩ = some (.slice (some ⟨b, off, none⟩) q cv) := rA.cell 1
 have K2 : W.cell? ⟨b, off + k * 2, none⟩ = some (.slice P pn pc) := (bel.cell (p := ⟨b, off + k * 2, none⟩) hb).trans cl
 have i0 : (0 : Int) ≤ (k : Int) := by omega
 have i1 : (k : Int) < (q : Int) := by omega
 have zW : W.heap.size = w.heap.size + 1 + 1 := by rw [hW]; simp
 have RA := Lib.hid rA
 have BEL := Lib.hid bel
 clear hW h hs hc hcv hq hrs hsg hE ht hT hcT oks okt okr okl sP kP sP' kP' hry hzy hx hok hz ey rA bel cl cr hR hpn hpn' hpn60 hq1
 go_enter Tryz.func206, Tryz.ntmps206
 go_upto_region 1 with (refine rowAlloc rfl 240 rfl z24 zero_b ?_)
 rw [← HW.out]
 refine AnyT.start (S := (fun w' => w'.cell? ⟨w.heap.size, 0, none⟩ = some (.slice A n cs) ∧ w'.cell? ⟨w.heap.size, 1, none⟩ = some (.slice (some ⟨b, off, none⟩) q cv) ∧ w'.cell? ⟨b, off + k * 2, none⟩ = some (.slice P pn pc))) (fun j => j == 15) (by kernel_rfl) ⟨K0, K1, K2⟩ (fun hHeld => ?_)
 refine AnyT.takeA (i := 0) (v := .agg z24) rfl (by kernel_rfl) (by kernel_rfl) (by kernel_rfl) (fun _ _ _ h => h) (Or.inl ⟨by rfl, fun w0 _ => run_build0 240 rfl z24 built_b⟩) ?_
 try simp only [Act.put, setIfInBounds_toArray, set_cons_zero, set_cons_succ, getElem_toArray, getElem_cons_zero, getElem_cons_succ]
 refine AnyT.takeA (i := 1) (v := ?_) rfl (by kernel_rfl) (by kernel_rfl) (by kernel_rfl) (fun _ _ _ h => h) (Or.inl ⟨by rfl, ?_⟩) ?_
 rotate_left 1
 ·(intro w0 _; go_simp; try with_reducible rfl)
 try simp only [Act.put, setIfInBounds_toArray, set_cons_zero, set_cons_succ, getElem_toArray, getElem_cons_zero, getElem_cons_succ]
 refine AnyT.take (i := 2) (v := ?_) rfl (by kernel_rfl) (by kernel_rfl) (by kernel_rfl) (by kernel_rfl) (fun _ _ _ h => h) (Or.inl ⟨by rfl, ?_⟩) (by assumption) ?_
 rotate_left 1
 ·(intro w0 hSw; (try dsimp only at hSw); go_simp; try with_reducible rfl)
 try simp only [Act.put, setIfInBounds_toArray, set_cons_zero, set_cons_succ, getElem_toArray, getElem_cons_zero, getElem_cons_succ]
 refine AnyT.takeA (i := 3) (v := ?_) rfl (by kernel_rfl) (by kernel_rfl) (by kernel_rfl) (fun _ _ _ h => h) (Or.inl ⟨by rfl, ?_⟩) ?_
 rotate_left 1
 ·(intro w0 _; go_simp; try with_reducible rfl)
 try simp only [Act.put, setIfInBounds_toArray, set_cons_zero, set_cons_succ, getElem_toArray, getElem_cons_zero, getElem_cons_succ]
 refine AnyT.takeA (i := 4) (v := ?_) rfl (by kernel_rfl) (by kernel_rfl) (by kernel_rfl) (fun _ _ _ h => h) (Or.inl ⟨by rfl, ?_⟩) ?_
 rotate_left 1
 ·(intro w0 _; go_simp; try with_reducible rfl)
 try simp only [Act.put, setIfInBounds_toArray, set_cons_zero, set_cons_succ, getElem_toArray, getElem_cons_zero, getElem_cons_succ]
 refine AnyT.takeA (i := 5) (v := ?_) rfl (by kernel_rfl) (by kernel_rfl) (by kernel_rfl) (fun _ _ _ h => h) (Or.inl ⟨by rfl, ?_⟩) ?_
 rotate_left 1
 ·(intro w0 _; go_simp; try with_reducible rfl)
 try simp only [Act.put, setIfInBounds_toArray, set_cons_zero, set_cons_succ, getElem_toArray, getElem_cons_zero, getElem_cons_succ]
 refine AnyT.take (i := 6) (v := ?_) rfl (by kernel_rfl) (by kernel_rfl) (by kernel_rfl) (by kernel_rfl) (fun _ _ _ h => h) (Or.inl ⟨by rfl, ?_⟩) (by assumption) ?_
 rotate_left 1
 ·(intro w0 hSw; (try dsimp only at hSw); go_simp; try with_reducible rfl)
 try simp only [Act.put, setIfInBounds_toArray, set_cons_zero, set_cons_succ, getElem_toArray, getElem_cons_zero, getElem_cons_succ]
 refine AnyT.takeA (i := 7) (v := ?_) rfl (by kernel_rfl) (by kernel_rfl) (by kernel_rfl) (fun _ _ _ h => h) (Or.inl ⟨by rfl, ?_⟩) ?_
 rotate_left 1
 ·(intro w0 _; go_simp; try with_reducible rfl)
 try simp only [Act.put, setIfInBounds_toArray, set_cons_zero, set_cons_succ, getElem_toArray, getElem_cons_zero, getElem_cons_succ]
 refine AnyT.take (i := 8) (v := ?_) rfl (by kernel_rfl) (by kernel_rfl) (by kernel_rfl) (by kernel_rfl) (fun _ _ _ h => h) (Or.inl ⟨by rfl, ?_⟩) (by assumption) ?_
 rotate_left 1
 ·(intro w0 hSw; (try dsimp only at hSw); go_simp; try with_reducible rfl)
 try simp only [Act.put, setIfInBounds_toArray, set_cons_zero, set_cons_succ, getElem_toArray, getElem_cons_zero, getElem_cons_succ]
 refine AnyT.takeA (i := 9) (v := ?_) rfl (by kernel_rfl) (by kernel_rfl) (by kernel_rfl) (fun _ _ _ h => h) (Or.inl ⟨by rfl, ?_⟩) ?_
 rotate_left 1
 ·(intro w0 _; go_simp; try with_reducible rfl)
 try simp only [Act.put, setIfInBounds_toArray, set_cons_zero, set_cons_succ, getElem_toArray, getElem_cons_zero, getElem_cons_succ]
 refine AnyT.takeA (i := 10) (v := ?_) rfl (by kernel_rfl) (by kernel_rfl) (by kernel_rfl) (fun _ _ _ h => h) (Or.inl ⟨by rfl, ?_⟩) ?_
 rotate_left 1
 ·(intro w0 _; go_simp; try with_reducible rfl)
 try simp only [Act.put, setIfInBounds_toArray, set_cons_zero, set_cons_succ, getElem_toArray, getElem_cons_zero, getElem_cons_succ]
 refine AnyT.takeA (i := 11) (v := ?_) rfl (by kernel_rfl) (by kernel_rfl) (by kernel_rfl) (fun _ _ _ h => h) (Or.inl ⟨by rfl, ?_⟩) ?_
 rotate_left 1
 ·(intro w0 _; go_simp; try with_reducible rfl)
 try simp only [Act.put, setIfInBounds_toArray, set_cons_zero, set_cons_succ, getElem_toArray, getElem_cons_zero, getElem_cons_succ]
 refine AnyT.call (i := 12) (by kernel_rfl) rfl (fun K hK => ?_)
 try simp only [Act.put, setIfInBounds_toArray, set_cons_zero, set_cons_succ, getElem_toArray, getElem_cons_zero, getElem_cons_succ]
 rw [if_pos (by rfl)]
 go_simp
 (go_at_call 217; refine LX.out.mono ?_; rintro e w3 ⟨rs, rfl, tab, hsz, bb⟩; have K03 : w3.cell? ⟨w.heap.size, 0, none⟩ = some (.slice A n cs) := (bb.cell (p := ⟨w.heap.size, 0, none⟩) zA).trans K0; have K13 : w3.cell? ⟨w.heap.size, 1, none⟩ = some (.slice (some ⟨b, off, none⟩) q cv) := (bb.cell (p := ⟨w.heap.size, 1, none⟩) zA).trans K1; have K23 : w3.cell? ⟨b, off + k * 2, none⟩ = some (.slice P pn pc) := (bb.cell (p := ⟨b, off + k * 2, none⟩) zB).trans K2; have one := Lib.hid tab.one; have h24 := Lib.hid tab.1; have r3 := Lib.hid (Row.next (Row.drew rB) bb); go_wp2_with fail)
 refine hK.out _ _ (fun _ _ => ?_) (fun hKeep => ?_)
 ·exact ⟨K03, K13, K23⟩
 replace hHeld := hKeep (by rfl) hHeld
 clear hK K hKeep
 try simp only [Act.put, setIfInBounds_toArray, set_cons_zero, set_cons_succ, getElem_toArray, getElem_cons_zero, getElem_cons_succ]
 refine AnyT.takeA (i := 13) (v := ?_) rfl (by kernel_rfl) (by kernel_rfl) (by kernel_rfl) (fun _ _ _ h => h) (Or.inl ⟨by rfl, ?_⟩) ?_
 rotate_left 1
 ·(intro w0 _; go_simp; try with_reducible rfl)
 try simp only [Act.put, setIfInBounds_toArray, set_cons_zero, set_cons_succ, getElem_toArray, getElem_cons_zero, getElem_cons_succ]
 refine AnyT.takeA (i := 14) (v := ?_) rfl (by kernel_rfl) (by kernel_rfl) (by kernel_rfl) (fun _ _ _ h => h) (Or.inl ⟨by rfl, ?_⟩) ?_
 rotate_left 1
 ·(intro w0 _; go_simp; try with_reducible rfl)
 try simp only [Act.put, setIfInBounds_toArray, set_cons_zero, set_cons_succ, getElem_toArray, getElem_cons_zero, getElem_cons_succ]
 refine AnyT.call (i := 15) (by kernel_rfl) rfl (fun K hK => ?_)
 try simp only [Act.put, setIfInBounds_toArray, set_cons_zero, set_cons_succ, getElem_toArray, getElem_cons_zero, getElem_cons_succ]
 rw [if_pos (by rfl)]
 refine wp_rowStore 240 _ _ rfl (w.heap.size + 1) rs z24 240 rfl rfl r3.out (by rw [h24.out]; exact size_b) (by rw [h24.out]; rfl) one.out ?_
 refine hK.out _ _ (fun h => by cases h) (fun _ => ?_)
 clear hK K
 try simp only [Act.put, setIfInBounds_toArray, set_cons_zero, set_cons_succ, getElem_toArray, getElem_cons_zero, getElem_cons_succ]
 refine AnyT.takeA (i := 16) (v := ?_) rfl (by kernel_rfl) (by kernel_rfl) (by kernel_rfl) (fun _ _ _ h => h) (Or.inl ⟨by rfl, ?_⟩) ?_
 rotate_left 1
 ·(intro w0 _; go_simp; try with_reducible rfl)
 try simp only [Act.put, setIfInBounds_toArray, set_cons_zero, set_cons_succ, getElem_toArray, getElem_cons_zero, getElem_cons_succ]
 refine AnyT.done (by kernel_rfl) ?_ _
 have r1 := r3.out
 have r0 := RA.out.drew.next bb
 have bx : Below w.heap.size w w3 := BEL.out.drew.trans (bb.mono BEL.out.size)
 have tab2 : TabR w3 w.heap.size rs (R.getD s0) := tab_down (tab_down (by have := tab; rw [show W.drew.heap.size = W.heap.size from rfl, zW] at this; exact this) r1 z24_nums) r0 two_nums
 have F : AnsExt w R (.returned (.tuple #[.agg rs, .bool R.isSome])) (w3.setRow (w.heap.size + 1) rs) :=
  ⟨rs, rfl, tab2.keep (keep_of (grown_setRow w3 (w.heap.size + 1) rs) bx.size (fun k e => by injection e; omega)), hsz, Below.btw bx (Btw.of_grown (lo := w.heap.size) (hi := w.heap.size + 1 + 1) (grown_setRow w3 (w.heap.size + 1) rs) (fun k e => by injection e; omega)) (Nat.le_refl _) bx.size⟩
 have HF := Lib.hid F
 have H3 := Lib.hid (Row.setRow r1 rs)
 clear F r1 r0 bx tab2 tab bb
 go_wp2
 (try simp only [Exit.inBlock, Exit.then])
 refine bodyPost_ret (v := .tuple #[.agg rs, .bool R.isSome]) ?_ rfl HF.out
 exact results_row_tmp Tryz.results206 _ (w.heap.size + 1) 240 rs _ rfl H3.out Tryz.underlying240 rfl (by rw [h24.out]; exact size_b)
end stepImpl
end
section
open Go.Lib (hid)
namespace anyR
open Go.RowKit base ints sig segs varsOf shape kindsR ruleMath
set_option maxRecDepth 100000
theorem any_of {α : Type} [Inhabited α] {f : α → Bool} {xs : List α} {k : Nat} {x z : α} (hk : k < xs.length) (ex : xs.getD k z = x) (h : f x = true) : xs.any f = true := by
 rw [List.any_eq_true]
 refine ⟨xs[k], List.getElem_mem hk, ?_⟩
 have : xs.getD k z = xs[k] := by simp [List.getD, hk]
 rw [← this, ex]; exact h
theorem none_of {α : Type} {f : α → Bool} {xs : List α} {z : α} (h : ∀ j, j < xs.length → f (xs.getD j z) = false) : xs.any f = false := by
 rw [List.any_eq_false]
 intro x hx
 obtain ⟨i, hi, rfl⟩ := List.getElem_of_mem hx
 have := h i hi
 simpa [List.getD, hi] using this
theorem mem_at {α : Type} {xs : List α} {k : Nat} {x z : α} (hk : k < xs.length) (ex : xs.getD k z = x) : x ∈ xs := by
 have : xs.getD k z = xs[k] := by simp [List.getD, hk]
 rw [← ex, this]; exact List.getElem_mem hk
def TestsI (g : Nat) (fa lb : Array Value) (w : World) (xs : List Int) (f : Int → Bool) : Prop := ∀ (W : World) (x : Int), Below w.heap.size w W → x ∈ xs → Calls Tryz.prog g (fa ++ #[.int .i64 x] ++ lb) W (AnsB W (f x))
def AnsIxI (w : World) (f : Int → Bool) (xs : List Int) (e : Ending) (w' : World) : Prop := ∃ z : Int, e = .returned (.int .i64 z) ∧ -1 ≤ z ∧ z ≤ 1048576 ∧ decide (0 ≤ z) = xs.any f ∧ Below w.heap.size w w'
def HeadIxI (w : World) (n : Nat) (f : Int → Bool) (xs : List Int) (i : Value) (wr : World) : Prop := ∃ k : Nat, k ≤ n ∧ i = .int .i64 k ∧ (∀ j, j < k → f (xs.getD j 0) = false) ∧ Below w.heap.size w wr
set_option maxHeartbeats 2000000 in
theorem indexFuncI (g : Nat) (fa lb : Array Value) (eg : ∀ args w, (callFunc g args).run Tryz.prog w = .ok (.enter g args) w) (f : Int → Bool) (A : Option Addr) (n c : Nat) (xs : List Int) (w : World) (hT : TestsI g fa lb w xs f)
  (h : Rd w w.heap.size sI [.slice A n c] xs) (hl : xs.length = n) (hn : n ≤ 1048576) :
  Calls Tryz.prog 203 #[.slice A n c, .func (.func g) fa lb] w (AnsIxI w f xs) := by
 have HL := hid hl
 have HK := hid hT
 have HR := hid h
 have HH : Hid (HeadIxI w n f xs (.int .i64 0) w) := hid ⟨0, Nat.zero_le _, rfl, fun j hj => absurd hj (Nat.not_lt_zero _), Below.refl _ _⟩
 clear hT h hl
 go_enter Tryz.func203, Tryz.ntmps203
 go_wp2_with fail
 go_loopw [8] (fun i wr => HeadIxI w n f xs i wr) (fun i _ => n - (intOf i).toNat)
 case atStart => exact HH.out
 case round =>
  obtain ⟨k, hk, rfl, hlow, hb⟩ := hrel
  have HLOW := hid hlow
  clear hlow HH
  by_cases hlt : k < n
  ·have hkD : k < xs.length := by rw [HL.out]; exact hlt
   obtain ⟨b, off, x, rfl, hbB, hx0, ex⟩ := HR.out.seg.spot hlt
   have hx : wr.cell? ⟨b, off + k, none⟩ = some (.int .i64 x) := (hb.cell (p := ⟨b, off + k, none⟩) hbB).trans hx0
   have hcall := HK.out wr x hb (mem_at hkD ex.out)
   obtain ⟨v, hv⟩ : ∃ v, f x = v := ⟨_, rfl⟩
   rw [hv] at hcall
   have HV := hid hv
   have HC := hid hcall
   have i0 : (0 : Int) ≤ (k : Int) := by omega
   have i1 : (k : Int) < (n : Int) := by omega
   clear hv hcall
   cases v with
   | true =>
    go_wp2_with (first
     | (go_at_fn g; refine HC.out.mono ?_; rintro e w1 ⟨rfl, bb⟩))
    have F : AnsIxI w f xs (.returned (.int .i64 (k : Int))) w1 := ⟨k, rfl, by omega, by omega, by rw [decide_eq_true (by omega)]; exact (any_of hkD ex.out HV.out).symm, next_trans hb bb⟩
    have HF := hid F
    clear F bb hb HC
    go_wp2
    go_ret
    exact HF.out
   | false =>
    go_wp2_with (first
     | (go_at_fn g; refine HC.out.mono ?_; rintro e w1 ⟨rfl, bb⟩))
    have S1 : HeadIxI w n f xs (.int .i64 ((k : Int) + 1)) w1 := ⟨k + 1, hlt, by simp, fun j hj => by
     by_cases e : j = k
     ·rw [e, ex.out]; exact HV.out
     ·exact HLOW.out j (by omega), next_trans hb bb⟩
    have HS1 := hid S1
    clear S1 bb hb HC
    go_wp2
    go_roundw
    case rel => exact HS1.out
    case measure => simp [intOf]; omega
  ·have F : AnsIxI w f xs (.returned (.int .i64 (-1))) wr := ⟨-1, rfl, by omega, by omega, (none_of (fun j hj => HLOW.out j (by rw [HL.out] at hj; omega))).symm, hb⟩
   have HF := hid F
   clear F hb
   go_wp2
   go_ret
   exact HF.out
theorem containsFuncI (g : Nat) (fa lb : Array Value) (eg : ∀ args w, (callFunc g args).run Tryz.prog w = .ok (.enter g args) w) (f : Int → Bool) (A : Option Addr) (n c : Nat) (xs : List Int) (w : World) (hT : TestsI g fa lb w xs f)
  (h : Rd w w.heap.size sI [.slice A n c] xs) (hl : xs.length = n) (hn : n ≤ 1048576) :
  Calls Tryz.prog 167 #[.slice A n c, .func (.func g) fa lb] w (AnsB w (xs.any f)) := by
 have L := hid (indexFuncI g fa lb eg f A n c xs w hT h hl hn)
 clear h hl hT
 go_enter Tryz.func167, Tryz.ntmps167
 go_wp2_with fail
 refine L.out.mono ?_
 rintro e w' ⟨z, rfl, h1, h2, hz, bb⟩
 have HZ := hid hz
 have HB := hid bb
 clear hz L bb
 go_wp2
 go_ret
 exact ⟨by rw [← HZ.out]; rfl, HB.out⟩
end anyR
end
section
open Go.Lib (hid)
namespace ruleImpl
open Go.RowKit base ints sig term termOk marks app sym segs termFacts varsMath varsOf rename same count linear shape kindsR ruleMath ruleSpec anyR
set_option maxRecDepth 100000
theorem containsI (A : Option Addr) (n c : Nat) (xs : List Int) (x : Int) (w : World) (h : Seg w w.heap.size A n xs) (hn : n ≤ 1048576) :
  Calls Tryz.prog 135 #[.slice A n c, .int .i64 x] w fun e w' => w = w' ∧ e = .returned (.bool (decide (x ∈ xs))) := by
 have L := hid (indexOf A n c xs x w h hn)
 clear h
 go_enter Tryz.func135, Tryz.ntmps135
 go_wp2_with fail
 refine L.out.mono ?_
 rintro e w' ⟨rfl, rfl⟩
 have E : decide (0 ≤ indexI xs x) = decide (x ∈ xs) := decide_eq_decide.2 (by unfold indexI; split <;> simp_all)
 have HE := hid E
 clear L E
 generalize indexI xs x = z at *
 go_wp2
 go_ret
 exact ⟨rfl, by rw [← HE.out]; rfl⟩
set_option maxHeartbeats 1000000 in
theorem ruleNew (g : Nat) (A1 : Option Addr) (n1 c1 : Nat) (r : Value) (t : List Int) (x : Int) (W : World) (hr : Row W g 48 #[.slice A1 n1 c1, r]) (h : Seg W W.heap.size A1 n1 t) (hn : n1 ≤ 1048576) :
  Calls Tryz.prog 166 #[.int .i64 x, .pointer (some ⟨g, 0, none⟩)] W (AnsB W (newB t x)) := by
 have L := hid (containsI A1 n1 c1 t x W h hn)
 have c0 : W.cell? ⟨g, 0, none⟩ = some (.slice A1 n1 c1) := hr.cell 0
 clear h hr
 by_cases hx : x < 0
 ·have hd : decide (x < 0) = true := decide_eq_true hx
  have E : (!decide (x ∈ t)) = newB t x := by unfold newB; by_cases h : x ∈ t <;> simp [h, hx]
  have HE := hid E
  clear E
  go_enter Tryz.func166, Tryz.ntmps166
  go_wp2_with fail
  refine L.out.mono ?_
  rintro e w' ⟨rfl, rfl⟩
  have F : AnsB W (newB t x) (.returned (.bool (!decide (x ∈ t)))) W := ⟨by rw [HE.out], Below.refl _ _⟩
  have HF := hid F
  clear L F
  generalize decide (x ∈ t) = z at *
  go_wp2
  go_ret
  exact HF.out
 ·have hd : decide (x < 0) = false := decide_eq_false hx
  have F : AnsB W (newB t x) (.returned (.bool false)) W := ⟨by unfold newB; rw [decide_eq_false (fun h => hx h.1)], Below.refl _ _⟩
  have HF := hid F
  clear F L
  go_enter Tryz.func166, Tryz.ntmps166
  go_wp2
  go_ret
  exact HF.out
theorem rule_all {sg : List Int} {d : Rl} (h1 : termOkB sg d.1 = true) (h2 : termOkB sg d.2 = true) (h0 : ¬ hd d.1 < 0) : ruleOkB sg d = !d.2.any (newB d.1) := by
 unfold ruleOkB; rw [h1, h2, decide_eq_false h0]; rfl
set_option maxHeartbeats 4000000 in
theorem implRuleOk (a l r : Value) (sg : List Int) (d : Dat sRule) (w : World) (h : Rd w w.heap.size sI [a] sg) (h' : Rd w w.heap.size sRule [l, r] d) (hz : sz sI sg ≤ 1048576) (hz' : sz sRule d ≤ 1048576) :
  Calls Tryz.prog 116 #[.agg #[a], .agg #[l, r]] w (AnsB w (ruleOkB sg d)) := by
 have g1 := (parts_Rule h').2
 obtain ⟨A, n, c, rfl, hs, hc⟩ := rd_ints.1 h
 have hn := len_ints hs.1 hz
 obtain ⟨A1, n1, c1, A2, n2, c2, rfl, rfl, s1, k1, s2, k2, hn1, hn2⟩ := rd_rule h' hz'
 obtain ⟨W, hW, rA, rR, bel⟩ := box2 w 29 48 #[.slice A n c] #[.slice A1 n1 c1, .slice A2 n2 c2]
 have HW := hid hW
 have HL1 := hid s1.1
 have HL2 := hid s2.1
 have L1 := hid (implTermOk A A1 n c n1 c1 sg d.1 W (hs.next bel) (s1.next bel) hn hn1)
 have L2 := hid (fun (w1 : World) (bb : Below w.heap.size w w1) => implTermOk A A2 n c n2 c2 sg d.2 w1 (hs.next bb) (s2.next bb) hn hn2)
 have LC := hid (fun (w1 : World) (bb : Below w.heap.size w w1) (hr : Row w1 (w.heap.size + 1) 48 #[.slice A1 n1 c1, .slice A2 n2 c2]) => containsFuncI 166 #[] #[.pointer (some ⟨w.heap.size + 1, 0, none⟩)] (fun _ _ => rfl) (newB d.1) A2 n2 c2 d.2 w1
  (fun W x hW _ => ruleNew (w.heap.size + 1) A1 n1 c1 (.slice A2 n2 c2) d.1 x W (hr.next hW) (s1.next (next_trans bb hW)) hn1) (g1.next bb) s2.1 hn2)
 clear hW h h' hz hz' hs hc k1 k2 g1
 cases ok1 : termOkB sg d.1 with
 | false =>
  have HS := hid ok1
  clear ok1 s1 s2
  go_enter Tryz.func116, Tryz.ntmps116
  go_wp2_with fail
  rw [← HW.out]
  refine L1.out.mono ?_
  rintro e w1 ⟨he, bb⟩
  rw [HS.out] at he
  subst he
  have F := hid (ansB (b := ruleOkB sg d) (a := false) (by rw [rule_noL HS.out]) (next_trans bel bb))
  clear bb bel rA rR
  go_wp2
  go_ret
  exact F.out
 | true =>
  have hp1 := (term_len ok1).1
  rw [s1.1] at hp1
  obtain ⟨b, off, x, rfl, hbB, hx, ex⟩ := s1.spot (k := 0) (by omega)
  have HS := hid ok1
  have EX := hid (show hd d.1 = x from ex.out)
  have i0 : (0 : Int) < (n1 : Int) := by omega
  clear ok1 ex
  go_enter Tryz.func116, Tryz.ntmps116
  go_wp2_with fail
  rw [← HW.out]
  refine L1.out.mono ?_
  rintro e w1 ⟨he, bb⟩
  rw [HS.out] at he
  subst he
  replace rA := rA.next bb
  replace rR := rR.next bb
  replace bel := next_trans bel bb
  have cA : w1.cell? ⟨w.heap.size, 0, none⟩ = some (.slice A n c) := rA.cell 0
  have cR : w1.cell? ⟨w.heap.size + 1, 1, none⟩ = some (.slice A2 n2 c2) := rR.cell 1
  clear bb L1
  go_wp2_with fail
  refine (L2.out w1 bel).mono ?_
  cases ok2 : termOkB sg d.2 with
  | false =>
   have HS2 := hid ok2
   clear ok2
   rintro e w2 ⟨he, bb⟩
   rw [HS2.out] at he
   subst he
   have F := hid (ansB (b := ruleOkB sg d) (a := false) (by rw [rule_noR HS2.out]) (next_trans bel bb))
   clear bb bel rA rR cA cR s1 s2
   go_wp2
   go_ret
   exact F.out
  | true =>
   have HS2 := hid ok2
   clear ok2
   rintro e w2 ⟨he, bb⟩
   rw [HS2.out] at he
   subst he
   replace rR := rR.next bb
   replace bel := next_trans bel bb
   have cR0 : w2.cell? ⟨w.heap.size + 1, 0, none⟩ = some (.slice (some ⟨b, off, none⟩) n1 c1) := rR.cell 0
   have cX : w2.cell? ⟨b, off, none⟩ = some (.int .i64 x) := by have := (bel.cell (p := ⟨b, off + 0, none⟩) hbB).trans hx; simpa using this
   clear bb rA cA cR L2
   by_cases hneg : x < 0
   ·have F := hid (ansB (b := ruleOkB sg d) (a := false) (by rw [rule_var (by rw [EX.out]; exact hneg)]) bel)
    have hdx : decide (x < 0) = true := decide_eq_true hneg
    clear bel rR s1 s2 LC
    go_wp2
    go_ret
    exact F.out
   ·have hdx : decide (x < 0) = false := decide_eq_false hneg
    have cR1 : w2.cell? ⟨w.heap.size + 1, 1, none⟩ = some (.slice A2 n2 c2) := rR.cell 1
    have LC2 := hid (LC.out w2 bel rR)
    have hmf : ∀ (fn : Fn) (first cap : Array Value) (w : World), (Instr.makeFunc fn first cap).run Tryz.prog w = .ok (.func fn first cap) w := fun _ _ _ _ => rfl
    have E := hid (rule_all HS.out HS2.out (by rw [EX.out]; exact hneg))
    clear LC s1 s2
    go_wp2_with fail
    refine LC2.out.mono ?_
    obtain ⟨z, hzz⟩ : ∃ z, d.2.any (newB d.1) = z := ⟨_, rfl⟩
    rw [hzz] at E
    rintro e w3 ⟨he, bb⟩
    rw [hzz] at he
    subst he
    have F := hid (ansB (b := ruleOkB sg d) (a := !z) E.out.symm (next_trans bel bb))
    clear bb bel rR cR0 cR1 cX LC2 E hzz
    go_wp2
    go_ret
    exact F.out
end ruleImpl
end
section
open Go.Lib (hid)
namespace ruleImpl
open Go.RowKit base ints sig term termOk marks app sym segs termFacts varsMath varsOf rename same count linear shape kindsR ruleMath ruleSpec anyR
set_option maxRecDepth 100000
def sysV (a v : Value) (ok : Bool) : Value := if ok = true then .agg #[a, v] else .agg #[.slice none 0 0, .slice none 0 0]
def AnsSys (w : World) (a v : Value) (ok : Bool) (e : Ending) (w' : World) : Prop := e = .returned (.tuple #[sysV a v ok, .bool ok]) ∧ Below w.heap.size w w'
def HeadSO (w : World) (T T' : TypeId) (cs cs' : Array Value) (n : Nat) (f : Rl → Bool) (rs : List Rl) (i : Value) (wr : World) : Prop :=
 ∃ k : Nat, k ≤ n ∧ i = .int .i64 k ∧ (∀ j, j < k → f (rs.getD j ([], [])) = true) ∧ Row wr w.heap.size T cs ∧ Row wr (w.heap.size + 1) T' cs' ∧ Below w.heap.size w wr
theorem headSO_step {w wr : World} {T T' : TypeId} {cs cs' : Array Value} {n k : Nat} {f : Rl → Bool} {rs : List Rl} {x : Rl} (hk : k < n) (hlow : ∀ j, j < k → f (rs.getD j ([], [])) = true) (ex : Hid (rs.getD k ([], []) = x)) (h : f x = true) (hr : Row wr w.heap.size T cs) (hr' : Row wr (w.heap.size + 1) T' cs') (hb : Below w.heap.size w wr) : HeadSO w T T' cs cs' n f rs (.int .i64 ((k : Int) + 1)) wr :=
 ⟨k + 1, hk, by simp, fun j hj => by
  by_cases e : j = k
  ·subst e; rw [ex.out]; exact h
  ·exact hlow j (by omega), hr, hr', hb⟩
set_option maxHeartbeats 8000000 in
theorem systemOf (a v : Value) (d : Dat sSystem) (w : World) (h : Rd w w.heap.size sSystem [a, v] d) (hz : sz sSystem d ≤ 1048576) :
  Calls Tryz.prog 55 #[.agg #[a, v]] w (AnsSys w a v (sysOkB d.1 d.2)) := by
 have hzs := hid (sys_szs hz)
 obtain ⟨A, n, c, V, m, cv, rfl, rfl, hs, hc, hcv, hm, hn, hm1, hrs, hsg, hE⟩ := rd_sys h hz
 obtain ⟨W, hW, rA, rR, bel⟩ := box2 w 32 100 #[.slice A n c, .slice V m cv] #[.slice none 0 0, .slice none 0 0]
 have HW := hid hW
 have HM := hid hm
 have HE := hid hE
 have HR := hid hrs
 have L1 := hid (implSigOk A n c d.1 W (hs.next bel) hn)
 have LR := hid (fun (w1 : World) (l r : Value) (x : Dat sRule) (bb : Below w.heap.size w w1) (hx : Rd w1 w1.heap.size sRule [l, r] x) (hzx : sz sRule x ≤ 1048576) => implRuleOk (.slice A n c) l r d.1 x w1 (hsg.next bb) hx hzs.out.1 hzx)
 clear hW h hz hs hc hcv hm hE hrs hsg
 cases ok1 : sigOkB d.1 with
 | false =>
  have HS := hid ok1
  clear ok1
  go_enter Tryz.func55, Tryz.ntmps55
  go_wp2_with fail
  rw [← HW.out]
  refine L1.out.mono ?_
  rintro e w1 ⟨he, bb⟩
  rw [HS.out] at he
  subst he
  replace rR := rR.next bb
  replace bel := next_trans bel bb
  have y0 : w1.cell? ⟨w.heap.size + 1, 0, none⟩ = some (.slice none 0 0) := rR.cell 0
  have y1 : w1.cell? ⟨w.heap.size + 1, 1, none⟩ = some (.slice none 0 0) := rR.cell 1
  have f0 := rR.free 0
  have f1 := rR.free 1
  have r1 := rR.put 0 (.slice none 0 0)
  have y2 : (w1.setCell ⟨w.heap.size + 1, 0, none⟩ (.slice none 0 0)).cell? ⟨w.heap.size + 1, 1, none⟩ = some (.slice none 0 0) := r1.cell 1
  have f2 := r1.free 1
  have r2 := r1.put 1 (.slice none 0 0)
  have u0 : ((w1.setCell ⟨w.heap.size + 1, 0, none⟩ (.slice none 0 0)).setCell ⟨w.heap.size + 1, 1, none⟩ (.slice none 0 0)).cell? ⟨w.heap.size + 1, 0, none⟩ = some (.slice none 0 0) := r2.cell 0
  have u1 : ((w1.setCell ⟨w.heap.size + 1, 0, none⟩ (.slice none 0 0)).setCell ⟨w.heap.size + 1, 1, none⟩ (.slice none 0 0)).cell? ⟨w.heap.size + 1, 1, none⟩ = some (.slice none 0 0) := r2.cell 1
  have F : AnsSys w (.slice A n c) (.slice V m cv) (sysOkB d.1 d.2) (.returned (.tuple #[.agg #[.slice none 0 0, .slice none 0 0], .bool false])) ((w1.setCell ⟨w.heap.size + 1, 0, none⟩ (.slice none 0 0)).setCell ⟨w.heap.size + 1, 1, none⟩ (.slice none 0 0)) :=
   ⟨by rw [sys_sig HS.out]; rfl, (bel.setCell (by simp) _).setCell (by simp) _⟩
  have HF := hid F
  clear F bel rA rR bb r1 r2 LR
  go_wp2
  exact bodyPost_ret (v := .tuple #[.agg #[.slice none 0 0, .slice none 0 0], .bool false]) (by simp [results, Tryz.results55, go_sem, u0, u1]) rfl HF.out
 | true =>
  have HS := hid ok1
  clear ok1
  go_enter Tryz.func55, Tryz.ntmps55
  go_wp2_with fail
  rw [← HW.out]
  refine L1.out.mono ?_
  rintro e w1 ⟨he, bb⟩
  rw [HS.out] at he
  subst he
  replace rA := rA.next bb
  replace rR := rR.next bb
  replace bel := next_trans bel bb
  have cR : w1.cell? ⟨w.heap.size, 1, none⟩ = some (.slice V m cv) := rA.cell 1
  clear bb L1
  by_cases h12 : m ≤ 12
  ·have H0 : Hid (HeadSO w 32 100 #[.slice A n c, .slice V m cv] #[.slice none 0 0, .slice none 0 0] m (ruleOkB d.1) d.2 (.int .i64 0) w1) := hid ⟨0, Nat.zero_le _, rfl, fun j hj => absurd hj (Nat.not_lt_zero _), rA, rR, bel⟩
   clear rA rR bel
   go_wp2_with fail
   go_loopw [20] (fun i wr => HeadSO w 32 100 #[.slice A n c, .slice V m cv] #[.slice none 0 0, .slice none 0 0] m (ruleOkB d.1) d.2 i wr) (fun i _ => m - (intOf i).toNat)
   case atStart => exact H0.out
   case round =>
    obtain ⟨k, hk, rfl, hlow, rr, rs, hb⟩ := hrel
    have HLOW := hid hlow
    clear hlow H0 cR
    have cA0 : wr.cell? ⟨w.heap.size, 0, none⟩ = some (.slice A n c) := rr.cell 0
    have cA1 : wr.cell? ⟨w.heap.size, 1, none⟩ = some (.slice V m cv) := rr.cell 1
    by_cases hlt : k < m
    ·obtain ⟨b, off, l, r, x, rfl, hbB, ex, hc0, hc1, hx⟩ := rd_at HR.out hb HM.out hlt
     have hzx : sz sRule x ≤ 1048576 := by have := HE.out k hlt; rw [ex.out] at this; exact this
     obtain ⟨A1, n1, c1, A2, n2, c2, rfl, rfl, s1, k1, s2, k2, hn1, hn2⟩ := rd_rule hx hzx
     obtain ⟨w2, hw2⟩ : ∃ x, x = wr.alloc (.cells #[.slice A1 n1 c1, .slice A2 n2 c2] 48) := ⟨_, rfl⟩
     have bb : Below wr.heap.size wr w2 := by rw [hw2]; exact (Below.refl _ _).alloc (Nat.le_refl _) _
     have rx : Row w2 wr.heap.size 48 #[.slice A1 n1 c1, .slice A2 n2 c2] := by rw [hw2]; exact Row.new wr 48 #[.slice A1 n1 c1, .slice A2 n2 c2]
     have rr2 := rr.next bb
     have rs2 := rs.next bb
     have hb2 := next_trans hb bb
     have L := hid (LR.out w2 (.slice A1 n1 c1) (.slice A2 n2 c2) x hb2 ((hx.more hb.size).next bb) hzx)
     have x0 : w2.cell? ⟨wr.heap.size, 0, none⟩ = some (.slice A1 n1 c1) := rx.cell 0
     have x1 : w2.cell? ⟨wr.heap.size, 1, none⟩ = some (.slice A2 n2 c2) := rx.cell 1
     have x2 : w2.cell? ⟨w.heap.size, 0, none⟩ = some (.slice A n c) := rr2.cell 0
     have X0 := x0
     have X1 := x1
     have X2 := x2
     rw [hw2] at X0 X1 X2
     have HW2 := hid hw2
     have i0 : (0 : Int) ≤ (k : Int) := by omega
     have i1 : (k : Int) < (m : Int) := by omega
     clear hx hzx s1 s2 k1 k2 rr rs hb bb rx hw2
     go_wp2_with fail
     rw [← HW2.out]
     refine L.out.mono ?_
     cases ok : ruleOkB d.1 x with
     | false =>
      have HO := hid ok
      clear ok
      rintro e w3 ⟨he, bb⟩
      subst he
      have rR := rs2.next bb
      have bel := next_trans hb2 bb
      have y0 : w3.cell? ⟨w.heap.size + 1, 0, none⟩ = some (.slice none 0 0) := rR.cell 0
      have y1 : w3.cell? ⟨w.heap.size + 1, 1, none⟩ = some (.slice none 0 0) := rR.cell 1
      have f0 := rR.free 0
      have f1 := rR.free 1
      have r1 := rR.put 0 (.slice none 0 0)
      have y2 : (w3.setCell ⟨w.heap.size + 1, 0, none⟩ (.slice none 0 0)).cell? ⟨w.heap.size + 1, 1, none⟩ = some (.slice none 0 0) := r1.cell 1
      have f2 := r1.free 1
      have r2 := r1.put 1 (.slice none 0 0)
      have u0 : ((w3.setCell ⟨w.heap.size + 1, 0, none⟩ (.slice none 0 0)).setCell ⟨w.heap.size + 1, 1, none⟩ (.slice none 0 0)).cell? ⟨w.heap.size + 1, 0, none⟩ = some (.slice none 0 0) := r2.cell 0
      have u1 : ((w3.setCell ⟨w.heap.size + 1, 0, none⟩ (.slice none 0 0)).setCell ⟨w.heap.size + 1, 1, none⟩ (.slice none 0 0)).cell? ⟨w.heap.size + 1, 1, none⟩ = some (.slice none 0 0) := r2.cell 1
      have F : AnsSys w (.slice A n c) (.slice (some ⟨b, off, none⟩) m cv) (sysOkB d.1 d.2) (.returned (.tuple #[.agg #[.slice none 0 0, .slice none 0 0], .bool false])) ((w3.setCell ⟨w.heap.size + 1, 0, none⟩ (.slice none 0 0)).setCell ⟨w.heap.size + 1, 1, none⟩ (.slice none 0 0)) :=
       ⟨by rw [sys_bad (k := k) (by rw [HM.out]; exact hlt) (by rw [ex.out]; exact HO.out)]; rfl, (bel.setCell (by simp) _).setCell (by simp) _⟩
      have HF := hid F
      clear F bel rR bb r1 r2 LR rr2 rs2 hb2 x0 x1 x2 X0 X1 X2 cA0 cA1 hc0 hc1 L
      go_wp2
      exact bodyPost_ret (v := .tuple #[.agg #[.slice none 0 0, .slice none 0 0], .bool false]) (by simp [results, Tryz.results55, go_sem, u0, u1]) rfl HF.out
     | true =>
      have HO := hid ok
      clear ok
      rintro e w3 ⟨he, bb⟩
      subst he
      have F := hid (headSO_step (f := ruleOkB d.1) (w := w) hlt HLOW.out ex HO.out (rr2.next bb) (rs2.next bb) (next_trans hb2 bb))
      clear bb rr2 rs2 hb2 L x0 x1 x2 X0 X1 X2 cA0 cA1 hc0 hc1
      go_wp2
      go_roundw
      case rel => exact F.out
      case measure => simp [intOf]; omega
    ·have OK := hid (show sysOkB d.1 d.2 = true from sys_good HS.out (by rw [HM.out]; exact h12) (fun j hj => HLOW.out j (by rw [HM.out] at hj; omega)))
     have y0 : wr.cell? ⟨w.heap.size + 1, 0, none⟩ = some (.slice none 0 0) := rs.cell 0
     have f0 := rs.free 0
     have r1 := rs.put 0 (.slice A n c)
     have y2 : (wr.setCell ⟨w.heap.size + 1, 0, none⟩ (.slice A n c)).cell? ⟨w.heap.size + 1, 1, none⟩ = some (.slice none 0 0) := r1.cell 1
     have f2 := r1.free 1
     have r2 := r1.put 1 (.slice V m cv)
     have u0 : ((wr.setCell ⟨w.heap.size + 1, 0, none⟩ (.slice A n c)).setCell ⟨w.heap.size + 1, 1, none⟩ (.slice V m cv)).cell? ⟨w.heap.size + 1, 0, none⟩ = some (.slice A n c) := r2.cell 0
     have u1 : ((wr.setCell ⟨w.heap.size + 1, 0, none⟩ (.slice A n c)).setCell ⟨w.heap.size + 1, 1, none⟩ (.slice V m cv)).cell? ⟨w.heap.size + 1, 1, none⟩ = some (.slice V m cv) := r2.cell 1
     have F : AnsSys w (.slice A n c) (.slice V m cv) (sysOkB d.1 d.2) (.returned (.tuple #[.agg #[.slice A n c, .slice V m cv], .bool true])) ((wr.setCell ⟨w.heap.size + 1, 0, none⟩ (.slice A n c)).setCell ⟨w.heap.size + 1, 1, none⟩ (.slice V m cv)) :=
      ⟨by rw [OK.out]; rfl, (hb.setCell (by simp) _).setCell (by simp) _⟩
     have HF := hid F
     clear F hb rr rs r1 r2 LR
     go_wp2
     exact bodyPost_ret (v := .tuple #[.agg #[.slice A n c, .slice V m cv], .bool true]) (by simp [results, Tryz.results55, go_sem, u0, u1]) rfl HF.out
  ·have i1 : (12 : Int) < (m : Int) := by omega
   have y0 : w1.cell? ⟨w.heap.size + 1, 0, none⟩ = some (.slice none 0 0) := rR.cell 0
   have y1 : w1.cell? ⟨w.heap.size + 1, 1, none⟩ = some (.slice none 0 0) := rR.cell 1
   have f0 := rR.free 0
   have f1 := rR.free 1
   have r1 := rR.put 0 (.slice none 0 0)
   have y2 : (w1.setCell ⟨w.heap.size + 1, 0, none⟩ (.slice none 0 0)).cell? ⟨w.heap.size + 1, 1, none⟩ = some (.slice none 0 0) := r1.cell 1
   have f2 := r1.free 1
   have r2 := r1.put 1 (.slice none 0 0)
   have u0 : ((w1.setCell ⟨w.heap.size + 1, 0, none⟩ (.slice none 0 0)).setCell ⟨w.heap.size + 1, 1, none⟩ (.slice none 0 0)).cell? ⟨w.heap.size + 1, 0, none⟩ = some (.slice none 0 0) := r2.cell 0
   have u1 : ((w1.setCell ⟨w.heap.size + 1, 0, none⟩ (.slice none 0 0)).setCell ⟨w.heap.size + 1, 1, none⟩ (.slice none 0 0)).cell? ⟨w.heap.size + 1, 1, none⟩ = some (.slice none 0 0) := r2.cell 1
   have F : AnsSys w (.slice A n c) (.slice V m cv) (sysOkB d.1 d.2) (.returned (.tuple #[.agg #[.slice none 0 0, .slice none 0 0], .bool false])) ((w1.setCell ⟨w.heap.size + 1, 0, none⟩ (.slice none 0 0)).setCell ⟨w.heap.size + 1, 1, none⟩ (.slice none 0 0)) :=
    ⟨by rw [sys_long HM.out h12]; rfl, (bel.setCell (by simp) _).setCell (by simp) _⟩
   have HF := hid F
   clear F bel rA rR r1 r2 LR
   go_wp2
   exact bodyPost_ret (v := .tuple #[.agg #[.slice none 0 0, .slice none 0 0], .bool false]) (by simp [results, Tryz.results55, go_sem, u0, u1]) rfl HF.out
end ruleImpl
end
section
open Go.Lib (hid)
open List (setIfInBounds_toArray set_cons_zero set_cons_succ getElem_toArray getElem_cons_zero getElem_cons_succ)
namespace stepImpl
open Go.RowKit base ints sig term termOk endAt inside marks app sym sub segs segsHelp kinds termFacts termMath posMath plainMath gives Go.Proofs.YtlaloakegajheaaGreat.look fillMath matchMath matchSpec whole takeMath take extended varsOf shape kindsR ruleMath ruleSpec ruleImpl stepMath walkMath stepSpec heldT
set_option maxRecDepth 100000
theorem step_by {sg : List Int} {x : Rl} {t : List Int} {a : Nat} {L : Nat → List Int} (hx : ruleOkB sg x = true) (ht : termOkB sg t = true) (ha : a < t.length) (hL : Turns sg x.1 (subL sg t a) L) :
  stepO sg x t a = if (fillL L x.2).length ≤ 60 ∧ (putAt sg t (fillL L x.2) a).length ≤ 60 then some (putAt sg t (fillL L x.2) a) else none := by
 obtain ⟨h1, h2, h3, h4⟩ := rule_parts hx
 have hs := sub_ok ht ha
 obtain ⟨ss, hm, hg⟩ := turns_match h1 hs hL
 rw [match_yes h1 hs] at hm
 have g := gives_of h1 hs hm
 have e : fillL (givesL ss) x.2 = fillL L x.2 := fill_ext (fun y hy h0 => by
  have hy1 := h4 y hy h0
  show givesL ss (vr y) = L (vr y)
  rw [g.2 y hy1 h0]
  exact hg y hy1 h0)
 unfold stepO
 rw [hm]
 dsimp only
 rw [e]
theorem at_turns {sg p t : List Int} {k : Nat} {s : List (List Int)} (h1 : termOkB sg p = true) (h2 : termOkB sg t = true) (h : mst sg t p k s0 = some s) : Turns sg p (subL sg t k) (givesL s) := by
 have hx : ∀ x ∈ p, -24 ≤ x := fun x hx => (term_mem h1 hx).1
 obtain ⟨⟨rest, e⟩, hv⟩ := mst_sound h2 h (by rfl) hx
 have hg : ∀ x ∈ p, x < 0 → givesL s (vr x) = s.getD (vr x) [] := fun x hx h0 => by
  have this : scan sg 1 (s.getD (vr x) []) = some (s.getD (vr x) []).length := hv x hx h0
  unfold givesL
  rw [if_neg ?_]
  intro e0
  have e1 : s.getD (vr x) [] = [] := List.length_eq_zero_iff.1 e0
  rw [e1] at this
  exact absurd this (by simp [scan])
 have ef : fillL (givesL s) p = fillL (fun i => s.getD i []) p := fill_ext fun x hx h0 => hg x hx h0
 refine ⟨?_, fun x hx h0 => by rw [hg x hx h0]; exact hv x hx h0⟩
 rw [ef]
 have a := scan_append (r := rest) (scan_fill (L := fun i => s.getD i []) (term_parts h1).2.2 hv)
 rw [← e] at a
 unfold subL
 rw [len1_eq a, e, List.take_left' rfl]
theorem reduce_by {sg : List Int} {x : Rl} {t : List Int} {a : Nat} {s : List (List Int)} (hx : ruleOkB sg x = true) (ht : termOkB sg t = true) (ha : a < t.length) (h : mst sg t x.1 a s0 = some s) :
  (stepO sg x t a).getD [] = put.putR sg t (fillL (givesL s) x.2) (a : Int) ∧ (stepO sg x t a).isSome = put.putB sg t (fillL (givesL s) x.2) (a : Int) := by
 obtain ⟨h1, h2, h3, h4⟩ := rule_parts hx
 obtain ⟨s1, s2, s3⟩ := term_parts ht
 have hT := at_turns h1 ht h
 have hth : thereB sg t (a : Int) = true := there_yes ht (by omega) (by omega)
 have hterm : termOkB sg (fillL (givesL s) x.2) = decide ((fillL (givesL s) x.2).length ≤ 60) := by
  by_cases hl : (fillL (givesL s) x.2).length ≤ 60
  ·rw [decide_eq_true hl]
   exact term_mk s1 hl (scan_fill (term_parts h2).2.2 (fun y hy h0 => hT.2 y (h4 y hy h0) h0))
  ·rw [decide_eq_false hl]
   cases e : termOkB sg (fillL (givesL s) x.2) with
   | false => rfl
   | true => exact absurd (term_len e).2 hl
 rw [step_by hx ht ha hT]
 unfold put.putR put.putB
 rw [hth, hterm, Bool.true_and, Int.toNat_natCast]
 unfold put.fitB
 have e1 : put.putI sg t (fillL (givesL s) x.2) a = putAt sg t (fillL (givesL s) x.2) a := rfl
 rw [e1]
 by_cases hl : (fillL (givesL s) x.2).length ≤ 60
 ·by_cases hh : (putAt sg t (fillL (givesL s) x.2) a).length ≤ 60
  ·rw [if_pos ⟨hl, hh⟩, decide_eq_true hl, decide_eq_true hh]; exact ⟨rfl, rfl⟩
  ·rw [if_neg (fun h => hh h.2), decide_eq_true hl, decide_eq_false hh]; exact ⟨rfl, rfl⟩
 ·rw [if_neg (fun h => hl h.1), decide_eq_false hl]; exact ⟨rfl, rfl⟩
theorem red_at {sg : List Int} {x : Rl} {t : List Int} {a : Nat} (hx : ruleOkB sg x = true) (ht : termOkB sg t = true) (ha : a < t.length) : (mst sg t x.1 a s0).isSome = redB sg x t a := by
 obtain ⟨h1, _⟩ := rule_parts hx
 rw [mst_at h1 ht ha]
 unfold redB instB
 rw [match_yes h1 (sub_ok ht ha)]
set_option maxHeartbeats 1000000 in
theorem lookB (cs : Array Value) (s : List (List Int)) (w : World) (htab : TabR w w.heap.size cs s) :
  Calls Tryz.prog 207 #[.agg cs] w fun e w' => ∃ g, e = .returned (.func (.func 189) #[] #[.pointer (some ⟨g, 0, none⟩)]) ∧ Row w' g 52 #[.slice (some ⟨w.heap.size, 0, none⟩) 24 24] ∧ Segs w' w'.heap.size (some ⟨w.heap.size, 0, none⟩) 24 s ∧ Below w.heap.size w w' ∧ w.heap.size ≤ g := by
 obtain ⟨W, hW⟩ : ∃ W, W = w.alloc (.cells cs 240) := ⟨_, rfl⟩
 have b0 : Below w.heap.size w W := by rw [hW]; exact (Below.refl _ _).alloc (Nat.le_refl _) _
 have r0 : Row W w.heap.size 240 cs := by rw [hW]; exact Row.new w _ _
 have s1 : Segs W W.heap.size (some ⟨w.heap.size, 0, none⟩) 24 s := (htab.below b0).segs r0 b0.size
 have HW := hid hW
 clear hW htab r0
 go_enter Tryz.func207, Tryz.ntmps207
 go_wp2_with (first
  | (refine rowBox rfl 240 _ rfl cs rfl ?_))
 rw [← HW.out]
 refine (lookupIn (some ⟨w.heap.size, 0, none⟩) 24 24 W).mono ?_
 rintro e w3 ⟨rfl, hw3⟩
 have b3 : Below W.heap.size W w3 := by rw [hw3]; exact (Below.refl _ _).alloc (Nat.le_refl _) _
 have r3 : Row w3 W.heap.size 52 #[.slice (some ⟨w.heap.size, 0, none⟩) 24 24] := by rw [hw3]; exact Row.new _ _ _
 have F := hid (show ∃ g, Ending.returned (.func (.func 189) #[] #[.pointer (some ⟨W.heap.size, 0, none⟩)]) = .returned (.func (.func 189) #[] #[.pointer (some ⟨g, 0, none⟩)]) ∧ Row w3 g 52 #[.slice (some ⟨w.heap.size, 0, none⟩) 24 24] ∧ Segs w3 w3.heap.size (some ⟨w.heap.size, 0, none⟩) 24 s ∧ Below w.heap.size w w3 ∧ w.heap.size ≤ g from ⟨_, rfl, r3, s1.next b3, next_trans b0 b3, b0.size⟩)
 clear hw3 b3 r3 s1 b0
 go_wp2
 go_ret
 exact F.out
theorem run_loadRow {P : Program} {o : Oper} {a : Act} {w : World} (ty : TypeId) (x : Operand) (ho : o.op = .load ty x) (g : Nat) (hx : a.eval x = .pointer (some ⟨g, 0, none⟩)) (t : TypeId) (cs : Array Value) (fz : Nat × Nat) (d : TypeDesc) (hg : w.heap[g]? = some (.cells cs t fz)) (hu : P.underlying ty = some d) (hd : (match d with | .struct _ | .array _ _ => true | _ => false) = true) (hi : (P.info? ty).map (·.size) = some cs.size) :
  (execOp a.eval o).run P w = .ok (.value (.agg cs)) w := by
 unfold execOp
 simp [ho, hx, Instr.loadAt, Instr.sureAddr, Sem.run_bind, Result.andThen_ok, run_loadVar_row w g t ty cs fz d hg hu hd hi]
set_option maxHeartbeats 4000000 in
theorem reduced (a v u : Value) (d : Dat sSystem) (t : List Int) (x k : Nat) (w : World) (h : Rd w w.heap.size sSystem [a, v] d) (ht : Rd w w.heap.size sI [u] t) (hz : sz sSystem d ≤ 1048576) (hok : rightB d.1 d.2 t = true) (hx : x < t.length) (hk : k < d.2.length) (hred : redB d.1 (d.2.getD k ([], [])) t x = true) :
  Calls Tryz.prog 186 #[.agg #[a, v], u, .int .i64 (x : Int), .int .i64 (k : Int)] w (AnsStep w (stepO d.1 (d.2.getD k ([], [])) t x)) := by
 obtain ⟨oks, okt⟩ := right_parts hok
 have h0 := h
 have ht0 := ht
 have hk0 := hk
 obtain ⟨T, m, c, rfl, hT, hcT⟩ := rd_ints.1 ht
 have hm : m ≤ 60 := by have := (term_len okt).2; have := hT.1; omega
 obtain ⟨A, n, cs, V, q, cv, rfl, rfl, hs, hc, hcv, hq, hn, hq1, hrs, hsg, hE⟩ := rd_sys h hz
 rw [hq] at hk
 obtain ⟨b, off, l, rr, y, rfl, hb, ey, cl, cr, hry⟩ := rd_at hrs (Below.refl _ _) hq hk
 have hzy : sz sRule y ≤ 1048576 := by rw [← ey.out]; exact hE k hk
 have okr : ruleOkB d.1 y = true := by rw [← ey.out]; exact sys_rule oks (by rw [hq]; exact hk)
 obtain ⟨P, pn, pc, P', pn', pc', rfl, rfl, sP, kP, sP', kP', hpn, hpn'⟩ := rd_rule hry hzy
 rw [ey.out] at hred ⊢
 obtain ⟨W, hW, rA, bel⟩ := box1 w 100 #[.slice A n cs, .slice (some ⟨b, off, none⟩) q cv]
 have HW := hid hW
 have okR := (rule_parts okr).2.1
 have hpn60 : pn' ≤ 60 := by have := (term_len okR).2; have := sP'.1; omega
 have LM := hid (matchAt _ _ _ d t x k W (h0.next bel) (ht0.next bel) hz hok hx hk0)
 rw [ey.out] at LM
 obtain ⟨s, hs0⟩ := Option.isSome_iff_exists.1 (show (mst d.1 t y.1 x s0).isSome = true by rw [red_at okr okt hx]; exact hred)
 rw [hs0] at LM
 have HRB := hid (reduce_by okr okt hx hs0)
 have zA0 : w.heap.size < W.heap.size := rA.lt
 have SS := hid (show Seg w w.heap.size A n d.1 ∧ Seg w w.heap.size T m t ∧ Seg w w.heap.size P' pn' y.2 ∧ m ≤ c ∧ c ≤ 9223372036854775807 from ⟨hs, hT, sP', hcT.1, hcT.2.1⟩)
 have HVS := hid (fun z (hz : z ∈ y.2) => (term_mem okR hz).1)
 have HFL := hid (fun (hM : ∀ i, (givesL s i).length ≤ 60) => (show (fillL (givesL s) y.2).length ≤ 1048576 by
  have h1 := fill_bound (L := givesL s) (t := y.2) (m := pn') (k := pn') (fun i => Nat.le_trans (hM i) (by omega)) sP'.1 hpn60
  rw [List.take_of_length_le (by rw [sP'.1]; exact Nat.le_refl _)] at h1
  omega))
 have K2w : w.cell? ⟨b, off + k * 2 + 1, none⟩ = some (.slice P' pn' pc') := cr
 have i0 : (0 : Int) ≤ (k : Int) := by omega
 have i1 : (k : Int) < (q : Int) := by omega
 have x1 : -9223372036854775808 ≤ (x : Int) := by omega
 have x2 : (x : Int) ≤ 9223372036854775807 := by have := hT.1; omega
 have BEL := hid bel
 have RA := hid rA
 clear hW h h0 ht ht0 hk0 hs hc hcv hq hrs hsg hE hT hcT oks okt okr okR sP kP sP' kP' hry hzy hx hok hz ey rA bel cl cr hs0 hpn hpn' hq1 hred
 go_enter Tryz.func186, Tryz.ntmps186
 go_wp2_with fail
 rw [← HW.out]
 refine LM.out.mono ?_
 rintro e w1 ⟨rs, rfl, tab, hsz, bb⟩
 have tab : TabR w1 W.heap.size rs s := tab
 have hsz : ∀ j, (s.getD j []).length ≤ 60 := hsz
 have h24 := hid tab.1
 have one := hid tab.one
 have HGV := hid (fun i => (show (givesL s i).length ≤ 60 by
  unfold givesL
  split
  ·simp [vt]
  ·exact hsz i))
 have TAB := hid tab
 have HB1 := hid bb
 clear LM tab hsz bb
 go_upto_region 2 with (first
  | (refine rowAlloc rfl 240 rfl z24 zero_b ?_)
  | (refine rowStore rfl 240 _ _ rfl w1.heap.size rs z24 240 rfl rfl (heap_alloc_new w1 _) (by rw [h24.out]; exact size_b) (by rw [h24.out]; rfl) one.out ?_; rw [World.setRow_alloc_new]))
 obtain ⟨w2, hw2⟩ : ∃ w2, w2 = w1.alloc (.cells rs 240) := ⟨_, rfl⟩
 rw [← hw2]
 have b12 : Below w1.heap.size w1 w2 := by rw [hw2]; exact (Below.refl _ _).alloc (Nat.le_refl _) _
 have b2 := next_trans HB1.out b12
 have zA : w.heap.size < w2.heap.size := Nat.lt_of_lt_of_le zA0 b2.size
 have zB : b < w2.heap.size := by omega
 have zC : w1.heap.size < w2.heap.size := by rw [hw2]; simp
 have rA2 := RA.out.next b2
 have bel2 := BEL.out.trans (b2.mono BEL.out.size)
 have K0 : w2.cell? ⟨w.heap.size, 0, none⟩ = some (.slice A n cs) := rA2.cell 0
 have K1 : w2.cell? ⟨w.heap.size, 1, none⟩ = some (.slice (some ⟨b, off, none⟩) q cv) := rA2.cell 1
 have K2 : w2.cell? ⟨b, off + k * 2 + 1, none⟩ = some (.slice P' pn' pc') := (bel2.cell (p := ⟨b, off + k * 2 + 1, none⟩) hb).trans K2w
 have K3 : w2.heap[w1.heap.size]? = some (.cells rs 240 (0, 0)) := by rw [hw2]; exact heap_alloc_new w1 _
 have LK := hid (lookB rs s w2.drew ((TAB.out.below (b12.mono HB1.out.size)).more (Nat.le_trans HB1.out.size b12.size)))
 have LFILL := hid (fun g (w3 : World) rg sg (bx : Below w2.drew.heap.size w2.drew w3) => fill 189 #[.pointer (some ⟨g, 0, none⟩)] (enters_of Tryz.func189 (by kernel_rfl) rfl) P' pn' pc' y.2 (givesL s) w3 (lookSubst g (some ⟨w2.heap.size, 0, none⟩) 24 24 s w3 rg sg (by omega)) (SS.out.2.2.1.next (bel2.drew.trans (bx.mono bel2.size))) hpn60 HVS.out (fun i => Nat.le_trans (HGV.out i) (by omega)))
 have LPUT := hid (fun O on oc (w4 : World) (bx : Below w2.drew.heap.size w2.drew w4) {lo : Nat} (oO : Own w4 lo (.slice O on oc) (fillL (givesL s) y.2)) => put.implPutAt A T O n cs m c on oc d.1 t (x : Int) (fillL (givesL s) y.2) w4 (SS.out.1.next (bel2.drew.trans (bx.mono bel2.size))) (SS.out.2.1.next (bel2.drew.trans (bx.mono bel2.size))) (Own.seg oO) hn (by omega) (by rw [Own.len oO]; exact HFL.out HGV.out) x1 x2 (own_cap oO) SS.out.2.2.2.1 SS.out.2.2.2.2)
 have BEL2 := hid bel2
 clear hw2 b12 b2 rA2 bel2 TAB BEL RA zA0
 refine AnyT.start (S := (fun w' => w'.cell? ⟨w.heap.size, 0, none⟩ = some (.slice A n cs) ∧ w'.cell? ⟨w.heap.size, 1, none⟩ = some (.slice (some ⟨b, off, none⟩) q cv) ∧ w'.cell? ⟨b, off + k * 2 + 1, none⟩ = some (.slice P' pn' pc') ∧ w'.heap[w1.heap.size]? = some (.cells rs 240 (0, 0)))) (fun _ => false) (by kernel_rfl) ⟨K0, K1, K2, K3⟩ (fun hHeld => ?_)
 refine AnyT.takeA (i := 0) (v := ?_) rfl (by kernel_rfl) (by kernel_rfl) (by kernel_rfl) (fun _ _ _ h => h) (Or.inl ⟨by rfl, ?_⟩) ?_
 rotate_left 1
 ·(intro w0 _; go_simp; try with_reducible rfl)
 try simp only [Act.put, setIfInBounds_toArray, set_cons_zero, set_cons_succ, getElem_toArray, getElem_cons_zero, getElem_cons_succ]
 refine AnyT.take (i := 1) (v := ?_) rfl (by kernel_rfl) (by kernel_rfl) (by kernel_rfl) (by kernel_rfl) (fun _ _ _ h => h) (Or.inl ⟨by rfl, ?_⟩) (by assumption) ?_
 rotate_left 1
 ·(intro w0 hSw; (try dsimp only at hSw); go_simp; try with_reducible rfl)
 try simp only [Act.put, setIfInBounds_toArray, set_cons_zero, set_cons_succ, getElem_toArray, getElem_cons_zero, getElem_cons_succ]
 refine AnyT.takeA (i := 2) (v := ?_) rfl (by kernel_rfl) (by kernel_rfl) (by kernel_rfl) (fun _ _ _ h => h) (Or.inl ⟨by rfl, ?_⟩) ?_
 rotate_left 1
 ·(intro w0 _; go_simp; try with_reducible rfl)
 try simp only [Act.put, setIfInBounds_toArray, set_cons_zero, set_cons_succ, getElem_toArray, getElem_cons_zero, getElem_cons_succ]
 refine AnyT.takeA (i := 3) (v := ?_) rfl (by kernel_rfl) (by kernel_rfl) (by kernel_rfl) (fun _ _ _ h => h) (Or.inl ⟨by rfl, ?_⟩) ?_
 rotate_left 1
 ·(intro w0 _; go_simp; try with_reducible rfl)
 try simp only [Act.put, setIfInBounds_toArray, set_cons_zero, set_cons_succ, getElem_toArray, getElem_cons_zero, getElem_cons_succ]
 refine AnyT.take (i := 4) (v := .agg rs) rfl (by kernel_rfl) (by kernel_rfl) (by kernel_rfl) (by kernel_rfl) (fun _ _ _ h => h) (Or.inl ⟨by rfl, ?_⟩) (by assumption) ?_
 ·(intro w0 hSw; exact run_loadRow 240 _ rfl w1.heap.size rfl 240 rs (0, 0) _ hSw.2.2.2 Tryz.underlying240 rfl (by rw [h24.out]; exact size_b))
 try simp only [Act.put, setIfInBounds_toArray, set_cons_zero, set_cons_succ, getElem_toArray, getElem_cons_zero, getElem_cons_succ]
 refine AnyT.takeA (i := 6) (v := ?_) rfl (by kernel_rfl) (by kernel_rfl) (by kernel_rfl) (fun _ _ _ h => h) (Or.inl ⟨by rfl, ?_⟩) ?_
 rotate_left 1
 ·(intro w0 _; go_simp; try with_reducible rfl)
 try simp only [Act.put, setIfInBounds_toArray, set_cons_zero, set_cons_succ, getElem_toArray, getElem_cons_zero, getElem_cons_succ]
 refine AnyT.take (i := 7) (v := ?_) rfl (by kernel_rfl) (by kernel_rfl) (by kernel_rfl) (by kernel_rfl) (fun _ _ _ h => h) (Or.inl ⟨by rfl, ?_⟩) (by assumption) ?_
 rotate_left 1
 ·(intro w0 hSw; (try dsimp only at hSw); go_simp; try with_reducible rfl)
 try simp only [Act.put, setIfInBounds_toArray, set_cons_zero, set_cons_succ, getElem_toArray, getElem_cons_zero, getElem_cons_succ]
 refine AnyT.takeA (i := 8) (v := ?_) rfl (by kernel_rfl) (by kernel_rfl) (by kernel_rfl) (fun _ _ _ h => h) (Or.inl ⟨by rfl, ?_⟩) ?_
 rotate_left 1
 ·(intro w0 _; go_simp; try with_reducible rfl)
 try simp only [Act.put, setIfInBounds_toArray, set_cons_zero, set_cons_succ, getElem_toArray, getElem_cons_zero, getElem_cons_succ]
 refine AnyT.takeA (i := 9) (v := ?_) rfl (by kernel_rfl) (by kernel_rfl) (by kernel_rfl) (fun _ _ _ h => h) (Or.inl ⟨by rfl, ?_⟩) ?_
 rotate_left 1
 ·(intro w0 _; go_simp; try with_reducible rfl)
 try simp only [Act.put, setIfInBounds_toArray, set_cons_zero, set_cons_succ, getElem_toArray, getElem_cons_zero, getElem_cons_succ]
 refine AnyT.takeA (i := 10) (v := ?_) rfl (by kernel_rfl) (by kernel_rfl) (by kernel_rfl) (fun _ _ _ h => h) (Or.inl ⟨by rfl, ?_⟩) ?_
 rotate_left 1
 ·(intro w0 _; go_simp; try with_reducible rfl)
 try simp only [Act.put, setIfInBounds_toArray, set_cons_zero, set_cons_succ, getElem_toArray, getElem_cons_zero, getElem_cons_succ]
 refine AnyT.take (i := 11) (v := ?_) rfl (by kernel_rfl) (by kernel_rfl) (by kernel_rfl) (by kernel_rfl) (fun _ _ _ h => h) (Or.inl ⟨by rfl, ?_⟩) (by assumption) ?_
 rotate_left 1
 ·(intro w0 hSw; (try dsimp only at hSw); go_simp; try with_reducible rfl)
 try simp only [Act.put, setIfInBounds_toArray, set_cons_zero, set_cons_succ, getElem_toArray, getElem_cons_zero, getElem_cons_succ]
 refine AnyT.call (i := 5) (by kernel_rfl) rfl (fun K hK => ?_)
 try simp only [Act.put, setIfInBounds_toArray, set_cons_zero, set_cons_succ, getElem_toArray, getElem_cons_zero, getElem_cons_succ]
 rw [if_pos (by rfl)]
 go_simp
 (go_at_call 207; refine LK.out.mono ?_; rintro e w3 ⟨g, rfl, rg, sg, bx, zg⟩; have B1 := bx; have K01 : w3.cell? ⟨w.heap.size, 0, none⟩ = some (.slice A n cs) := (B1.cell (p := ⟨w.heap.size, 0, none⟩) zA).trans K0; have K11 : w3.cell? ⟨w.heap.size, 1, none⟩ = some (.slice (some ⟨b, off, none⟩) q cv) := (B1.cell (p := ⟨w.heap.size, 1, none⟩) zA).trans K1; have K21 : w3.cell? ⟨b, off + k * 2 + 1, none⟩ = some (.slice P' pn' pc') := (B1.cell (p := ⟨b, off + k * 2 + 1, none⟩) zB).trans K2; have K31 : w3.heap[w1.heap.size]? = some (.cells rs 240 (0, 0)) := (B1.block _ zC).trans K3; have LFI := hid (LFILL.out g w3 rg sg B1); go_wp2_with fail)
 refine hK.out _ _ (fun _ _ => ?_) (fun hKeep => ?_)
 ·exact ⟨K01, K11, K21, K31⟩
 replace hHeld := hKeep (by first | rfl | trivial) hHeld
 clear hK K hKeep
 try simp only [Act.put, setIfInBounds_toArray, set_cons_zero, set_cons_succ, getElem_toArray, getElem_cons_zero, getElem_cons_succ]
 refine AnyT.call (i := 12) (by kernel_rfl) rfl (fun K hK => ?_)
 try simp only [Act.put, setIfInBounds_toArray, set_cons_zero, set_cons_succ, getElem_toArray, getElem_cons_zero, getElem_cons_succ]
 rw [if_pos (by rfl)]
 go_simp
 (go_at_call 122; refine LFI.out.mono ?_; rintro e w4 ⟨O, on, oc, rfl, oO, by4⟩; have B2 := next_trans B1 by4; have K02 : w4.cell? ⟨w.heap.size, 0, none⟩ = some (.slice A n cs) := (B2.cell (p := ⟨w.heap.size, 0, none⟩) zA).trans K0; have K12 : w4.cell? ⟨w.heap.size, 1, none⟩ = some (.slice (some ⟨b, off, none⟩) q cv) := (B2.cell (p := ⟨w.heap.size, 1, none⟩) zA).trans K1; have K22 : w4.cell? ⟨b, off + k * 2 + 1, none⟩ = some (.slice P' pn' pc') := (B2.cell (p := ⟨b, off + k * 2 + 1, none⟩) zB).trans K2; have K32 : w4.heap[w1.heap.size]? = some (.cells rs 240 (0, 0)) := (B2.block _ zC).trans K3; have LPU := hid (LPUT.out O on oc w4 B2 oO); go_wp2_with fail)
 refine hK.out _ _ (fun _ _ => ?_) (fun hKeep => ?_)
 ·exact ⟨K02, K12, K22, K32⟩
 replace hHeld := hKeep (by first | rfl | trivial) hHeld
 clear hK K hKeep
 try simp only [Act.put, setIfInBounds_toArray, set_cons_zero, set_cons_succ, getElem_toArray, getElem_cons_zero, getElem_cons_succ]
 refine AnyT.call (i := 13) (by kernel_rfl) rfl (fun K hK => ?_)
 try simp only [Act.put, setIfInBounds_toArray, set_cons_zero, set_cons_succ, getElem_toArray, getElem_cons_zero, getElem_cons_succ]
 rw [if_pos (by rfl)]
 go_simp
 (go_at_call 123; refine LPU.out.mono ?_; rintro e w5 ⟨X, xn, xc, rfl, oX, by5⟩; have B3 := next_trans B2 by5; have K03 : w5.cell? ⟨w.heap.size, 0, none⟩ = some (.slice A n cs) := (B3.cell (p := ⟨w.heap.size, 0, none⟩) zA).trans K0; have K13 : w5.cell? ⟨w.heap.size, 1, none⟩ = some (.slice (some ⟨b, off, none⟩) q cv) := (B3.cell (p := ⟨w.heap.size, 1, none⟩) zA).trans K1; have K23 : w5.cell? ⟨b, off + k * 2 + 1, none⟩ = some (.slice P' pn' pc') := (B3.cell (p := ⟨b, off + k * 2 + 1, none⟩) zB).trans K2; have K33 : w5.heap[w1.heap.size]? = some (.cells rs 240 (0, 0)) := (B3.block _ zC).trans K3; go_wp2_with fail)
 refine hK.out _ _ (fun _ _ => ?_) (fun hKeep => ?_)
 ·exact ⟨K03, K13, K23, K33⟩
 replace hHeld := hKeep (by first | rfl | trivial) hHeld
 clear hK K hKeep
 try simp only [Act.put, setIfInBounds_toArray, set_cons_zero, set_cons_succ, getElem_toArray, getElem_cons_zero, getElem_cons_succ]
 refine AnyT.takeA (i := 14) (v := ?_) rfl (by kernel_rfl) (by kernel_rfl) (by kernel_rfl) (fun _ _ _ h => h) (Or.inl ⟨by rfl, ?_⟩) ?_
 rotate_left 1
 ·(intro w0 _; go_simp; try with_reducible rfl)
 try simp only [Act.put, setIfInBounds_toArray, set_cons_zero, set_cons_succ, getElem_toArray, getElem_cons_zero, getElem_cons_succ]
 refine AnyT.takeA (i := 15) (v := ?_) rfl (by kernel_rfl) (by kernel_rfl) (by kernel_rfl) (fun _ _ _ h => h) (Or.inl ⟨by rfl, ?_⟩) ?_
 rotate_left 1
 ·(intro w0 _; go_simp; try with_reducible rfl)
 try simp only [Act.put, setIfInBounds_toArray, set_cons_zero, set_cons_succ, getElem_toArray, getElem_cons_zero, getElem_cons_succ]
 refine AnyT.takeA (i := 16) (v := ?_) rfl (by kernel_rfl) (by kernel_rfl) (by kernel_rfl) (fun _ _ _ h => h) (Or.inl ⟨by rfl, ?_⟩) ?_
 rotate_left 1
 ·(intro w0 _; go_simp; try with_reducible rfl)
 try simp only [Act.put, setIfInBounds_toArray, set_cons_zero, set_cons_succ, getElem_toArray, getElem_cons_zero, getElem_cons_succ]
 refine AnyT.takeA (i := 17) (v := ?_) rfl (by kernel_rfl) (by kernel_rfl) (by kernel_rfl) (fun _ _ _ h => h) (Or.inl ⟨by rfl, ?_⟩) ?_
 rotate_left 1
 ·(intro w0 _; go_simp; try with_reducible rfl)
 try simp only [Act.put, setIfInBounds_toArray, set_cons_zero, set_cons_succ, getElem_toArray, getElem_cons_zero, getElem_cons_succ]
 refine AnyT.done (by kernel_rfl) ?_ _
 have F : AnsStep w (stepO d.1 y t x) (.returned (.tuple #[.slice X xn xc, .bool (put.putB d.1 t (fillL (givesL s) y.2) (x : Int))])) w5 := ⟨X, xn, xc, by rw [HRB.out.2], by rw [HRB.out.1]; exact Own.lower oX (Nat.le_trans BEL2.out.size B2.size), BEL2.out.drew.trans (B3.mono BEL2.out.size)⟩
 have HF := hid F
 clear F oX by5 B1 B2 B3 LK LFILL LPUT LFI LPU oO by4
 generalize put.putB d.1 t (fillL (givesL s) y.2) (x : Int) = bz at *
 go_wp2
 go_ret2
 exact HF.out
end stepImpl
end
section
open Go.Lib (hid)
namespace pathSpec
open Go.RowKit base ints sig term arity endOf cursor termOk endAt inside marks app appAt sym args posMath
set_option maxRecDepth 100000
theorem own_lt {w : World} {base : Nat} {A : Option Addr} {n c : Nat} {xs : List Int} (h : Own w base (.slice A n c) xs) : ∀ k, blk A = some k → base ≤ k ∧ k < w.heap.size := fun k hk => World.ownsRow.lt h k (by rw [blk_own]; exact hk)
def PathIs (sg t : List Int) (x : Int) (pa : List Int) : Prop := (thereB sg t x = true ∧ ∃ ab, Trail sg t x.toNat 0 ab pa) ∨ (thereB sg t x = false ∧ pa = [])
theorem path_ex (sg t : List Int) (x : Int) : ∃ pa, PathIs sg t x pa := by
 cases h : thereB sg t x with
 | false => exact ⟨[], .inr ⟨h, rfl⟩⟩
 | true =>
  obtain ⟨hok, h0, h1⟩ := there_parts h
  obtain ⟨ab, pa, hw⟩ := way_root hok (show x.toNat < t.length by omega)
  exact ⟨pa, .inl ⟨h, ab, hw⟩⟩
theorem PathIs.one {sg t : List Int} {x : Int} {pa pa' : List Int} (h : PathIs sg t x pa) (h' : PathIs sg t x pa') : pa = pa' := by
 rcases h with ⟨e, ab, hw⟩ | ⟨e, rfl⟩ <;> rcases h' with ⟨e', ab', hw'⟩ | ⟨e', rfl⟩
 ·exact (hw.one hw').2
 ·rw [e] at e'; cases e'
 ·rw [e] at e'; cases e'
 ·rfl
theorem PathIs.len {sg t : List Int} {x : Int} {pa : List Int} (h : PathIs sg t x pa) : pa.length ≤ 60 := by
 rcases h with ⟨e, ab, hw⟩ | ⟨e, rfl⟩
 ·obtain ⟨hok, h0, h1⟩ := there_parts e
  have := hw.le
  have := (termOk_parts hok).2.1
  omega
 ·simp
theorem ins_nat {sg t : List Int} (hok : termOkB sg t = true) {k a : Nat} (hk : k < t.length) : insI sg t (k : Int) (a : Int) = decide (k ≤ a ∧ a < k + len1 sg t k) := by
 unfold insI
 rw [Int.toNat_natCast, end_at hok hk]
 exact decide_eq_decide.2 ⟨fun h => ⟨by omega, by omega⟩, fun h => ⟨by omega, by omega⟩⟩
theorem list_of {w w' : World} {xs ys : List Int} {A : Option Addr} {n c base : Nat} (e : ys = xs) (ho : Own w' base (.slice A n c) xs) (hB : w.heap.size ≤ base) (hb : Below w.heap.size w w') : AnsList w ys (.returned (.slice A n c)) w' :=
 ⟨A, n, c, rfl, by rw [e]; exact Own.lower ho hB, hb⟩
theorem app1At {w : World} {ops : Array Oper} {rest : List Oper} {o : Oper} {a : Act} {Q : Exit → Act → World → Prop} (hgd : o.guard = none) (s x : Operand)
  (ho : o.op = .call { callee := .builtin .append, args := #[s, x], argTypes := #[27, 27] })
  (base : Nat) (A : Option Addr) (n c : Nat) (xs : List Int) (hs : a.eval s = .slice A n c) (hown : Own w base (.slice A n c) xs)
  (g c2 : Nat) (y : Int) (hx : a.eval x = .slice (some ⟨g, 0, none⟩) 1 c2) (hy : w.cell? ⟨g, 0, none⟩ = some (.int .i64 y)) (hn : n ≤ 2097152) (hbase : base ≤ w.heap.size)
  (h : ∀ A' c' w', Own w' base (.slice A' (n + 1) c') (xs ++ [y]) → w.grownBy w' (blk A) → (blk A' = blk A ∨ blk A' = some w.heap.size) → wpList Tryz.prog ops Q rest (a.put o.dst (.slice A' (n + 1) c')) w') : wpList Tryz.prog ops Q (o :: rest) a w :=
 appAllAt hgd s x ho base A n c xs hs hown (some ⟨g, 0, none⟩) 1 c2 (g + 1) [y] hx ⟨rfl, fun _ => ⟨g, 0, rfl, Nat.lt_succ_self _, fun j hj => by
  obtain rfl : j = 0 := by omega
  exact hy⟩⟩ (Nat.le_refl _) hn (by omega) hbase h
theorem Trail.split {sg t : List Int} {a q : Nat} {ab pa : List Int} (h : Trail sg t a q ab pa) (hne : q ≠ a) : ∃ (k : Nat) (ab' pa' : List Int), ab = (q : Int) :: ab' ∧ pa = (k : Int) :: pa' ∧ q < a ∧ k < arN sg t q ∧ argP sg t k (q + 1) ≤ a ∧ a < argP sg t k (q + 1) + len1 sg t (argP sg t k (q + 1)) ∧ q < argP sg t k (q + 1) ∧ Trail sg t a (argP sg t k (q + 1)) ab' pa' := by
 cases h with
 | here => exact absurd rfl hne
 | @down _ k ab' pa' h1 h2 h3 h4 h5 h6 hw => exact ⟨k, ab', pa', rfl, rfl, h1, h2, h3, h4, h5, hw⟩
theorem argsL_get {sg t : List Int} {q k : Nat} (h : k < arN sg t q) : (argsL sg t q).getD k 0 = (argP sg t k (q + 1) : Int) := places_get h
theorem argsL_arN {sg t : List Int} {q : Nat} : (argsL sg t q).length = arN sg t q := places_len _ _
theorem own_cell {w : World} {base : Nat} {A : Option Addr} {n c : Nat} {xs : List Int} (h : Own w base (.slice A n c) xs) {k : Nat} (hk : k < n) : ∃ g off, A = some ⟨g, off, none⟩ ∧ base ≤ g ∧ w.cell? ⟨g, off + k, none⟩ = some (.int .i64 (xs.getD k 0)) := by
 obtain ⟨b, off, e, _, hc⟩ := (Own.seg h).round hk
 subst e
 exact ⟨b, off, rfl, (own_lt h b rfl).1, hc⟩
theorem cell_kept {w w' : World} {r : Option Nat} {p : Addr} {v : Value} (hg : w.grownBy w' r) (hr : ∀ k, r = some k → p.block ≠ k) (hp : p.block < w.heap.size) (h : w.cell? p = some v) : w'.cell? p = some v := by
 exact hg.cell h (fun e => hr _ e.symm rfl)
def HeadPa (w : World) (A : Option Addr) (n c : Nat) (sg : List Int) (A' : Option Addr) (m : Nat) (t : List Int) (a : Nat) (pa : List Int) (g : Nat) (out p : Value) (wr : World) : Prop :=
 ∃ (q : Nat) (O : Option Addr) (on oc : Nat) (ys ab' pa' : List Int), p = .int .i64 q ∧ q + g = a ∧ out = .slice O on oc ∧ Own wr (w.heap.size + 1) (.slice O on oc) ys ∧ Trail sg t a q ab' pa' ∧ ys ++ pa' = pa ∧ Fr w wr A n c sg A' m t
def InPa (w : World) (A : Option Addr) (n c : Nat) (sg : List Int) (A' : Option Addr) (m : Nat) (t : List Int) (k0 B : Nat) (O : Option Addr) (on oc : Nat) (ys : List Int) (A2 : Option Addr) (n2 c2 : Nat) (L : List Int) (g : Nat) (k : Value) (wr : World) : Prop :=
 ∃ j : Nat, k = .int .i64 j ∧ j + g = k0 ∧ Own wr (w.heap.size + 1) (.slice O on oc) ys ∧ (∀ b, blk O = some b → b < B) ∧ Own wr B (.slice A2 n2 c2) L ∧ Fr w wr A n c sg A' m t ∧ B ≤ wr.heap.size
set_option maxHeartbeats 4000000 in
theorem l3Path (A A' : Option Addr) (n c m c' : Nat) (sg t : List Int) (a : Nat) (ab pa : List Int) (w : World) (h : Seg w w.heap.size A n sg) (h' : Seg w w.heap.size A' m t) (hn : n ≤ 1048576) (hm : m ≤ 1048576) (hok : termOkB sg t = true) (hat : a < t.length) (hw : Trail sg t a 0 ab pa) :
  Calls Tryz.prog 74 #[.agg #[.slice A n c], .slice A' m c', .int .i64 (a : Int)] w (AnsList w pa) := by
 obtain ⟨W, hW⟩ : ∃ W, W = (w.alloc (.cells #[.slice A n c] 29)).alloc (.cells #[] 2) := ⟨_, rfl⟩
 have f : Fr w W A n c sg A' m t := by rw [hW]; exact (Fr.start h h').alloc _
 have ow : Own W (w.heap.size + 1) (.slice (some ⟨w.heap.size + 1, 0, none⟩) 0 0) [] := by
  rw [hW]
  have := own_empty (w.alloc (.cells #[.slice A n c] 29)) (w.heap.size + 1) (by simp)
  simpa using this
 have HW := hid hW
 have HL := hid h'.1
 have h60 := (termOk_parts hok).2.1
 have ha60 : a < 60 := by omega
 have HOK := hid hok
 have HAT := hid hat
 have HLP := hid hw.le.2
 have S0 : HeadPa w A n c sg A' m t a pa a (.slice (some ⟨w.heap.size + 1, 0, none⟩) 0 0) (.int .i64 0) W := ⟨0, _, 0, 0, [], ab, pa, rfl, by omega, rfl, ow, hw, rfl, f⟩
 have HS := hid S0
 clear S0 f ow hW h h' hok hat hw h60
 go_enter Tryz.func74, Tryz.ntmps74
 go_wp2_with fail
 rw [← HW.out]
 clear HW
 go_loopg [7, 8] a (fun g out p wr => HeadPa w A n c sg A' m t a pa g out p wr)
 case atStart => exact HS.out
 case round =>
  obtain ⟨q, O, on, oc, ys, ab', pa', rfl, hq, rfl, ho, htr, hpa, f⟩ := hrel
  obtain ⟨G, hG⟩ : ∃ G, G = gk := ⟨_, rfl⟩
  subst hG
  clear HS
  have hon : on ≤ 60 := by
   rw [Own.len ho]
   have h1 := HLP.out
   rw [← hpa] at h1
   simp only [List.length_append] at h1
   omega
  have HQ := hid hq
  have HPA := hid hpa
  clear hq hpa
  by_cases hqa : q = a
  ·subst hqa
   have F : AnsList w pa (.returned (.slice O on oc)) wr := list_of (by rw [← HPA.out, htr.here_eq.2, List.append_nil]) ho (Nat.le_succ _) f.b
   have HF := hid F
   clear F ho f htr
   go_wp2
   go_ret
   exact HF.out
  ·obtain ⟨k0, ab2, pa2, -, e2, hqlt, hk0, h3, h4, h5, htr'⟩ := Trail.split htr hqa
   have HE2 := hid e2
   have hok := HOK.out
   have hal := HAT.out
   have hars := (sig_arities (termOk_parts hok).1).1
   obtain ⟨s1, s2, s3⟩ := term_at hok (show q < t.length by omega)
   have hne : ¬ (q : Int) = (a : Int) := by omega
   have cA := f.cell
   obtain ⟨B, hB⟩ : ∃ B, wr.heap.size = B := ⟨_, rfl⟩
   have hL3 : (argsL sg t q).length = arN sg t q := argsL_arN
   have hars3 : arN sg t q ≤ 3 := by have := ar_bd hars (t.getD q 0); unfold arN; omega
   have LA := hid (l1Args A A' n c m c' sg t q (len1 sg t q) wr f.s1 f.t1 hn hm hars (by rw [← HL.out]; omega) s1 (by rw [← HL.out]; exact s3))
   have HX : Hid (∀ j : Nat, j ≤ k0 → thereB sg t (argP sg t j (q + 1) : Int) = true ∧ argP sg t j (q + 1) ≤ a ∧ insI sg t (argP sg t j (q + 1) : Int) (a : Int) = decide (j = k0)) := hid (fun j hj => by
    obtain ⟨b1, b2, b3⟩ := arg_at hok (show q < t.length by omega) (show j < arN sg t q by omega)
    have b4 := argP_mono (sg := sg) (t := t) (p := q + 1) hj
    refine ⟨there_yes hok (by omega) (by omega), by omega, ?_⟩
    rw [ins_nat hok b3]
    by_cases hjk : j = k0
    ·rw [decide_eq_true hjk, decide_eq_true (by subst hjk; exact ⟨h3, h4⟩)]
    ·have b5 := argP_mono (sg := sg) (t := t) (p := q + 1) (show j + 1 ≤ k0 by omega)
     rw [argP_succ] at b5
     rw [decide_eq_false hjk, decide_eq_false (by omega)])
   have HG : Hid (∀ j : Nat, j ≤ k0 → (argsL sg t q).getD j 0 = (argP sg t j (q + 1) : Int)) := hid (fun j hj => argsL_get (by omega))
   obtain ⟨L, hL⟩ : ∃ L, argsL sg t q = L := ⟨_, rfl⟩
   rw [hL] at LA HG hL3
   have HTR := hid htr'
   have H3 := hid h3
   have H5 := hid h5
   obtain ⟨z, hz⟩ : ∃ z, arN sg t q = z := ⟨_, rfl⟩
   rw [hz] at hk0 hL3 hars3
   have HL3 := hid hL3
   clear hok hal hars s1 s2 s3 htr htr' h3 h4 h5 e2 hL hL3 hz
   go_wp2_with fail
   refine LA.out.mono ?_
   rintro e w1 ⟨A2, n2, c2, rfl, o2, bb⟩
   have hbO : ∀ b, blk O = some b → b < B := fun b hb => by rw [← hB]; exact (own_lt ho b hb).2
   have hn2 : n2 = z := by rw [Own.len o2, HL3.out]
   rw [hB] at o2
   have S1 : InPa w A n c sg A' m t k0 B O on oc ys A2 n2 c2 L k0 (.int .i64 0) w1 := ⟨0, rfl, by omega, Own.next ho bb, hbO, o2, f.next bb, by rw [← hB]; exact bb.size⟩
   have HS1 := hid S1
   clear S1 ho bb o2 f cA hbO hB LA
   go_wp2_with fail
   go_loopg [7, 10] k0 (fun g out k wr => out = .slice O on oc ∧ InPa w A n c sg A' m t k0 B O on oc ys A2 n2 c2 L g k wr)
   case atStart => exact ⟨rfl, HS1.out⟩
   case round =>
    obtain ⟨rfl, j, rfl, hj, ho, hbO, o2, f, hBw⟩ := hrel
    clear HS1
    have HJ := hid hj
    have hjn : j < n2 := by omega
    obtain ⟨b2, off, rfl, hb2, hc2⟩ := own_cell o2 hjn
    obtain ⟨i1, i2, i3⟩ := HX.out j (by omega)
    rw [HG.out j (by omega)] at hc2
    have hjz : (j : Int) < (n2 : Int) := by omega
    have cA := f.cell
    obtain ⟨y, hy⟩ : ∃ y, argP sg t j (q + 1) = y := ⟨_, rfl⟩
    rw [hy] at hc2 i1 i2 i3
    obtain ⟨bj, hbj⟩ : ∃ b, decide (j = k0) = b := ⟨_, rfl⟩
    rw [hbj] at i3
    have HBJ := hid hbj
    have HY := hid hy
    have HI3 := hid i3
    have hb2w := (own_lt o2 b2 rfl).2
    have s1 : Seg wr.drew wr.heap.size A n sg := f.s1.drew
    have s1' : Seg wr.drew wr.heap.size A' m t := f.t1.drew
    replace f := f.drew
    replace ho := Own.drew ho
    replace o2 := Own.drew o2
    clear hj hy i3 hbj
    go_wp2_with fail
    go_region_held3 (fun w' => w'.cell? ⟨w.heap.size, 0, none⟩ = some (.slice A n c) ∧ w'.cell? ⟨b2, off + j, none⟩ = some (.int .i64 y))
     (go_keep)
     (first
      | (go_at_call 133; refine (l3Inside A A' n c m c' sg t (y : Int) (a : Int) _ s1 s1' hn hm i1).mono ?_; rintro e w2 ⟨he, bb⟩; replace cA : w2.cell? ⟨w.heap.size, 0, none⟩ = some (.slice A n c) := (f.next bb).cell; replace hc2 : w2.cell? ⟨b2, off + j, none⟩ = some (.int .i64 y) := (bb.cell (p := ⟨b2, off + j, none⟩) hb2w).trans hc2; rw [HI3.out] at he; subst he))
    replace f := f.next bb
    replace ho := Own.next ho bb
    replace o2 := Own.next o2 bb
    have hBw2 : B ≤ w2.heap.size := Nat.le_trans hBw bb.size
    have hb2l : b2 < w2.heap.size := (own_lt o2 b2 rfl).2
    clear bb s1 s1' hBw hb2w
    cases bj with
    | false =>
     have S : InPa w A n c sg A' m t k0 B O on oc ys (some ⟨b2, off, none⟩) n2 c2 L (gk - 1) (.int .i64 ((j : Int) + 1)) w2 := ⟨j + 1, by simp, by have h1 := HJ.out; have h2 := of_decide_eq_false HBJ.out; omega, ho, hbO, o2, f, hBw2⟩
     have HSS := hid S
     have hgk : gk - 1 < gk := by have h1 := HJ.out; have h2 := of_decide_eq_false HBJ.out; omega
     clear S ho o2 f cA hc2 i1 i2
     go_wp2
     go_roundg (gk - 1)
     case measure => exact hgk
     case rel => exact ⟨rfl, HSS.out⟩
    | true =>
     have hjk := hid (show j = k0 from of_decide_eq_true HBJ.out)
     have HC : Hid (∀ (o : Obj) (w3 : World), (w2.alloc o).grownBy w3 (blk O) → w3.cell? ⟨b2, off + j, none⟩ = some (.int .i64 y)) := hid (fun o w3 hg => cell_kept hg (fun k hk => by have := hbO k hk; show b2 ≠ k; omega) (by show b2 < (w2.alloc o).heap.size; simp; omega) ((((Below.refl w2.heap.size w2).alloc (Nat.le_refl _) o).cell (p := ⟨b2, off + j, none⟩) hb2l).trans hc2))
     have z1 : w.heap.size + 1 ≤ w2.heap.size := f.size
     clear o2 i1
     go_wp2_with (at_builtin; refine app1At rfl _ _ rfl (w.heap.size + 1) O on oc ys rfl (Own.alloc ho _) w2.heap.size 1 (j : Int) rfl ((Row.new _ _ _).cell 0) (by omega) (by simp; omega) ?_; intro O' oc' w3 ho3 hg3 hbl3; have hc3 := HC.out _ _ hg3)
     have b3 : Below (w.heap.size + 1) w2 w3 := (((Below.refl (w.heap.size + 1) w2).alloc z1 _).trans ((Below.refl _ _).grown hg3 (by simp; omega) (fun k hk => (own_lt ho k hk).1)))
     have S : HeadPa w A n c sg A' m t a pa (a - y) (.slice O' (on + 1) oc') (.int .i64 (y : Int)) w3 := ⟨y, O', on + 1, oc', ys ++ [(j : Int)], ab2, pa2, rfl, by omega, rfl, ho3, by have h1 := HTR.out; rw [← hjk.out, HY.out] at h1; exact h1, by rw [← HPA.out, HE2.out, hjk.out]; simp, f.over b3⟩
     have HSS := hid S
     have hgk : a - y < G := by have h1 := HQ.out; have h5 := H5.out; rw [← hjk.out, HY.out] at h5; omega
     clear S ho ho3 hg3 hbl3 b3 f cA hc2 HC i2
     go_wp2
     go_roundg (a - y)
     case measure => exact hgk
     case rel => exact HSS.out
set_option maxHeartbeats 1000000 in
theorem specPathOf (A A' : Option Addr) (n c m c' : Nat) (sg t : List Int) (x : Int) (pa : List Int) (w : World) (h : Seg w w.heap.size A n sg) (h' : Seg w w.heap.size A' m t) (hn : n ≤ 1048576) (hm : m ≤ 1048576) (hpa : PathIs sg t x pa) :
  Calls Tryz.prog 23 #[.agg #[.slice A n c], .slice A' m c', .int .i64 x] w (AnsList w pa) := by
 obtain ⟨W, hW⟩ : ∃ W, W = w.alloc (.cells #[.slice A n c] 29) := ⟨_, rfl⟩
 have f : Fr w W A n c sg A' m t := by rw [hW]; exact Fr.start h h'
 have HW := hid hW
 have L := hid (right A A' n c m c' sg t x W f.s1 f.t1 hn hm)
 clear hW h h'
 rcases hpa with ⟨hx, ab, hw⟩ | ⟨hx, rfl⟩
 ·have HX := hid hx
  have HTR := hid hw
  obtain ⟨hok, i0, i1⟩ := there_parts hx
  obtain ⟨a, rfl⟩ := Int.eq_ofNat_of_zero_le i0
  rw [Int.toNat_natCast] at HTR
  have HOK := hid hok
  have HAL := hid (show a < t.length by omega)
  clear hx hw hok i0 i1
  go_enter Tryz.func23, Tryz.ntmps23
  go_wp2_with fail
  rw [← HW.out]
  refine L.out.mono ?_
  rintro e w1 ⟨he, bb⟩
  rw [HX.out] at he
  subst he
  replace f := f.next bb
  have cA := f.cell
  clear bb L
  go_wp2_with fail
  refine (l3Path A A' n c m c' sg t a ab pa _ f.s1 f.t1 hn hm HOK.out HAL.out HTR.out).mono ?_
  rintro e w2 ⟨A2, n2, c2, rfl, o2, bb⟩
  have F := hid (list_of (w := w) rfl o2 (Nat.le_of_lt f.size) (f.next bb).b)
  clear f bb o2 cA
  go_wp2
  go_ret
  exact F.out
 ·have HX := hid hx
  clear hx
  go_enter Tryz.func23, Tryz.ntmps23
  go_wp2_with fail
  rw [← HW.out]
  refine L.out.mono ?_
  rintro e w1 ⟨he, bb⟩
  rw [HX.out] at he
  subst he
  replace f := f.next bb
  have F := hid (list_of (w := w) (xs := []) rfl (own_empty w1 w1.heap.size (Nat.le_refl _)) (Nat.le_of_lt f.size) (f.alloc _).b)
  clear f bb L
  go_wp2
  go_ret
  exact F.out
end pathSpec
end
section
open Go.Lib (hid)
namespace wayTo
open Go.RowKit base ints sig term arity endOf cursor termOk endAt inside marks app appAt sym args posMath pathSpec
set_option maxRecDepth 100000
structure Wy (w wr : World) (P : Nat) (A : Option Addr) (n c : Nat) (A' : Option Addr) (m c' : Nat) (sg t : List Int) (k : Nat) (O1 : Option Addr) (n1 c1 : Nat) (ys1 : List Int) (O2 : Option Addr) (n2 c2 : Nat) (ys2 : List Int) : Prop where
 cu : Cur wr P A n c A' m c' sg t k
 b : Below w.heap.size w wr
 hP : w.heap.size ≤ P
 o1 : Own wr (P + 1) (.slice O1 n1 c1) ys1
 o2 : Own wr (P + 1) (.slice O2 n2 c2) ys2
 dj : blk O1 = none ∨ blk O1 ≠ blk O2
section
variable {w wr w' : World} {P : Nat} {A : Option Addr} {n c : Nat} {A' : Option Addr} {m c' : Nat} {sg t : List Int} {k k' : Nat} {O1 : Option Addr} {n1 c1 : Nat} {ys1 : List Int} {O2 : Option Addr} {n2 c2 : Nat} {ys2 : List Int}
theorem Wy.lt (y : Wy w wr P A n c A' m c' sg t k O1 n1 c1 ys1 O2 n2 c2 ys2) : P < wr.heap.size := y.cu.row.lt
theorem Wy.move (y : Wy w wr P A n c A' m c' sg t k O1 n1 c1 ys1 O2 n2 c2 ys2) (hg : wr.grownBy w' (some P)) (cu : Cur w' P A n c A' m c' sg t k') : Wy w w' P A n c A' m c' sg t k' O1 n1 c1 ys1 O2 n2 c2 ys2 :=
 ⟨cu, y.b.grown hg (Nat.le_trans y.hP (Nat.le_of_lt y.lt)) (fun j hj => by injection hj with hj; rw [← hj]; exact y.hP), y.hP, Own.far y.o1 hg (fun j hj => by injection hj; omega), Own.far y.o2 hg (fun j hj => by injection hj; omega), y.dj⟩
theorem Wy.over (y : Wy w wr P A n c A' m c' sg t k O1 n1 c1 ys1 O2 n2 c2 ys2) {o : Obj} {r : Option Nat} (hg : (wr.alloc o).grownBy w' r) (hr : ∀ j, r = some j → P + 1 ≤ j) : Below (P + 1) wr w' :=
 ((Below.refl (P + 1) wr).alloc y.lt _).grown hg (by have := y.lt; simp; omega) hr
theorem Wy.app1 (y : Wy w wr P A n c A' m c' sg t k O1 n1 c1 ys1 O2 n2 c2 ys2) {o : Obj} {O1' : Option Addr} {n1' c1' : Nat} {zs : List Int} (ho : Own w' (P + 1) (.slice O1' n1' c1') zs) (hg : (wr.alloc o).grownBy w' (blk O1)) (hb : blk O1' = blk O1 ∨ blk O1' = some (wr.alloc o).heap.size) :
  Wy w w' P A n c A' m c' sg t k O1' n1' c1' zs O2 n2 c2 ys2 := by
 have hov := y.over hg (fun j hj => (own_lt y.o1 j hj).1)
 refine ⟨Cur.keep y.cu hov, y.b.trans (hov.mono (Nat.le_succ_of_le y.hP)), y.hP, ho, Own.kept (Own.alloc y.o2 _) hg ?_, ?_⟩
 ·cases h2 : blk O2 with
  | none => exact .inl rfl
  | some z =>
   refine .inr (fun e => ?_)
   rcases y.dj with h | h
   ·rw [h] at e; cases e
   ·exact h (by rw [← e, h2])
 ·rcases hb with e | e
  ·rw [e]; exact y.dj
  ·refine .inr (fun h => ?_)
   rw [e] at h
   have := (own_lt y.o2 _ h.symm).2
   simp at this
   omega
theorem Wy.app2 (y : Wy w wr P A n c A' m c' sg t k O1 n1 c1 ys1 O2 n2 c2 ys2) {o : Obj} {O2' : Option Addr} {n2' c2' : Nat} {zs : List Int} (ho : Own w' (P + 1) (.slice O2' n2' c2') zs) (hg : (wr.alloc o).grownBy w' (blk O2)) (hb : blk O2' = blk O2 ∨ blk O2' = some (wr.alloc o).heap.size) :
  Wy w w' P A n c A' m c' sg t k O1 n1 c1 ys1 O2' n2' c2' zs := by
 have hov := y.over hg (fun j hj => (own_lt y.o2 j hj).1)
 refine ⟨Cur.keep y.cu hov, y.b.trans (hov.mono (Nat.le_succ_of_le y.hP)), y.hP, Own.kept (Own.alloc y.o1 _) hg y.dj, ho, ?_⟩
 rcases hb with e | e
 ·rw [e]; exact y.dj
 ·refine .inr (fun h => ?_)
  rw [e] at h
  have := (own_lt y.o1 _ h).2
  simp at this
  omega
theorem Cur.setAt {p : Nat} (h : Cur w p A n c A' m c' sg t k) (hk : k' ≤ m) : Cur (w.setCell ⟨p, 2, none⟩ (.int .i64 (k' : Int))) p A n c A' m c' sg t k' :=
 ⟨h.row.put 2 _, h.s.put (Nat.le_refl _) _, h.s'.put (Nat.le_refl _) _, hk, h.hn, h.hm, h.ars⟩
theorem Wy.set (y : Wy w wr P A n c A' m c' sg t k O1 n1 c1 ys1 O2 n2 c2 ys2) (hk : k' ≤ m) : Wy w (wr.setCell ⟨P, 2, none⟩ (.int .i64 (k' : Int))) P A n c A' m c' sg t k' O1 n1 c1 ys1 O2 n2 c2 ys2 :=
 y.move (grown_put (World.grownBy.refl _ _) _ _) (Cur.setAt y.cu hk)
end
def AnsTwo (w : World) (ab pa : List Int) (e : Ending) (w' : World) : Prop :=
 ∃ (O1 : Option Addr) (n1 c1 : Nat) (O2 : Option Addr) (n2 c2 : Nat), e = .returned (.tuple #[.slice O1 n1 c1, .slice O2 n2 c2]) ∧ Own w' w.heap.size (.slice O1 n1 c1) ab ∧ Own w' w.heap.size (.slice O2 n2 c2) pa ∧ Below w.heap.size w w'
def TrailIs (sg t : List Int) (x : Int) (ab pa : List Int) : Prop := (thereB sg t x = true ∧ Trail sg t x.toNat 0 ab pa) ∨ (thereB sg t x = false ∧ ab = [] ∧ pa = [])
theorem PathIs.trail {sg t : List Int} {x : Int} {pa : List Int} (h : PathIs sg t x pa) : ∃ ab, TrailIs sg t x ab pa := by
 rcases h with ⟨e, ab, hw⟩ | ⟨e, rfl⟩
 ·exact ⟨ab, .inl ⟨e, hw⟩⟩
 ·exact ⟨[], .inr ⟨e, rfl, rfl⟩⟩
theorem TrailIs.path {sg t : List Int} {x : Int} {ab pa : List Int} (h : TrailIs sg t x ab pa) : PathIs sg t x pa := by
 rcases h with ⟨e, hw⟩ | ⟨e, rfl, rfl⟩
 ·exact .inl ⟨e, ab, hw⟩
 ·exact .inr ⟨e, rfl⟩
def HeadWy (w : World) (P : Nat) (A : Option Addr) (n c : Nat) (A' : Option Addr) (m c' : Nat) (sg t : List Int) (a : Nat) (ab pa : List Int) (g : Nat) (s6 s7 : Value) (wr : World) : Prop :=
 ∃ (q : Nat) (O1 : Option Addr) (n1 c1 : Nat) (ys1 : List Int) (O2 : Option Addr) (n2 c2 : Nat) (ys2 ab' pa' : List Int), q + g = a ∧ s6 = .slice O1 n1 c1 ∧ s7 = .slice O2 n2 c2 ∧ Wy w wr P A n c A' m c' sg t q O1 n1 c1 ys1 O2 n2 c2 ys2 ∧ Trail sg t a q ab' pa' ∧ ys1 ++ ab' = ab ∧ ys2 ++ pa' = pa
set_option maxHeartbeats 4000000 in
theorem wayTo (A A' : Option Addr) (n c m c' : Nat) (sg t : List Int) (x : Int) (ab pa : List Int) (w : World) (h : Seg w w.heap.size A n sg) (h' : Seg w w.heap.size A' m t) (hn : n ≤ 1048576) (hm : m ≤ 1048576) (hw : TrailIs sg t x ab pa) :
  Calls Tryz.prog 140 #[.agg #[.slice A n c], .slice A' m c', .int .i64 x] w (AnsTwo w ab pa) := by
 obtain ⟨W, hW⟩ : ∃ W, W = w.alloc (.cells #[.slice A n c] 29) := ⟨_, rfl⟩
 have f : Fr w W A n c sg A' m t := by rw [hW]; exact Fr.start h h'
 have HW := hid hW
 have HL := hid h'.1
 have L := hid (placeIn A A' n c m c' sg t x W f.s1 f.t1 hn hm)
 clear hW h h'
 rcases hw with ⟨hx, hw⟩ | ⟨hx, rfl, rfl⟩
 ·obtain ⟨hok, i0, i1⟩ := there_parts hx
  obtain ⟨a, rfl⟩ := Int.eq_ofNat_of_zero_le i0
  rw [Int.toNat_natCast] at hw
  have hal : a < t.length := by omega
  have h60 := (termOk_parts hok).2.1
  have ha60 : a < 60 := by omega
  have hars := (sig_arities (termOk_parts hok).1).1
  have HX := hid hx
  have HOK := hid hok
  have HAL := hid hal
  have HLP := hid hw.le.2
  have HLA := hid hw.len
  have HTR := hid hw
  clear hx hok hal h60 i0 i1 hw
  go_enter Tryz.func140, Tryz.ntmps140
  go_wp2_with fail
  go_step3
  go_wp2_with fail
  rw [← HW.out]
  refine L.out.mono ?_
  rintro e w1 ⟨he, bb⟩
  rw [HX.out] at he
  subst he
  replace f := f.next bb
  have cA := f.cell
  clear bb L
  have y0 : Wy w (w1.alloc (.cells #[.slice A n c, .slice A' m c', .int .i64 (0 : Nat)] 181)) w1.heap.size A n c A' m c' sg t 0 none 0 0 [] none 0 0 [] :=
   ⟨cur_new f.s1 f.t1 hn hm hars 0 (Nat.zero_le _), (f.alloc _).b, Nat.le_of_lt f.size, Own.nil _ _, Own.nil _ _, .inl rfl⟩
  have S0 : HeadWy w w1.heap.size A n c A' m c' sg t a ab pa a (.slice none 0 0) (.slice none 0 0) (w1.alloc (.cells #[.slice A n c, .slice A' m c', .int .i64 0] 181)) := ⟨0, none, 0, 0, [], none, 0, 0, [], ab, pa, by omega, rfl, rfl, y0, HTR.out, rfl, rfl⟩
  have HS := hid S0
  clear S0 y0 f
  go_wp2
  go_step3
  go_wp2
  clear cA
  generalize w1.heap.size = P at *
  go_loopg [6, 7] a (fun g s6 s7 wr => HeadWy w P A n c A' m c' sg t a ab pa g s6 s7 wr)
  case atStart => exact HS.out
  case round =>
   obtain ⟨q, O1, n1, c1, ys1, O2, n2, c2, ys2, ab', pa', hq, rfl, rfl, y, htr, hab, hpa⟩ := hrel
   obtain ⟨G, hG⟩ : ∃ G, G = gk := ⟨_, rfl⟩
   subst hG
   clear HS
   have hn1 : n1 ≤ 60 := by
    rw [Own.len y.o1]
    have h1 := HLP.out
    have h2 := HLA.out
    rw [← hab] at h2
    simp only [List.length_append] at h2
    omega
   have hn2 : n2 ≤ 60 := by
    rw [Own.len y.o2]
    have h1 := HLP.out
    rw [← hpa] at h1
    simp only [List.length_append] at h1
    omega
   have HQ := hid hq
   have HPA := hid hpa
   have HAB := hid hab
   have cp : wr.cell? ⟨P, 2, none⟩ = some (.int .i64 (q : Int)) := y.cu.row.cell 2
   have hPw := y.lt
   clear hq hpa hab
   by_cases hqa : q = a
   ·subst hqa
    obtain ⟨rfl, rfl⟩ := htr.here_eq
    have F : AnsTwo w ab pa (.returned (.tuple #[.slice O1 n1 c1, .slice O2 n2 c2])) wr := ⟨O1, n1, c1, O2, n2, c2, rfl, by rw [← HAB.out, List.append_nil]; exact Own.lower y.o1 (Nat.le_succ_of_le y.hP), by rw [← HPA.out, List.append_nil]; exact Own.lower y.o2 (Nat.le_succ_of_le y.hP), y.b⟩
    have HF := hid F
    clear F y htr
    go_wp2
    try rw [Exit.noGoto_ret]
    go_ret2
    exact HF.out
   ·obtain ⟨k0, ab2, pa2, e1, e2, hqlt, hk0, h3, h4, h5, htr'⟩ := Trail.split htr hqa
    have HE1 := hid e1
    have HE2 := hid e2
    have hok := HOK.out
    have hal := HAL.out
    have hneg := (head_scan hok (show q < t.length by omega)).1
    have hzb := ar_bd hars (t.getD q 0)
    have HX2 : Hid (∀ j : Nat, j ≤ k0 → scan sg 1 (t.drop (argP sg t j (q + 1))) = some (len1 sg t (argP sg t j (q + 1))) ∧ decide (a < argP sg t (j + 1) (q + 1)) = decide (j = k0) ∧ argP sg t (j + 1) (q + 1) = argP sg t j (q + 1) + len1 sg t (argP sg t j (q + 1)) ∧ argP sg t j (q + 1) ≤ a) := hid (fun j hj => by
     obtain ⟨b1, b2, b3⟩ := arg_at hok (show q < t.length by omega) (show j < arN sg t q by omega)
     refine ⟨(term_at hok b3).1, ?_, argP_succ _ _, by have := argP_mono (sg := sg) (t := t) (p := q + 1) hj; omega⟩
     by_cases hjk : j = k0
     ·rw [decide_eq_true hjk, decide_eq_true (by subst hjk; rw [argP_succ]; exact h4)]
     ·have b5 := argP_mono (sg := sg) (t := t) (p := q + 1) (show j + 1 ≤ k0 by omega)
      rw [decide_eq_false hjk, decide_eq_false (by omega)])
    obtain ⟨z, hz⟩ : ∃ z, ar sg (t.getD q 0) = z := ⟨_, rfl⟩
    have hk0z : (k0 : Int) < z := by unfold arN at hk0; omega
    have HZ := hid hz
    have HTR := hid htr'
    have H3 := hid h3
    have H5 := hid h5
    have HA0 : Hid (argP sg t 0 (q + 1) = q + 1) := hid rfl
    rw [hz] at hzb hneg
    clear hok hal htr htr' h3 h4 h5 e1 e2 hz hk0
    go_wp2_with (at_builtin; refine app1At rfl _ _ rfl (P + 1) O1 n1 c1 ys1 rfl (Own.alloc y.o1 _) wr.heap.size 1 (q : Int) rfl ((Row.new _ _ _).cell 0) (by omega) (by simp; omega) ?_; intro O1' c1' w3 ho3 hg3 hb3)
    have y3 := y.app1 ho3 hg3 hb3
    clear y ho3 hg3 hb3 cp hPw
    refine (next P A n c A' m c' sg t q _ y3.cu).mono ?_
    rintro e w4 ⟨hg4, ⟨-, he, hc4⟩ | ⟨hk', -, -⟩⟩
    case inr => have := HAL.out; have := HL.out; omega
    rw [HZ.out] at he
    subst he
    have y4 := y3.move hg4 hc4
    clear y3 hg4 hc4
    have HS1 := hid y4
    clear y4
    go_wp2_with fail
    go_loopg [7, 29] k0 (fun g s7 s29 wr => s7 = .slice O2 n2 c2 ∧ ∃ j : Nat, s29 = .int .i64 j ∧ j + g = k0 ∧ Wy w wr P A n c A' m c' sg t (argP sg t j (q + 1)) O1' (n1 + 1) c1' (ys1 ++ [(q : Int)]) O2 n2 c2 ys2)
    case atStart => exact ⟨rfl, 0, rfl, by omega, by rw [HA0.out]; exact HS1.out⟩
    case round =>
     obtain ⟨rfl, j, rfl, hj, y⟩ := hrel
     clear HS1
     have HJ := hid hj
     have hjz : (j : Int) < z := by omega
     obtain ⟨i1, i2, i3, i4⟩ := HX2.out j (by omega)
     obtain ⟨r, hr⟩ : ∃ r, argP sg t j (q + 1) = r := ⟨_, rfl⟩
     rw [hr] at i1 i3 i4 y
     have HR := hid hr
     have I1 := hid i1
     have I3 := hid i3
     obtain ⟨bj, hbj⟩ : ∃ b, decide (j = k0) = b := ⟨_, rfl⟩
     rw [hbj] at i2
     have HBJ := hid hbj
     have I2 := hid i2
     have cp : wr.cell? ⟨P, 2, none⟩ = some (.int .i64 (r : Int)) := y.cu.row.cell 2
     have hj64 : j ≤ 60 := by have := hzb.2; omega
     clear hj hr i1 i2 i3 hbj
     go_wp2_with fail
     refine (pass P A n c A' m c' sg t r _ y.cu).mono ?_
     rintro e w5 ⟨hg5, ⟨j', hj', rfl, hc5⟩ | ⟨hj', -, -⟩⟩
     case inr => rw [I1.out] at hj'; cases hj'
     have hj2 : len1 sg t r = j' := len1_eq hj'
     have y5 := y.move hg5 hc5
     obtain ⟨s, hs⟩ : ∃ s, argP sg t (j + 1) (q + 1) = s := ⟨_, rfl⟩
     have hrs : r + j' = s := by rw [← hs, I3.out, hj2]
     rw [hrs] at y5
     have HS2 := hid hs
     have i2 := I2.out
     rw [hs] at i2
     clear y cp hg5 hc5 hj' hj2 hs hrs
     have cp : w5.cell? ⟨P, 2, none⟩ = some (.int .i64 (s : Int)) := y5.cu.row.cell 2
     have hPw := y5.lt
     cases bj with
     | false =>
      have hle : ¬ (a : Int) < (s : Int) := by have := of_decide_eq_false i2; omega
      have SS := hid (show Wy w w5 P A n c A' m c' sg t (argP sg t (j + 1) (q + 1)) O1' (n1 + 1) c1' (ys1 ++ [(q : Int)]) O2 n2 c2 ys2 by rw [HS2.out]; exact y5)
      have hgk : gk - 1 < gk ∧ j + 1 + (gk - 1) = k0 := by have h1 := HJ.out; have h2 := of_decide_eq_false HBJ.out; omega
      have HGK := hid hgk
      clear y5 i2 hgk i4
      go_wp2
      go_roundg (gk - 1)
      case measure => exact HGK.out.1
      case rel => exact ⟨rfl, j + 1, by simp, HGK.out.2, SS.out⟩
     | true =>
      have hlt : (a : Int) < (s : Int) := by have := of_decide_eq_true i2; omega
      have hjk := hid (show j = k0 from of_decide_eq_true HBJ.out)
      clear i2
      go_wp2_with (at_builtin; refine app1At rfl _ _ rfl (P + 1) O2 n2 c2 ys2 rfl (Own.alloc y5.o2 _) w5.heap.size 1 (j : Int) rfl ((Row.new _ _ _).cell 0) (by omega) (by simp; omega) ?_; intro O2' c2' w6 ho6 hg6 hb6; have y6 := y5.app2 ho6 hg6 hb6; have fr6 := y6.cu.row.free 2; have cp6 := y6.cu.row.cell 2)
      have hrm : r ≤ m := by have := HAL.out; have := HL.out; omega
      have y7 := y6.set (k' := r) hrm
      have S : HeadWy w P A n c A' m c' sg t a ab pa (a - r) (.slice O1' (n1 + 1) c1') (.slice O2' (n2 + 1) c2') (w6.setCell ⟨P, 2, none⟩ (.int .i64 (r : Int))) :=
       ⟨r, O1', n1 + 1, c1', ys1 ++ [(q : Int)], O2', n2 + 1, c2', ys2 ++ [(j : Int)], ab2, pa2, by omega, rfl, rfl, y7, by have h1 := HTR.out; rw [← hjk.out, HR.out] at h1; exact h1, by rw [← HAB.out, HE1.out]; simp, by rw [← HPA.out, HE2.out, hjk.out]; simp⟩
      have HSS := hid S
      have hgk := hid (show a - r < G by have h1 := HQ.out; have h5 := H5.out; rw [← hjk.out, HR.out] at h5; omega)
      clear S y7 y5 y6 cp ho6 hg6 hb6 hlt i4
      go_wp2
      go_roundg (a - r)
      case measure => exact hgk.out
      case rel => exact HSS.out
 ·have HX := hid hx
  clear hx
  go_enter Tryz.func140, Tryz.ntmps140
  go_wp2_with fail
  go_step3
  go_wp2_with fail
  rw [← HW.out]
  refine L.out.mono ?_
  rintro e w1 ⟨he, bb⟩
  rw [HX.out] at he
  subst he
  have F : AnsTwo w [] [] (.returned (.tuple #[.slice none 0 0, .slice none 0 0])) w1 := ⟨none, 0, 0, none, 0, 0, rfl, Own.nil _ _, Own.nil _ _, (f.next bb).b⟩
  replace F := hid F
  clear f bb L
  go_wp2
  try rw [Exit.noGoto_ret]
  go_ret2
  exact F.out
set_option maxHeartbeats 1000000 in
theorem implPathOf (A A' : Option Addr) (n c m c' : Nat) (sg t : List Int) (x : Int) (pa : List Int) (w : World) (h : Seg w w.heap.size A n sg) (h' : Seg w w.heap.size A' m t) (hn : n ≤ 1048576) (hm : m ≤ 1048576) (hpa : PathIs sg t x pa) :
  Calls Tryz.prog 77 #[.agg #[.slice A n c], .slice A' m c', .int .i64 x] w (AnsList w pa) := by
 obtain ⟨W, hW⟩ : ∃ W, W = w.alloc (.cells #[.slice A n c] 29) := ⟨_, rfl⟩
 have f : Fr w W A n c sg A' m t := by rw [hW]; exact Fr.start h h'
 have HW := hid hW
 obtain ⟨ab, htr⟩ := PathIs.trail hpa
 have L := hid (wayTo A A' n c m c' sg t x ab pa W f.s1 f.t1 hn hm htr)
 have z := f.size
 have b0 := f.b
 clear hW h h' hpa htr f
 go_enter Tryz.func77, Tryz.ntmps77
 go_wp2_with fail
 rw [← HW.out]
 refine L.out.mono ?_
 rintro e w1 ⟨O1, n1, c1, O2, n2, c2, rfl, o1, o2, bb⟩
 have F := hid (list_of (w := w) rfl o2 (Nat.le_of_lt z) (next_trans b0 bb))
 clear bb L o1 o2 b0
 go_wp2
 go_ret
 exact F.out
end wayTo
end
end Go.Proofs.YtlaloakegajheaaGreat
