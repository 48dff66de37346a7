/-
  MERGED: my texts Take, Extended, PathSpec, MatchList, Rename, RenImpl, Variant, MatchMost, MatchImpl, MatchImplB, AnyOf, MatchImplC, MatchTot, WMatchedAll, one behind the other, as they are. By an AI agent.
-/
import Derived.Test.YtghgnondlgdjdaaMFnExactMatchedAll2
import Derived.Deep.RegionHeld3
import Derived.Deep.LoopGhost
import Derived.Deep.QuietTactic
import Derived.BigQuiet
import Derived.Deep.WholeRow
import Derived.Shelf.Abstract
namespace Go.Proofs.Ytghgnondlgdjdaa
section
open Go.Lib (hid)
namespace take
open Go.RowKit base ints sig same term termOk endAt marks app sym sub segs termFacts termMath posMath cursor matchMath matchSpec whole takeMath curO
set_option maxRecDepth 100000
theorem set_same {s : List (List Int)} {v : Nat} {ys : List Int} (h : s.getD v [] = ys) (hv : v < s.length) : s.set v ys = s := by
 refine List.ext_getElem (by simp) fun i h1 h2 => ?_
 rw [List.getElem_set]
 split
 ·rename_i e
  subst e
  rw [← h]
  simp [List.getD, hv]
 ·rfl
structure Tk (w : World) (g : Nat) (A : Option Addr) (n c : Nat) (Q : Option Addr) (m mc : Nat) (sg t : List Int) (k : Nat) (s : List (List Int)) : Prop where
 row : Row w (g + 1) 88 #[.slice A n c, .slice Q m mc, .int .i64 k]
 tab : ∃ cs, Row w g 84 cs ∧ TabR w g cs s
 ss : Seg w g A n sg
 st : Seg w g Q m t
 le : k ≤ m
 hn : n ≤ 1048576
 hm : m ≤ 1048576
 ars : Arities sg
 hs : ∀ j, (s.getD j []).length ≤ m
section
variable {w w' : World} {g : Nat} {A : Option Addr} {n c : Nat} {Q : Option Addr} {m mc : Nat} {sg t : List Int} {k k' : Nat} {s : List (List Int)}
theorem Tk.cur (h : Tk w g A n c Q m mc sg t k s) : Cur w (g + 1) A n c Q m mc sg t k := ⟨h.row, h.ss.more (Nat.le_succ _), h.st.more (Nat.le_succ _), h.le, h.hn, h.hm, h.ars⟩
theorem Tk.lt (h : Tk w g A n c Q m mc sg t k s) : g + 1 < w.heap.size := h.row.lt
theorem keep_of {B : Nat} {r : Option Nat} (hg : w.grownBy w' r) (hB : B ≤ w.heap.size) (hr : ∀ k, r = some k → B ≤ k) : ∀ p : Addr, p.block < B → w'.cell? p = w.cell? p :=
 fun q hq => World.cell?_of_block (hg.block q.block (by omega) (fun e => by have := hr _ e.symm; omega))
theorem Tk.move (h : Tk w g A n c Q m mc sg t k s) (hg : w.grownBy w' (some (g + 1))) (hr : Row w' (g + 1) 88 #[.slice A n c, .slice Q m mc, .int .i64 k']) (hk : k' ≤ m) : Tk w' g A n c Q m mc sg t k' s := by
 have hl := h.lt
 have hk0 := keep_of (B := g) hg (by omega) (fun k e => by injection e; omega)
 obtain ⟨cs, h1, h2⟩ := h.tab
 refine ⟨hr, ⟨cs, (hg.block g (by omega) (fun e => by injection e; omega)).trans h1, h2.keep hk0⟩, h.ss.keep hk0, h.st.keep hk0, hk, h.hn, h.hm, h.ars, h.hs⟩
theorem Tk.drewN (h : Tk w g A n c Q m mc sg t k s) (d : Nat) : Tk (w.drewN d) g A n c Q m mc sg t k s := ⟨h.row, h.tab, h.ss, h.st, h.le, h.hn, h.hm, h.ars, h.hs⟩
theorem Tk.put (h : Tk w g A n c Q m mc sg t k s) {j : Nat} (hj : j < 24) {D : Option Addr} {dn dc : Nat} {ys : List Int} (hs : Seg w g D dn ys) (hc : Cap D dn dc) (hl : ys.length ≤ m) :
  Tk (w.setCell ⟨g, j, none⟩ (.slice D dn dc)) g A n c Q m mc sg t k (s.set j ys) := by
 have hlt := h.lt
 have hg : w.grownBy (w.setCell ⟨g, j, none⟩ (.slice D dn dc)) (some g) := grown_put (World.grownBy.refl _ _) _ _
 have hk0 := keep_of (B := g) hg (by omega) (fun k e => by injection e; omega)
 obtain ⟨cs, h1, h2⟩ := h.tab
 exact ⟨h.row.far (show g + 1 ≠ g by omega) _, ⟨_, h1.put j _, (h2.put hj hs hc).keep hk0⟩, h.ss.keep hk0, h.st.keep hk0, h.le, h.hn, h.hm, h.ars, fun i => by rw [set_get]; split; exact hl; exact h.hs i⟩
theorem Tk.held (h : Tk w g A n c Q m mc sg t k s) {j : Nat} (hj : j < 24) : ∃ D dn dc, w.cell? ⟨g, j, none⟩ = some (.slice D dn dc) ∧ Seg w g D dn (s.getD j []) ∧ w.frozen? ⟨g, j, none⟩ = false := by
 obtain ⟨cs, h1, h2⟩ := h.tab
 obtain ⟨D, dn, dc, e, hs, _⟩ := h2.2.2 j hj
 exact ⟨D, dn, dc, by rw [h1.cell j, e], hs, h1.free j⟩
theorem Tk.len (h : Tk w g A n c Q m mc sg t k s) : s.length = 24 := by obtain ⟨cs, h1, h2⟩ := h.tab; exact h2.2.1
end
theorem btw_drewN (lo hi : Nat) (w : World) (d : Nat) : Btw lo hi w (w.drewN d) := ⟨rfl, rfl, rfl, Nat.le_refl _, fun _ _ _ => rfl⟩
def AnsTake (w : World) (g : Nat) (A : Option Addr) (n c : Nat) (Q : Option Addr) (m mc : Nat) (sg t : List Int) (k : Nat) (s : List (List Int)) (x : Int) (e : Ending) (w' : World) : Prop :=
 Btw g (g + 2) w w' ∧ ((∃ k' s', e = .returned (.bool true) ∧ Tk w' g A n c Q m mc sg t k' s' ∧ ((0 ≤ x ∧ t.getD k 0 = x ∧ k' = k + 1) ∨ (x < 0 ∧ k' = k + (subL sg t k).length)) ∧ ∀ r, mst sg t (x :: r) k s = mst sg t r k' s') ∨
  (e = .returned (.bool false) ∧ ∀ r, mst sg t (x :: r) k s = none))
set_option maxHeartbeats 1000000 in
theorem take (g : Nat) (A Q : Option Addr) (n c m mc : Nat) (sg t : List Int) (k : Nat) (s : List (List Int)) (x : Int) (w : World) (h : Tk w g A n c Q m mc sg t k s) (hk : k < m) (hmc : m ≤ mc) (hmc2 : mc ≤ 9223372036854775807) (hx : -24 ≤ x) (hok : termOkB sg t = true) :
  Calls Try.prog 95 #[.pointer (some ⟨g, 0, none⟩), .int .i64 x, .pointer (some ⟨g + 1, 0, none⟩)] w (AnsTake w g A n c Q m mc sg t k s x) := by
 have HT := hid hok
 have HL := hid h.st.1
 have hkt : ¬ t.length ≤ k := by rw [HL.out]; omega
 have hm := h.hm
 have c1 : w.cell? ⟨g + 1, 1, none⟩ = some (.slice Q m mc) := h.row.cell 1
 have c2 : w.cell? ⟨g + 1, 2, none⟩ = some (.int .i64 k) := h.row.cell 2
 have f2 : w.frozen? ⟨g + 1, 2, none⟩ = false := h.row.free 2
 obtain ⟨b, off, y, rfl, hbb, hy, ey⟩ := h.st.spot hk
 have i0 : (0 : Int) ≤ (k : Int) := by omega
 have i1 : (k : Int) < (m : Int) := by omega
 clear hok
 by_cases hx0 : 0 ≤ x
 ·have g0 : w.grownBy (w.setCell ⟨g + 1, 2, none⟩ (.int .i64 ((k : Int) + 1))) (some (g + 1)) := grown_put (World.grownBy.refl _ _) _ _
  have r0 := h.row.put 2 (.int .i64 ((k : Int) + 1))
  have er : (.int .i64 ((k : Int) + 1) : Value) = .int .i64 ((k + 1 : Nat) : Int) := by simp
  have r1 := r0
  rw [er] at r1
  have M := hid (h.move (k' := k + 1) g0 (by rw [← er] at r1; rw [← er]; exact r0) hk)
  clear r0 r1 er
  have B := hid (Btw.of_grown (lo := g) (hi := g + 2) g0 (fun k e => by injection e; omega))
  have hy1 : (w.setCell ⟨g + 1, 2, none⟩ (.int .i64 ((k : Int) + 1))).cell? ⟨b, off + k, none⟩ = some (.int .i64 y) := (World.cell?_setCell_far w ⟨g + 1, 2, none⟩ ⟨b, off + k, none⟩ _ (by show g + 1 ≠ b; omega)).trans hy
  by_cases hxy : x = y
  ·subst hxy
   have F := fun d => (show AnsTake w g A n c (some ⟨b, off, none⟩) m mc sg t k s x (.returned (.bool true)) ((w.setCell ⟨g + 1, 2, none⟩ (.int .i64 ((k : Int) + 1))).drewN d) from
    ⟨B.out.trans (btw_drewN _ _ _ d), .inl ⟨k + 1, s, rfl, M.out.drewN d, .inl ⟨hx0, ey.out, rfl⟩, fun r => mst_sym hkt hx0 ey.out.symm⟩⟩)
   have HF := hid F
   clear F M B g0 h ey
   go_enter Try.func95, Try.ntmps95
   go_wp2
   go_quiet (fail)
   go_wp2
   go_ret
   exact HF.out _
  ·have hd : (y == x) = false := by simp; exact fun e => hxy e.symm
   have F := fun d => (show AnsTake w g A n c (some ⟨b, off, none⟩) m mc sg t k s x (.returned (.bool false)) ((w.setCell ⟨g + 1, 2, none⟩ (.int .i64 ((k : Int) + 1))).drewN d) from
    ⟨B.out.trans (btw_drewN _ _ _ d), .inr ⟨rfl, fun r => mst_symNo hkt hx0 (by rw [ey.out]; exact hxy)⟩⟩)
   have HF := hid F
   clear F M B g0 h ey
   go_enter Try.func95, Try.ntmps95
   go_wp2
   go_quiet (fail)
   go_wp2
   go_ret
   exact HF.out _
 ·obtain ⟨v, hv⟩ : ∃ v : Nat, x = -1 - (v : Int) := ⟨(-1 - x).toNat, by omega⟩
  subst hv
  have hv24 : v < 24 := by omega
  have HVR := hid (show vr (-1 - (v : Int)) = v by unfold vr; omega)
  obtain ⟨t1, t2, t3⟩ := term_at HT.out (show k < t.length by rw [HL.out]; exact hk)
  rw [HL.out] at t3
  obtain ⟨j, hj⟩ : ∃ j, len1 sg t k = j := ⟨_, rfl⟩
  have hsl := (sub_len1 HT.out (show k < t.length by rw [HL.out]; exact hk)).1
  have hsub : subL sg t k = (t.drop k).take j := by unfold subL; rw [hj]
  rw [hj] at t1 t2 t3 hsl
  obtain ⟨ys, hys⟩ : ∃ ys, subL sg t k = ys := ⟨_, rfl⟩
  rw [hys] at hsl hsub
  have HYS := hid hys
  have HSUB := hid hsub
  have HSL := hid hsl
  have T1 := hid t1
  have C := hid h.cur
  have HH := hid h
  have HKT := hid hkt
  have a1 : (k : Int) ≤ (k : Int) + (j : Int) := by omega
  have a2 : (k : Int) + (j : Int) ≤ (mc : Int) := by omega
  have a3 : ¬ mc = k := by omega
  have a4 : k + j ≤ mc := by omega
  have w1 : IntKind.i64.wrap (-1 - (-1 - (v : Int))) = (v : Int) := by rw [IntKind.wrap_i64]; omega
  have w2 : IntKind.i64.wrap (v : Int) = (v : Int) := by rw [IntKind.wrap_i64]; omega
  have j0 : (0 : Int) ≤ (v : Int) := by omega
  have j1 : (v : Int) < 24 := by omega
  clear hj hys hsub hsl t1 hy ey f2 hkt h
  go_enter Try.func95, Try.ntmps95
  have C2 := hid (C.out.drewN 1)
  go_wp2_with fail
  go_region_held3 (fun _ => True) (trivial)
   (first
    | (go_at_call 100; refine (partC (g + 1) A n c b off m mc sg t k j w.drew C2.out T1.out t3 t2 hmc hmc2).mono ?_; rintro e w3 ⟨rfl, hg0, hc⟩))
  ·have hg : w.grownBy w3 (some (g + 1)) := grown_trans (World.grownBy.refl w _) ⟨hg0.os, hg0.tape, hg0.output, hg0.size, hg0.block⟩
   have M := HH.out.move hg hc.row t3
   have b3 := Btw.of_grown (lo := g) (hi := g + 2) hg (fun k e => by injection e; omega)
   obtain ⟨D, dn, dc, ch, sh, fh⟩ := M.held hv24
   obtain ⟨os, hos⟩ : ∃ os, s.getD v [] = os := ⟨_, rfl⟩
   have hdn : dn ≤ 1048576 := by rw [← sh.1]; exact Nat.le_trans (M.hs v) hm
   rw [hos] at sh
   have HOS := hid hos
   have HSH := hid sh
   have HM := hid M
   have HB := hid b3
   have cut := hid (Seg.cut (a := k) (j := j) M.st t3)
   clear hc hg hg0 hos sh b3 M C C2 c1 c2
   have HC := hid (show Cap (some ⟨b, off + k, none⟩) j (mc - k) from ⟨by omega, by omega, fun e => by cases e⟩)
   have hj60 : j ≤ 1048576 := by omega
   have HJ := hid (show 1 ≤ j from t2)
   by_cases hd0 : dn = 0
   ·subst hd0
    have hno : ¬ ((s.getD (vr (-1 - (v : Int))) []).length ≠ 0 ∧ s.getD (vr (-1 - (v : Int))) [] ≠ subL sg t k) := by
     rw [HVR.out, HOS.out, HSH.out.1]
     exact fun e => e.1 rfl
    have R := hid (fun r => mst_var (sg := sg) (r := r) HKT.out (show ¬ 0 ≤ -1 - (v : Int) by omega) hno)
    have P := hid (HM.out.put (j := v) (D := some ⟨b, off + k, none⟩) (dn := j) (dc := mc - k) (ys := ys) hv24 (by rw [HSUB.out]; exact cut.out) HC.out (by rw [HSL.out]; omega))
    have BP := hid (HB.out.trans (Btw.of_grown (lo := g) (hi := g + 2) (grown_put (World.grownBy.refl w3 (some g)) v (.slice (some ⟨b, off + k, none⟩) j (mc - k))) (fun k e => by injection e; omega)))
    have ce := World.cell?_setCell_same w3 ⟨g, v, none⟩ (.slice (some ⟨b, off + k, none⟩) j (mc - k)) (show w3.cell? ⟨g, v, none⟩ = some (.slice D 0 dc) from ch)
    have PS := hid (show Seg (w3.setCell ⟨g, v, none⟩ (.slice (some ⟨b, off + k, none⟩) j (mc - k))) (w3.setCell ⟨g, v, none⟩ (.slice (some ⟨b, off + k, none⟩) j (mc - k))).heap.size (some ⟨b, off + k, none⟩) j ys from by
     have q := cut.out.put (p := ⟨g, v, none⟩) (Nat.le_refl _) (.slice (some ⟨b, off + k, none⟩) j (mc - k))
     rw [← HSUB.out] at q
     exact q.more (by have := P.out.lt; omega))
    clear HM HB hno
    go_wp2_with fail
    refine (implSame _ _ j j _ _ ys ys _ PS.out PS.out hj60 hj60).mono ?_
    rintro e w5 ⟨rfl, d, rfl⟩
    rw [decide_eq_true (show ys = ys from rfl)]
    have F : AnsTake w g A n c (some ⟨b, off, none⟩) m mc sg t k s (-1 - (v : Int)) (.returned (.bool true)) ((w3.setCell ⟨g, v, none⟩ (.slice (some ⟨b, off + k, none⟩) j (mc - k))).drewN d) :=
     ⟨BP.out.trans (btw_drewN _ _ _ d), .inl ⟨k + j, s.set v ys, rfl, P.out.drewN d, .inr ⟨by omega, by rw [HYS.out, HSL.out]⟩, fun r => by rw [R.out r, HVR.out, HYS.out, HSL.out]⟩⟩
    have HF := hid F
    clear F R P BP ce PS cut
    go_wp2
    go_ret
    exact HF.out
   ·have hdz : ((dn : Int) == 0) = false := by simp; omega
    have hwg := hid (show g ≤ w3.heap.size by have := HM.out.lt; omega)
    have PS := hid (show Seg w3 w3.heap.size (some ⟨b, off + k, none⟩) j ys from by
     have q := cut.out
     rw [← HSUB.out] at q
     exact q.more hwg.out)
    have PO := hid (show Seg w3 w3.heap.size D dn os from HSH.out.more hwg.out)
    by_cases hoy : os = ys
    ·have hno : ¬ ((s.getD (vr (-1 - (v : Int))) []).length ≠ 0 ∧ s.getD (vr (-1 - (v : Int))) [] ≠ subL sg t k) := by
      rw [HVR.out, HOS.out, HYS.out]
      exact fun e => e.2 hoy
     have R := hid (fun r => mst_var (sg := sg) (r := r) HKT.out (show ¬ 0 ≤ -1 - (v : Int) by omega) hno)
     have SS := hid (show s.set v ys = s from set_same (HOS.out.trans hoy) (by rw [HM.out.len]; exact hv24))
     have DS := hid (decide_eq_true hoy)
     clear cut hno hoy
     go_wp2_with fail
     refine (implSame _ _ dn j _ _ os ys _ PO.out PS.out hdn hj60).mono ?_
     rintro e w5 ⟨rfl, d, rfl⟩
     rw [DS.out]
     have F : AnsTake w g A n c (some ⟨b, off, none⟩) m mc sg t k s (-1 - (v : Int)) (.returned (.bool true)) (w3.drewN d) :=
      ⟨HB.out.trans (btw_drewN _ _ _ d), .inl ⟨k + j, s, rfl, HM.out.drewN d, .inr ⟨by omega, by rw [HYS.out, HSL.out]⟩, fun r => by rw [R.out r, HVR.out, HYS.out, HSL.out, SS.out]⟩⟩
     have HF := hid F
     clear F R SS DS PS PO HM HB
     go_wp2
     go_ret
     exact HF.out
    ·have hyes : (s.getD (vr (-1 - (v : Int))) []).length ≠ 0 ∧ s.getD (vr (-1 - (v : Int))) [] ≠ subL sg t k := by
      rw [HVR.out, HOS.out, HYS.out]
      exact ⟨by rw [HSH.out.1]; exact hd0, hoy⟩
     have R := hid (fun r => mst_varNo (sg := sg) (r := r) HKT.out (show ¬ 0 ≤ -1 - (v : Int) by omega) hyes)
     have DS := hid (decide_eq_false hoy)
     clear cut hyes hoy
     go_wp2_with fail
     refine (implSame _ _ dn j _ _ os ys _ PO.out PS.out hdn hj60).mono ?_
     rintro e w5 ⟨rfl, d, rfl⟩
     rw [DS.out]
     have F : AnsTake w g A n c (some ⟨b, off, none⟩) m mc sg t k s (-1 - (v : Int)) (.returned (.bool false)) (w3.drewN d) :=
      ⟨HB.out.trans (btw_drewN _ _ _ d), .inr ⟨rfl, R.out⟩⟩
     have HF := hid F
     clear F R DS PS PO HM HB
     go_wp2
     go_ret
     exact HF.out
end take
end
section
open Go.Lib (hid)
namespace extended
open Go.RowKit base ints sig same term termOk endAt marks app sym sub segs termFacts termMath posMath cursor matchMath matchSpec whole takeMath take segsHelp kinds plainMath plain plainOf gives Go.Proofs.Ytghgnondlgdjdaa.look fillMath
set_option maxRecDepth 100000
def AnsExt (w : World) (R : Option (List (List Int))) (e : Ending) (w' : World) : Prop :=
 ∃ cs, e = .returned (.tuple #[.agg cs, .bool R.isSome]) ∧ TabR w' w.heap.size cs (R.getD s0) ∧ (∀ j, ((R.getD s0).getD j []).length ≤ 60) ∧ Below w.heap.size w w'
def HeadX (w : World) (A : Option Addr) (n c : Nat) (Q : Option Addr) (m mc : Nat) (sg t : List Int) (P : Option Addr) (pn : Nat) (p : List Int) (R : Option (List (List Int))) (i : Value) (wr : World) : Prop :=
 ∃ (j k : Nat) (s : List (List Int)), i = .int .i64 j ∧ j ≤ pn ∧ Tk wr w.heap.size A n c Q m mc sg t k s ∧ Row wr (w.heap.size + 1 + 1) 84 z24 ∧ Seg wr w.heap.size P pn p ∧ Below w.heap.size w wr ∧ Sync sg p t j k ∧ mst sg t (p.drop j) k s = R
theorem seg_btw {w w' : World} {lo hi : Nat} {A : Option Addr} {n : Nat} {xs : List Int} (h : Seg w lo A n xs) (hb : Btw lo hi w w') (hl : lo ≤ w.heap.size) : Seg w' lo A n xs :=
 h.keep fun p hp => World.cell?_of_block (hb.block p.block (by omega) (.inl hp))
set_option maxHeartbeats 1000000 in
theorem extended (A P Q : Option Addr) (n c pn pc m mc : Nat) (sg p t : List Int) (at_ : Nat) (cs : Array Value) (s : List (List Int)) (w : World) (h : Seg w w.heap.size A n sg) (hp : Seg w w.heap.size P pn p) (ht : Seg w w.heap.size Q m t)
  (hn : n ≤ 1048576) (hpn : pn ≤ 60) (hm : m ≤ 60) (hmc : m ≤ mc) (hmc2 : mc ≤ 9223372036854775807) (hat : at_ < m) (hokp : termOkB sg p = true) (hokt : termOkB sg t = true) (htab : TabR w w.heap.size cs s) (hs : ∀ j, (s.getD j []).length ≤ m) :
  Calls Try.prog 75 #[.agg cs, .slice P pn pc, .agg #[.slice A n c, .slice Q m mc, .int .i64 (at_ : Int)]] w (AnsExt w (mst sg t p at_ s)) := by
 obtain ⟨W, hW⟩ : ∃ W, W = ((w.alloc (.cells cs 84)).alloc (.cells #[.slice A n c, .slice Q m mc, .int .i64 (at_ : Int)] 88)).alloc (.cells z24 84) := ⟨_, rfl⟩
 have b0 : Below w.heap.size w W := by rw [hW]; exact (((Below.refl _ _).alloc (Nat.le_refl _) _).alloc (by simp) _).alloc (by simp; omega) _
 have r0 : Row W w.heap.size 84 cs := by rw [hW]; exact ((Row.new w _ _).alloc _).alloc _
 have r1 : Row W (w.heap.size + 1) 88 #[.slice A n c, .slice Q m mc, .int .i64 (at_ : Int)] := by
  rw [hW]
  have := (Row.new (w.alloc (.cells cs 84)) 88 #[.slice A n c, .slice Q m mc, .int .i64 (at_ : Int)]).alloc (.cells z24 84)
  simpa using this
 have r2 : Row W (w.heap.size + 1 + 1) 84 z24 := by
  rw [hW]
  have := Row.new ((w.alloc (.cells cs 84)).alloc (.cells #[.slice A n c, .slice Q m mc, .int .i64 (at_ : Int)] 88)) 84 z24
  simpa using this
 have HX : HeadX w A n c Q m mc sg t P pn p (mst sg t p at_ s) (.int .i64 0) W :=
  ⟨0, at_, s, rfl, Nat.zero_le _, ⟨r1, ⟨cs, r0, htab.below b0⟩, h.below b0, ht.below b0, Nat.le_of_lt hat, hn, by omega, (sig_arities (termOk_parts hokt).1).1, hs⟩, r2, hp.below b0, b0, Sync.start hokp hokt (by rw [ht.1]; exact hat), by rw [List.drop_zero]⟩
 have HH := hid HX
 have HW := hid hW
 have HT := hid hokt
 have HL := hid ht.1
 have HPL := hid hp.1
 have HPM : Hid (∀ i, i < pn → -24 ≤ p.getD i 0) := hid (fun i hi => (term_num hokp (by rw [hp.1]; exact hi)).1)
 generalize mst sg t p at_ s = R at *
 clear hW HX r0 r1 r2 b0 htab hs hokt hokp h hp ht
 go_enter Try.func75, Try.ntmps75
 go_wp2_with (first
  | (refine rowBox rfl 84 _ rfl cs rfl ?_)
  | (refine rowAlloc rfl 84 rfl z24 zero_b ?_))
 rw [← HW.out]
 go_loopw [12] (fun i wr => HeadX w A n c Q m mc sg t P pn p R i wr) (fun i _ => pn - (intOf i).toNat)
 case atStart => exact HH.out
 case round =>
  obtain ⟨j, k, s, rfl, hj, M, r2, sp, hb, hsy, hm1⟩ := hrel
  clear HH
  have HM1 := hid hm1
  have HSY := hid hsy
  clear hm1 hsy
  by_cases hlt : j < pn
  ·obtain ⟨bp, op, x, rfl, hbp, hx, ex⟩ := sp.spot hlt
   have hx24 : -24 ≤ x := by rw [← ex.out]; exact HPM.out j hlt
   have hkm : k < m := by have := HSY.out.lt (by rw [HPL.out]; exact hlt); rw [HL.out] at this; exact this
   have HD := hid (show p.drop j = x :: p.drop (j + 1) by rw [drop_cons (by rw [HPL.out]; exact hlt), ex.out])
   have LT := hid (take w.heap.size A Q n c m mc sg t k s x wr M hkm hmc hmc2 hx24 HT.out)
   have gl := M.lt
   have HR := hid r2
   have HB := hid hb
   have HP := hid sp
   clear M r2 hb sp
   go_wp2_with fail
   refine LT.out.mono ?_
   rintro e w2 ⟨bb, ⟨k', s', rfl, M, hmv, hr⟩ | ⟨rfl, hr⟩⟩
   ·have hsync : Sync sg p t (j + 1) k' := by
     rcases hmv with ⟨h0, h1, rfl⟩ | ⟨h0, rfl⟩
     ·exact HSY.out.sym (by rw [HPL.out]; exact hlt) ex.out h1
     ·exact HSY.out.var (by rw [HPL.out]; exact hlt) ex.out hx24 h0 HT.out
    have S : HeadX w A n c Q m mc sg t (some ⟨bp, op, none⟩) pn p R (.int .i64 ((j : Int) + 1)) w2 :=
     ⟨j + 1, k', s', by simp, hlt, M, segs.Row.btw HR.out bb (.inr (Nat.le_refl _)), seg_btw HP.out bb (by omega), Below.btw HB.out bb (Nat.le_refl _) (by omega), hsync, by rw [← hr, ← HD.out]; exact HM1.out⟩
    have HS := hid S
    clear S M hsync hmv hr bb HR HP HB LT ex HD hx
    go_wp2
    go_roundw
    case rel => exact HS.out
    case measure => simp [intOf]; omega
   ·have hR : R = none := by rw [← HM1.out, HD.out]; exact hr _
    have r2 := segs.Row.btw HR.out bb (.inr (Nat.le_refl _))
    have b2 := Below.btw HB.out bb (Nat.le_refl _) (by omega)
    have hz := r2
    unfold Row at hz
    have r3 := Row.setRow r2 z24
    have F : AnsExt w R (.returned (.tuple #[.agg z24, .bool false])) (w2.setRow (w.heap.size + 1 + 1) z24) :=
     ⟨z24, by rw [hR]; rfl, by rw [hR]; exact TabR.new _ _, fun i => by rw [hR]; simp only [Option.getD_none]; rw [s0_get]; simp, Below.btw b2 (Btw.of_grown (lo := w.heap.size) (hi := w.heap.size + 1 + 1 + 1) (grown_setRow w2 (w.heap.size + 1 + 1) z24) (fun k e => by injection e; omega)) (Nat.le_refl _) b2.size⟩
    have HF := hid F
    have H3 := hid r3
    have HZ := hid hz
    clear F r3 r2 b2 hz hr bb HR HP HB LT ex HD hx hR
    go_wp2_with (first
     | (refine rowBuild rfl 84 rfl z24 built_b ?_)
     | (refine rowStore rfl 84 _ _ rfl (w.heap.size + 1 + 1) z24 z24 84 rfl rfl HZ.out (by rw [z24_size]; exact size_b) rfl z24_one ?_))
    (try simp only [Exit.inBlock, Exit.then])
    refine bodyPost_ret (v := .tuple #[.agg z24, .bool false]) ?_ rfl HF.out
    exact results_row_tmp Try.results75 _ (w.heap.size + 1 + 1) 84 z24 _ rfl H3.out Try.underlying84 rfl (by rw [z24_size]; exact size_b)
  ·have hjp : j = pn := by omega
   have hR : R = some s := by rw [← HM1.out, hjp, List.drop_eq_nil_of_le (by rw [HPL.out]; exact Nat.le_refl _)]; rfl
   obtain ⟨cs', h1, h2⟩ := M.tab
   have hz1 := h1
   have hz2 := r2
   unfold Row at hz1 hz2
   have r3 := Row.setRow r2 cs'
   have hl := M.lt
   have F : AnsExt w R (.returned (.tuple #[.agg cs', .bool true])) (wr.setRow (w.heap.size + 1 + 1) cs') :=
    ⟨cs', by rw [hR]; rfl, by rw [hR]; exact h2.keep (keep_of (grown_setRow wr (w.heap.size + 1 + 1) cs') (by omega) (fun k e => by injection e; omega)), by rw [hR]; exact fun j => Nat.le_trans (M.hs j) hm,
     Below.btw hb (Btw.of_grown (lo := w.heap.size) (hi := w.heap.size + 1 + 1 + 1) (grown_setRow wr (w.heap.size + 1 + 1) cs') (fun k e => by injection e; omega)) (Nat.le_refl _) hb.size⟩
   have HF := hid F
   have H3 := hid r3
   have HZ1 := hid hz1
   have HZ2 := hid hz2
   have HSZ := hid h2.1
   have HON := hid h2.one
   clear F r3 r2 hz1 hz2 h1 h2 hR M sp hb hjp
   go_wp2_with (first
    | (refine wpList_load_row rfl 84 _ rfl w.heap.size rfl 84 cs' (0, 0) _ HZ1.out Try.underlying84 rfl (by rw [HSZ.out]; exact size_b) ?_)
    | (refine rowStore rfl 84 _ _ rfl (w.heap.size + 1 + 1) cs' z24 84 rfl rfl HZ2.out (by rw [HSZ.out]; exact size_b) (by rw [HSZ.out]; rfl) HON.out ?_))
   (try simp only [Exit.inBlock, Exit.then])
   refine bodyPost_ret (v := .tuple #[.agg cs', .bool true]) ?_ rfl HF.out
   exact results_row_tmp Try.results75 _ (w.heap.size + 1 + 1) 84 cs' _ rfl H3.out Try.underlying84 rfl (by rw [HSZ.out]; exact size_b)
set_option maxHeartbeats 1000000 in
theorem lookX (cs : Array Value) (s : List (List Int)) (w : World) (htab : TabR w w.heap.size cs s) :
  Calls Try.prog 96 #[.agg cs] w fun e w' => ∃ g, e = .returned (.func (.func 79) #[] #[.pointer (some ⟨g, 0, none⟩)]) ∧ Row w' g 30 #[.slice (some ⟨w.heap.size, 0, none⟩) 24 24] ∧ Segs w' w'.heap.size (some ⟨w.heap.size, 0, none⟩) 24 s ∧ Below w.heap.size w w' ∧ w.heap.size ≤ g := by
 obtain ⟨W, hW⟩ : ∃ W, W = w.alloc (.cells cs 84) := ⟨_, rfl⟩
 have b0 : Below w.heap.size w W := by rw [hW]; exact (Below.refl _ _).alloc (Nat.le_refl _) _
 have r0 : Row W w.heap.size 84 cs := by rw [hW]; exact Row.new w _ _
 have s1 : Segs W W.heap.size (some ⟨w.heap.size, 0, none⟩) 24 s := (htab.below b0).segs r0 b0.size
 have HW := hid hW
 clear hW htab r0
 go_enter Try.func96, Try.ntmps96
 go_wp2_with (first
  | (refine rowBox rfl 84 _ rfl cs rfl ?_))
 rw [← HW.out]
 refine (lookupIn (some ⟨w.heap.size, 0, none⟩) 24 24 W).mono ?_
 rintro e w3 ⟨rfl, hw3⟩
 have b3 : Below W.heap.size W w3 := by rw [hw3]; exact (Below.refl _ _).alloc (Nat.le_refl _) _
 have r3 : Row w3 W.heap.size 30 #[.slice (some ⟨w.heap.size, 0, none⟩) 24 24] := by rw [hw3]; exact Row.new _ _ _
 have F := hid (show ∃ g, Ending.returned (.func (.func 79) #[] #[.pointer (some ⟨W.heap.size, 0, none⟩)]) = .returned (.func (.func 79) #[] #[.pointer (some ⟨g, 0, none⟩)]) ∧ Row w3 g 30 #[.slice (some ⟨w.heap.size, 0, none⟩) 24 24] ∧ Segs w3 w3.heap.size (some ⟨w.heap.size, 0, none⟩) 24 s ∧ Below w.heap.size w w3 ∧ w.heap.size ≤ g from ⟨_, rfl, r3, s1.next b3, next_trans b0 b3, b0.size⟩)
 clear hw3 b3 r3 s1 b0
 go_wp2
 go_ret
 exact F.out
set_option maxHeartbeats 1000000 in
theorem plainB (cs : Array Value) (s : List (List Int)) (w : World) (htab : TabR w w.heap.size cs s) (hs : ∀ j, (s.getD j []).length ≤ 60) :
  Calls Try.prog 76 #[.agg cs] w (AnsSubst w (plainL (givesL s) 24)) := by
 obtain ⟨W, hW⟩ : ∃ W, W = (w.alloc (.cells cs 84)).alloc (.cells #[.slice none 0 0] 30) := ⟨_, rfl⟩
 have b0 : Below w.heap.size w W := by rw [hW]; exact ((Below.refl _ _).alloc (Nat.le_refl _) _).alloc (by simp) _
 have r0 : Row W w.heap.size 84 cs := by rw [hW]; exact (Row.new w _ _).alloc _
 have r1 : Row W (w.heap.size + 1) 30 #[.slice none 0 0] := by
  rw [hW]
  have := Row.new (w.alloc (.cells cs 84)) 30 #[.slice none 0 0]
  simpa using this
 have hz := r0
 unfold Row at hz
 rw [hW] at hz
 have HZ := hid hz
 clear hz
 have HSZ := hid htab.1
 have HW := hid hW
 have LK := hid (lookX cs s W (htab.below b0 |>.more b0.size))
 have HG := hid (show ∀ i, (givesL s i).length ≤ 60 from fun i => by
  unfold givesL
  split
  ·simp [vt]
  ·exact hs i)
 clear hW htab hs r0
 go_enter Try.func76, Try.ntmps76
 go_wp2_with (first
  | (refine rowBox rfl 84 _ rfl cs rfl ?_)
  | (refine wpList_load_row rfl 84 _ rfl w.heap.size rfl 84 cs (0, 0) _ HZ.out Try.underlying84 rfl (by rw [HSZ.out]; exact size_b) ?_))
 rw [← HW.out]
 refine LK.out.mono ?_
 rintro e w3 ⟨g, rfl, r3, s1, b3, hg⟩
 replace b0 := next_trans b0 b3
 replace r1 := r1.next b3
 have L3 := hid (plain 79 #[.pointer (some ⟨g, 0, none⟩)] (enters_of Try.func79 (by kernel_rfl) rfl) (givesL s) w3 (lookSubst g (some ⟨W.heap.size, 0, none⟩) 24 24 s w3 r3 s1 (by omega)) (gives_pos s) (fun i => Nat.le_trans (HG.out i) (by omega)))
 clear b3 r3 s1 hg LK
 go_wp2_with fail
 refine L3.out.mono ?_
 rintro e w4 ⟨O, on, oc, rfl, ho, b4⟩
 have z1 := r1.lt
 have z0 := b0.size
 replace r1 := r1.next b4
 replace b0 := next_trans b0 b4
 have cR : w4.cell? ⟨w.heap.size + 1, 0, none⟩ = some (.slice none 0 0) := r1.cell 0
 have fR : w4.frozen? ⟨w.heap.size + 1, 0, none⟩ = false := r1.free 0
 have F : AnsSubst w (plainL (givesL s) 24) (.returned (.agg #[.slice O on oc])) (w4.setCell ⟨w.heap.size + 1, 0, none⟩ (.slice O on oc)) :=
  ⟨O, on, oc, rfl, (owns_put ho r1 (by omega) 0 _).wider z0 (by simp), b0.setCell (p := ⟨w.heap.size + 1, 0, none⟩) (show w.heap.size ≤ w.heap.size + 1 by omega) _⟩
 have HF := hid F
 clear F ho r1 b0 b4 L3
 go_wp2
 exact bodyPost_ret (v := .agg #[.slice O on oc]) (by simp [results, Try.results76, go_sem, cR]) rfl HF.out
end extended
end
section
namespace pathSpec
open Go.RowKit base ints sig term arity endOf cursor termOk endAt inside marks app appAt sym args posMath
set_option maxRecDepth 100000
def PathIs (sg t : List Int) (x : Int) (pa : List Int) : Prop := (thereB sg t x = true ∧ ∃ ab, Trail sg t x.toNat 0 ab pa) ∨ (thereB sg t x = false ∧ pa = [])
theorem PathIs.one {sg t : List Int} {x : Int} {pa pa' : List Int} (h : PathIs sg t x pa) (h' : PathIs sg t x pa') : pa = pa' := by
 rcases h with ⟨e, ab, hw⟩ | ⟨e, rfl⟩ <;> rcases h' with ⟨e', ab', hw'⟩ | ⟨e', rfl⟩
 ·exact (hw.one hw').2
 ·rw [e] at e'; cases e'
 ·rw [e] at e'; cases e'
 ·rfl
theorem PathIs.len {sg t : List Int} {x : Int} {pa : List Int} (h : PathIs sg t x pa) : pa.length ≤ 60 := by
 rcases h with ⟨e, ab, hw⟩ | ⟨e, rfl⟩
 ·obtain ⟨hok, h0, h1⟩ := there_parts e
  have := hw.le
  have := (termOk_parts hok).2.1
  omega
 ·simp
theorem list_of {w w' : World} {xs ys : List Int} {A : Option Addr} {n c base : Nat} (e : ys = xs) (ho : Own w' base (.slice A n c) xs) (hB : w.heap.size ≤ base) (hb : Below w.heap.size w w') : AnsList w ys (.returned (.slice A n c)) w' :=
 ⟨A, n, c, rfl, by rw [e]; exact Own.lower ho hB, hb⟩
theorem Trail.split {sg t : List Int} {a q : Nat} {ab pa : List Int} (h : Trail sg t a q ab pa) (hne : q ≠ a) : ∃ (k : Nat) (ab' pa' : List Int), ab = (q : Int) :: ab' ∧ pa = (k : Int) :: pa' ∧ q < a ∧ k < arN sg t q ∧ argP sg t k (q + 1) ≤ a ∧ a < argP sg t k (q + 1) + len1 sg t (argP sg t k (q + 1)) ∧ q < argP sg t k (q + 1) ∧ Trail sg t a (argP sg t k (q + 1)) ab' pa' := by
 cases h with
 | here => exact absurd rfl hne
 | @down _ k ab' pa' h1 h2 h3 h4 h5 h6 hw => exact ⟨k, ab', pa', rfl, rfl, h1, h2, h3, h4, h5, hw⟩
end pathSpec
end
section
open Go.Lib (hid)
namespace matchList
open Go.RowKit base ints sig term termOk endAt inside marks app sym sub segs segsHelp termFacts termMath posMath pathSpec matchMath matchSpec
set_option maxRecDepth 100000
def embN (sg p t : List Int) : Nat → List Int
 | 0 => []
 | k + 1 => embN sg p t k ++ (if instB sg p (subL sg t k) = true then [(k : Int)] else [])
theorem emb_len {sg p t : List Int} : ∀ k, (embN sg p t k).length ≤ k
 | 0 => by simp [embN]
 | k + 1 => by
  have := emb_len (sg := sg) (p := p) (t := t) k
  simp only [embN, List.length_append]
  split <;> simp <;> omega
def allB (sg : List Int) (ps : List (List Int)) : Bool := sigOkB sg && (decide (ps.length ≤ 12) && ps.all (termOkB sg))
theorem all_sig {sg : List Int} {ps : List (List Int)} (h : sigOkB sg = false) : allB sg ps = false := by unfold allB; rw [h]; rfl
theorem all_long {sg : List Int} {ps : List (List Int)} (h : 12 < ps.length) : allB sg ps = false := by unfold allB; rw [decide_eq_false (by omega)]; simp
theorem all_bad {sg : List Int} {ps : List (List Int)} {i : Nat} (hi : i < ps.length) (h : termOkB sg (ps.getD i []) = false) : allB sg ps = false := by
 unfold allB
 have : ps.all (termOkB sg) = false := by
  rw [List.all_eq_false]
  refine ⟨ps.getD i [], ?_, by rw [h]; simp⟩
  simp [List.getD, hi]
 rw [this]; simp
theorem all_good {sg : List Int} {ps : List (List Int)} (h1 : sigOkB sg = true) (h2 : ps.length ≤ 12) (h : ∀ i, i < ps.length → termOkB sg (ps.getD i []) = true) : allB sg ps = true := by
 unfold allB
 rw [h1, decide_eq_true h2]
 have : ps.all (termOkB sg) = true := by
  rw [List.all_eq_true]
  intro x hx
  obtain ⟨i, hi, rfl⟩ := List.getElem_of_mem hx
  have := h i hi
  simpa [List.getD, hi] using this
 rw [this]; rfl
theorem all_parts {sg : List Int} {ps : List (List Int)} (h : allB sg ps = true) : sigOkB sg = true ∧ ps.length ≤ 12 ∧ ∀ i, i < ps.length → termOkB sg (ps.getD i []) = true := by
 unfold allB at h
 simp only [Bool.and_eq_true, decide_eq_true_eq, List.all_eq_true] at h
 refine ⟨h.1, h.2.1, fun i hi => h.2.2 _ ?_⟩
 simp [List.getD, hi]
structure Fs (w wr : World) (A : Option Addr) (n c : Nat) (sg : List Int) (P : Option Addr) (pn : Nat) (ps : List (List Int)) : Prop where
 r : Row wr w.heap.size 32 #[.slice A n c]
 s : Seg wr w.heap.size A n sg
 s' : Segs wr w.heap.size P pn ps
 b : Below w.heap.size w wr
section
variable {w wr w' : World} {A : Option Addr} {n c : Nat} {sg : List Int} {P : Option Addr} {pn : Nat} {ps : List (List Int)}
theorem Fs.start (h : Seg w w.heap.size A n sg) (h' : Segs w w.heap.size P pn ps) : Fs w (w.alloc (.cells #[.slice A n c] 32)) A n c sg P pn ps :=
 have b : Below w.heap.size w (w.alloc (.cells #[.slice A n c] 32)) := (Below.refl _ _).alloc (Nat.le_refl _) _
 ⟨Row.new _ _ _, h.below b, h'.below b, b⟩
theorem Fs.next (f : Fs w wr A n c sg P pn ps) (hb : Below wr.heap.size wr w') : Fs w w' A n c sg P pn ps :=
 have b : Below w.heap.size wr w' := hb.mono (Nat.le_of_lt f.r.lt)
 ⟨f.r.next hb, f.s.below b, f.s'.below b, f.b.trans b⟩
theorem Fs.over (f : Fs w wr A n c sg P pn ps) (hb : Below (w.heap.size + 1) wr w') : Fs w w' A n c sg P pn ps :=
 have b : Below w.heap.size wr w' := hb.mono (Nat.le_succ _)
 ⟨f.r.below hb (Nat.lt_succ_self _), f.s.below b, f.s'.below b, f.b.trans b⟩
theorem Fs.alloc (f : Fs w wr A n c sg P pn ps) (o : Obj) : Fs w (wr.alloc o) A n c sg P pn ps := f.next ((Below.refl _ _).alloc (Nat.le_refl _) _)
theorem Fs.drew (f : Fs w wr A n c sg P pn ps) : Fs w wr.drew A n c sg P pn ps := f.over (Below.refl _ _).drew
theorem Fs.cell (f : Fs w wr A n c sg P pn ps) : wr.cell? ⟨w.heap.size, 0, none⟩ = some (.slice A n c) := f.r.cell 0
theorem Fs.s1 (f : Fs w wr A n c sg P pn ps) : Seg wr wr.heap.size A n sg := f.s.more (Nat.le_of_lt f.r.lt)
theorem Fs.size (f : Fs w wr A n c sg P pn ps) : w.heap.size < wr.heap.size := f.r.lt
end
set_option maxHeartbeats 1000000 in
theorem l4All (A P : Option Addr) (n c pn pc : Nat) (sg : List Int) (ps : List (List Int)) (w : World) (h : Seg w w.heap.size A n sg) (hp : Segs w w.heap.size P pn ps) (hn : n ≤ 1048576) (ht : tot ps ≤ 1048576) :
  Calls Try.prog 77 #[.agg #[.slice A n c], .slice P pn pc] w (Tells w (allB sg ps)) := by
 obtain ⟨W, hW⟩ : ∃ W, W = w.alloc (.cells #[.slice A n c] 32) := ⟨_, rfl⟩
 have f : Fs w W A n c sg P pn ps := by rw [hW]; exact Fs.start h hp
 have HW := hid hW
 have HL := hid hp.1
 have HE := hid (tot_each ht)
 have hpn : pn ≤ 1048576 := tot_len hp.1 ht
 have L := hid (specSigOk A n c sg W f.s1 hn)
 clear hW h hp ht
 cases hsig : sigOkB sg with
 | false =>
  have HS := hid hsig
  have HF := hid (all_sig (ps := ps) hsig)
  clear hsig
  go_enter Try.func77, Try.ntmps77
  go_wp2_with fail
  rw [← HW.out]
  refine L.out.mono ?_
  rintro e w1 ⟨he, bb⟩
  rw [HS.out] at he
  subst he
  have F := hid (show Tells w (allB sg ps) (.returned (.bool false)) w1 from ⟨by rw [HF.out], (f.next bb).b⟩)
  clear f L bb
  go_wp2
  go_ret
  exact F.out
 | true =>
  have HS := hid hsig
  clear hsig
  by_cases hlong : 12 < pn
  ·have HF := hid (all_long (sg := sg) (ps := ps) (by rw [HL.out]; exact hlong))
   have h12 : (12 : Int) < (pn : Int) := by omega
   go_enter Try.func77, Try.ntmps77
   go_wp2_with fail
   rw [← HW.out]
   refine L.out.mono ?_
   rintro e w1 ⟨he, bb⟩
   rw [HS.out] at he
   subst he
   have F := hid (show Tells w (allB sg ps) (.returned (.bool false)) w1 from ⟨by rw [HF.out], (f.next bb).b⟩)
   clear f L bb
   go_wp2
   go_ret
   exact F.out
  ·have h12 : ¬ (12 : Int) < (pn : Int) := by omega
   go_enter Try.func77, Try.ntmps77
   go_wp2_with fail
   rw [← HW.out]
   refine L.out.mono ?_
   rintro e w1 ⟨he, bb⟩
   rw [HS.out] at he
   subst he
   have HM0 := hid (f.next bb)
   clear f L bb
   go_wp2_with fail
   go_loopg [5] pn (fun g i wr => ∃ k : Nat, i = .int .i64 k ∧ k + g = pn ∧ (∀ j, j < k → termOkB sg (ps.getD j []) = true) ∧ Fs w wr A n c sg P pn ps)
   case atStart => exact ⟨0, rfl, by omega, fun j hj => absurd hj (Nat.not_lt_zero _), HM0.out⟩
   case round =>
    obtain ⟨k, rfl, hk, hall, f⟩ := hrel
    clear HM0
    have HK := hid hk
    have HA := hid hall
    clear hk hall
    by_cases hkp : k < pn
    ·obtain ⟨b, off, D, dn, dc, rfl, hbb, hc, hsg, hcap⟩ := f.s'.spot hkp
     have hdn : dn ≤ 1048576 := by have := HE.out k; rw [hsg.1] at this; exact this
     have hgk := hid (show gk - 1 < gk ∧ k + 1 + (gk - 1) = pn by have := HK.out; omega)
     obtain ⟨bk, hbk⟩ : ∃ b, termOkB sg (ps.getD k []) = b := ⟨_, rfl⟩
     have HB := hid hbk
     have sd : Seg wr.drew wr.drew.heap.size D dn (ps.getD k []) := (hsg.more (Nat.le_of_lt f.size)).drew
     obtain ⟨ys, hys⟩ : ∃ ys, ps.getD k [] = ys := ⟨_, rfl⟩
     rw [hys] at sd HB
     have HYS := hid hys
     have z0 := f.size
     replace f := f.drew
     have cA := f.cell
     have cy : wr.drew.cell? ⟨b, off + k, none⟩ = some (.slice D dn dc) := hc
     clear hsg hcap hc hbk hys
     go_wp2_with fail
     go_region_held3 (fun w' => w'.cell? ⟨w.heap.size, 0, none⟩ = some (.slice A n c) ∧ w'.cell? ⟨b, off + k, none⟩ = some (.slice D dn dc))
      (first | exact ⟨by assumption, by assumption⟩ | go_keep)
      (first
       | (go_at_call 68; refine (specTermOk A D n c dn dc sg ys _ f.s1 sd hn hdn).mono ?_; rintro e w2 ⟨he, bb⟩; rw [HB.out] at he; subst he; have f2 := f.next bb; have cA2 := f2.cell; have cy2 : w2.cell? ⟨b, off + k, none⟩ = some (.slice D dn dc) := (bb.cell (p := ⟨b, off + k, none⟩) (Nat.lt_trans hbb z0)).trans cy))
     clear cA cA2 cy cy2 f sd bb
     cases bk with
     | false =>
      have F := hid (show Tells w (allB sg ps) (.returned (.bool false)) w2 from ⟨by rw [all_bad (i := k) (by rw [HL.out]; exact hkp) (by rw [HYS.out]; exact HB.out)], f2.b⟩)
      clear f2
      go_wp2
      go_ret
      exact F.out
     | true =>
      have HM := hid f2
      clear f2
      go_wp2
      go_roundg (gk - 1)
      case measure => exact hgk.out.1
      case rel => exact ⟨k + 1, by simp, hgk.out.2, fun j hj => by
       by_cases e : j = k
       ·subst e; rw [HYS.out]; exact HB.out
       ·exact HA.out j (by omega), HM.out⟩
    ·have F := hid (show Tells w (allB sg ps) (.returned (.bool true)) wr from ⟨by rw [all_good HS.out (by rw [HL.out]; omega) (fun i hi => HA.out i (by rw [HL.out] at hi; omega))], f.b⟩)
     clear f
     go_wp2
     go_ret
     exact F.out
def maN (sg : List Int) (ps : List (List Int)) (t : List Int) : Nat → List Int
 | 0 => []
 | k + 1 => maN sg ps t k ++ (if instB sg (ps.getD k []) t = true then [(k : Int)] else [])
theorem ma_len {sg : List Int} {ps : List (List Int)} {t : List Int} : ∀ k, (maN sg ps t k).length ≤ k
 | 0 => by simp [maN]
 | k + 1 => by
  have := ma_len (sg := sg) (ps := ps) (t := t) k
  simp only [maN, List.length_append]
  split <;> simp <;> omega
def maI (sg : List Int) (ps : List (List Int)) (t : List Int) : List Int := if (allB sg ps && termOkB sg t) = true then maN sg ps t ps.length else []
theorem ma_no {sg : List Int} {ps : List (List Int)} {t : List Int} (h : allB sg ps = false ∨ termOkB sg t = false) : maI sg ps t = [] := by
 unfold maI
 rw [if_neg]
 rcases h with h | h <;> rw [h] <;> simp
theorem ma_yes {sg : List Int} {ps : List (List Int)} {t : List Int} (h1 : allB sg ps = true) (h2 : termOkB sg t = true) : maI sg ps t = maN sg ps t ps.length := by unfold maI; rw [if_pos (by rw [h1, h2]; rfl)]
def HeadMa (w : World) (A : Option Addr) (n c : Nat) (sg : List Int) (P : Option Addr) (pn : Nat) (ps : List (List Int)) (Q : Option Addr) (m : Nat) (t : List Int) (g : Nat) (out k : Value) (wr : World) : Prop :=
 ∃ (i : Nat) (O : Option Addr) (on oc : Nat), k = .int .i64 i ∧ i + g = pn ∧ out = .slice O on oc ∧ Own wr (w.heap.size + 1) (.slice O on oc) (maN sg ps t i) ∧ Fs w wr A n c sg P pn ps ∧ Seg wr w.heap.size Q m t
set_option maxHeartbeats 1000000 in
theorem specMatchedAll (A P Q : Option Addr) (n c pn pc m mc : Nat) (sg : List Int) (ps : List (List Int)) (t : List Int) (w : World) (h : Seg w w.heap.size A n sg) (hp : Segs w w.heap.size P pn ps) (ht : Seg w w.heap.size Q m t) (hn : n ≤ 1048576) (htot : tot ps ≤ 1048576) (hm : m ≤ 1048576) (hmc : m ≤ mc) (hmc2 : mc ≤ 9223372036854775807) :
  Calls Try.prog 43 #[.agg #[.slice A n c], .slice P pn pc, .slice Q m mc] w (AnsList w (maI sg ps t)) := by
 obtain ⟨W, hW⟩ : ∃ W, W = (w.alloc (.cells #[.slice A n c] 32)).alloc (.cells #[] 2) := ⟨_, rfl⟩
 have f : Fs w W A n c sg P pn ps := by rw [hW]; exact (Fs.start h hp).alloc _
 have st : Seg W w.heap.size Q m t := ht.below f.b
 have ow : Own W (w.heap.size + 1) (.slice (some ⟨w.heap.size + 1, 0, none⟩) 0 0) [] := by
  rw [hW]
  have := own_empty (w.alloc (.cells #[.slice A n c] 32)) (w.heap.size + 1) (by simp)
  simpa using this
 have HW := hid hW
 have HL := hid hp.1
 have HE := hid (tot_each htot)
 have cA := f.cell
 have cA0 : ((w.alloc (.cells #[.slice A n c] 32)).alloc (.cells #[] 2)).cell? ⟨w.heap.size, 0, none⟩ = some (.slice A n c) := by rw [← hW]; exact cA
 have LP := hid (l4All A P n c pn pc sg ps W f.s1 (f.s'.more (Nat.le_of_lt f.size)) hn htot)
 clear hW h hp ht htot
 cases hall : allB sg ps with
 | false =>
  have HS := hid hall
  have HF := hid (ma_no (t := t) (.inl hall))
  clear hall
  go_enter Try.func43, Try.ntmps43
  go_wp2_with fail
  rw [← HW.out]
  refine LP.out.mono ?_
  rintro e w1 ⟨he, bb⟩
  rw [HS.out] at he
  subst he
  have F := hid (list_of (w := w) HF.out (Own.next ow bb) (Nat.le_succ _) (f.next bb).b)
  clear f st ow bb LP cA cA0
  go_wp2
  go_ret
  exact F.out
 | true =>
  have HSP := hid hall
  have hp12 : pn ≤ 12 := by have h1 := (all_parts hall).2.1; rw [HL.out] at h1; exact h1
  cases hokt : termOkB sg t with
  | false =>
   have HS := hid hokt
   have HF := hid (ma_no (ps := ps) (.inr hokt))
   clear hall hokt
   go_enter Try.func43, Try.ntmps43
   go_wp2_with fail
   rw [← HW.out]
   refine LP.out.mono ?_
   rintro e w1 ⟨he, bb⟩
   rw [HSP.out] at he
   subst he
   have bz : Below w.heap.size W w1 := bb.mono (Nat.le_of_lt f.size)
   replace f := f.next bb
   replace ow := Own.next ow bb
   replace st := st.below bz
   clear bb bz LP cA cA0
   have cA := f.cell
   go_wp2_with fail
   refine (specTermOk A Q n c m mc sg t _ f.s1 (st.more (Nat.le_of_lt f.size)) hn hm).mono ?_
   rintro e w2 ⟨he, bb⟩
   rw [HS.out] at he
   subst he
   have F := hid (list_of (w := w) HF.out (Own.next ow bb) (Nat.le_succ _) (f.next bb).b)
   clear f st ow bb cA
   go_wp2
   go_ret
   exact F.out
  | true =>
   have HST := hid hokt
   have HF := hid (show maI sg ps t = maN sg ps t pn by rw [ma_yes hall hokt, HL.out])
   clear hall hokt
   go_enter Try.func43, Try.ntmps43
   go_wp2_with fail
   rw [← HW.out]
   refine LP.out.mono ?_
   rintro e w1 ⟨he, bb⟩
   rw [HSP.out] at he
   subst he
   have bz : Below w.heap.size W w1 := bb.mono (Nat.le_of_lt f.size)
   replace f := f.next bb
   replace ow := Own.next ow bb
   replace st := st.below bz
   clear bb bz LP cA cA0
   have cA := f.cell
   go_wp2_with fail
   refine (specTermOk A Q n c m mc sg t _ f.s1 (st.more (Nat.le_of_lt f.size)) hn hm).mono ?_
   rintro e w2 ⟨he, bb⟩
   rw [HST.out] at he
   subst he
   have bz : Below w.heap.size w1 w2 := bb.mono (Nat.le_of_lt f.size)
   have S0 : HeadMa w A n c sg P pn ps Q m t pn (.slice (some ⟨w.heap.size + 1, 0, none⟩) 0 0) (.int .i64 0) w2 := ⟨0, _, 0, 0, rfl, by omega, rfl, Own.next ow bb, f.next bb, st.below bz⟩
   have HS0 := hid S0
   clear S0 f st ow bb bz cA
   go_wp2_with fail
   go_loopg [7, 8] pn (fun g out k wr => HeadMa w A n c sg P pn ps Q m t g out k wr)
   case atStart => exact HS0.out
   case round =>
    obtain ⟨i, O, on, oc, rfl, hi, rfl, ho, f, st⟩ := hrel
    clear HS0
    have HI := hid hi
    clear hi
    have hon : on ≤ 12 := by have h1 := Own.len ho; have h2 := ma_len (sg := sg) (ps := ps) (t := t) i; have := HI.out; omega
    by_cases hip : i < pn
    ·obtain ⟨b, off, D, dn, dc, rfl, hbb, hc, hsg, hcap⟩ := f.s'.spot hip
     have hdn : dn ≤ 1048576 := by have := HE.out i; rw [hsg.1] at this; exact this
     have hgk := hid (show gk - 1 < gk ∧ i + 1 + (gk - 1) = pn by have := HI.out; omega)
     have sd : Seg wr.drew wr.drew.heap.size D dn (ps.getD i []) := (hsg.more (Nat.le_of_lt f.size)).drew
     obtain ⟨ys, hys⟩ : ∃ ys, ps.getD i [] = ys := ⟨_, rfl⟩
     rw [hys] at sd
     obtain ⟨bi, hbi⟩ : ∃ b, instB sg ys t = b := ⟨_, rfl⟩
     have HB := hid hbi
     have HE2 := hid (show maN sg ps t (i + 1) = maN sg ps t i ++ (if bi = true then [(i : Int)] else []) by simp only [maN]; rw [hys, hbi])
     have z0 := f.size
     have st0 : Seg wr.drew wr.drew.heap.size Q m t := (st.more (Nat.le_of_lt f.size)).drew
     replace f := f.drew
     replace st := st.drew
     replace ho := Own.drew ho
     have cA := f.cell
     have cy : wr.drew.cell? ⟨b, off + i, none⟩ = some (.slice D dn dc) := hc
     clear hsg hcap hc hbi hys
     go_wp2_with fail
     go_region_held3 (fun w' => w'.cell? ⟨w.heap.size, 0, none⟩ = some (.slice A n c) ∧ w'.cell? ⟨b, off + i, none⟩ = some (.slice D dn dc))
      (first | exact ⟨by assumption, by assumption⟩ | go_keep)
      (first
       | (go_at_call 40; refine (specInstanceIn A D Q n c dn dc m mc sg ys t _ f.s1 sd st0 hn hdn hm hmc hmc2).mono ?_; rintro e w3 ⟨he, bb⟩; rw [HB.out] at he; subst he; have f2 := f.next bb; have cA2 := f2.cell; have cy2 : w3.cell? ⟨b, off + i, none⟩ = some (.slice D dn dc) := (bb.cell (p := ⟨b, off + i, none⟩) (Nat.lt_trans hbb z0)).trans cy))
     replace ho := Own.next ho bb
     replace st := st.below (bb.mono (Nat.le_of_lt f.size))
     clear cA cA2 cy cy2 f sd st0 bb
     have z1 : w.heap.size + 1 ≤ w3.heap.size := f2.size
     cases bi with
     | false =>
      have S : HeadMa w A n c sg (some ⟨b, off, none⟩) pn ps Q m t (gk - 1) (.slice O on oc) (.int .i64 ((i : Int) + 1)) w3 := ⟨i + 1, O, on, oc, by simp, hgk.out.2, rfl, by rw [HE2.out]; simpa using ho, f2, st⟩
      have HSS := hid S
      clear S ho f2 st
      go_wp2
      go_roundg (gk - 1)
      case measure => exact hgk.out.1
      case rel => exact HSS.out
     | true =>
      go_wp2_with (at_builtin; refine app1 rfl _ _ rfl (w.heap.size + 1) O on oc _ rfl (Own.alloc ho _) w3.heap.size 1 (i : Int) rfl ((Row.new _ _ _).cell 0) (by omega) (by simp; omega) ?_; intro O' oc' w7 ho7 b7)
      have S : HeadMa w A n c sg (some ⟨b, off, none⟩) pn ps Q m t (gk - 1) (.slice O' (on + 1) oc') (.int .i64 ((i : Int) + 1)) w7 := ⟨i + 1, O', on + 1, oc', by simp, hgk.out.2, rfl, by rw [HE2.out]; exact ho7, (f2.alloc _).over b7, (st.alloc (Nat.le_of_lt f2.size) _).below (b7.mono (Nat.le_succ _))⟩
      have HSS := hid S
      clear S ho ho7 f2 st b7
      go_wp2
      go_roundg (gk - 1)
      case measure => exact hgk.out.1
      case rel => exact HSS.out
    ·have hip2 : i = pn := by have := HI.out; omega
     have F := hid (list_of (w := w) (show maI sg ps t = maN sg ps t i by rw [HF.out, hip2]) ho (Nat.le_succ _) f.b)
     clear ho f st hip2
     go_wp2
     go_ret
     exact F.out
end matchList
end
section
namespace rename
open Go.RowKit base ints sig term termOk marks app sym segs termFacts varsMath varsOf renMath
set_option maxRecDepth 100000
end rename
end
section
namespace renImpl
open Go.RowKit base ints sig cursor term termOk marks app appAt sym segs termFacts varsMath fillMath Go.Proofs.Ytghgnondlgdjdaa.look renMath rename
set_option maxRecDepth 100000
structure Side (p : Nat) (r : Option Nat) (a b : World) : Prop where
 os : b.os = a.os
 tape : b.tape = a.tape
 output : b.output = a.output
 size : a.heap.size ≤ b.heap.size
 block : ∀ k, k < a.heap.size → k ≠ p → some k ≠ r → b.heap[k]? = a.heap[k]?
section
variable {p : Nat} {r : Option Nat} {a b c : World}
end
theorem Side.on {B : Nat} {r r' : Option Nat} {a b c : World} (h : Side B r a b) (hr : r' = r ∨ ∃ k, r' = some k ∧ a.heap.size ≤ k) (k : Side B r' b c) : Side B r a c :=
 ⟨k.os.trans h.os, k.tape.trans h.tape, k.output.trans h.output, Nat.le_trans h.size k.size, fun i hi hp hne => (k.block i (Nat.lt_of_lt_of_le hi h.size) hp (fun e => by
  rcases hr with e2 | ⟨q, e2, hq⟩
  ·exact hne (by rw [e, e2])
  ·rw [e2] at e; injection e with e; omega)).trans (h.block i hi hp hne)⟩
end renImpl
end
section
namespace variant
open Go.RowKit base ints sig same term termOk marks sym termFacts varsOf renMath rename renImpl
set_option maxRecDepth 100000
end variant
end
section
namespace matchMost
open Go.RowKit base ints sig term termOk endAt inside marks app sym segs segsHelp termFacts renMath varsOf variant pathSpec matchMath matchSpec matchList
set_option maxRecDepth 100000
end matchMost
end
section
open Go.Lib (hid)
namespace matchImpl
open Go.RowKit base ints sig same term termOk endAt inside marks app sym sub segs segsHelp kinds termFacts termMath posMath plainMath plain plainOf gives cursor fillMath matchMath matchSpec matchList matchMost whole takeMath take extended
set_option maxRecDepth 100000
theorem plain_s0 : plainL (givesL s0) 24 = [] := by
 have h : ∀ i, 0 ≤ i → givesL s0 i = vt i := fun i _ => gives_var (by rw [s0_get]; rfl)
 rw [plain_24 (m := 0) (by omega) h]
 rfl
theorem res_get (R : Option (List (List Int))) : plainL (givesL (R.getD s0)) 24 = resL R := by
 cases R with
 | none => exact plain_s0
 | some s => rfl
set_option maxHeartbeats 1000000 in
theorem implMatched (A P Q : Option Addr) (n c pn pc m mc : Nat) (sg p t : List Int) (w : World) (h : Seg w w.heap.size A n sg) (hp : Seg w w.heap.size P pn p) (ht : Seg w w.heap.size Q m t) (hn : n ≤ 1048576) (hpn : pn ≤ 1048576) (hm : m ≤ 1048576) (hmc : m ≤ mc) (hmc2 : mc ≤ 9223372036854775807) :
  Calls Try.prog 37 #[.agg #[.slice A n c], .slice P pn pc, .slice Q m mc] w (AnsM w (resL (matchO sg p t)) (instB sg p t)) := by
 obtain ⟨W, hW⟩ : ∃ W, W = (w.alloc (.cells #[.slice A n c] 32)).alloc (.cells #[.slice none 0 0] 30) := ⟨_, rfl⟩
 have M : Mr w W A n c sg P pn p Q m t := by rw [hW]; exact Mr.start h hp ht
 have HW := hid hW
 have L := hid (implTermOk A P n c pn pc sg p W M.ss M.sp hn hpn)
 have c0 : W.cell? ⟨w.heap.size, 0, none⟩ = some (.slice A n c) := M.r0.cell 0
 have c00 : ((w.alloc (.cells #[.slice A n c] 32)).alloc (.cells #[.slice none 0 0] 30)).cell? ⟨w.heap.size, 0, none⟩ = some (.slice A n c) := by rw [← hW]; exact c0
 clear hW h hp ht
 cases hokp : termOkB sg p with
 | false =>
  have HS := hid hokp
  clear hokp
  go_enter Try.func37, Try.ntmps37
  go_wp2_with fail
  rw [← HW.out]
  refine L.out.mono ?_
  rintro e w1 ⟨he, bb⟩
  rw [HS.out] at he
  subst he
  replace M := M.next bb
  have cR : w1.cell? ⟨w.heap.size + 1, 0, none⟩ = some (.slice none 0 0) := M.r1.cell 0
  have fR : w1.frozen? ⟨w.heap.size + 1, 0, none⟩ = false := M.r1.free 0
  have F1 := hid (ansM_off (w := w) (t := t) (.inl HS.out) M.b)
  have F2 := hid (ansM_off (w := w) (t := t) (.inl HS.out) ((M.b).setCell (p := ⟨w.heap.size + 1, 0, none⟩) (show w.heap.size ≤ w.heap.size + 1 by omega) (.slice none 0 0)))
  clear M L bb c0 c00
  go_wp2
  first
   | exact bodyPost_ret (v := .tuple #[.agg #[.slice none 0 0], .bool false]) (by simp [results, Try.results37, go_sem, cR]) rfl F1.out
   | exact bodyPost_ret (v := .tuple #[.agg #[.slice none 0 0], .bool false]) (by simp [results, Try.results37, go_sem, cR]) rfl F2.out
 | true =>
  have HSP := hid hokp
  have hp60 : pn ≤ 60 := by have h1 := (termOk_parts hokp).2.1; rw [M.sp.1] at h1; exact h1
  clear hokp
  cases hokt : termOkB sg t with
  | false =>
   have HS := hid hokt
   clear hokt
   go_enter Try.func37, Try.ntmps37
   go_wp2_with fail
   rw [← HW.out]
   refine L.out.mono ?_
   rintro e w1 ⟨he, bb⟩
   rw [HSP.out] at he
   subst he
   replace M := M.next bb
   clear bb L c0 c00
   have c0 : w1.cell? ⟨w.heap.size, 0, none⟩ = some (.slice A n c) := M.r0.cell 0
   go_wp2_with fail
   refine (implTermOk A Q n c m mc sg t _ M.ss M.st hn hm).mono ?_
   rintro e w2 ⟨he, bb⟩
   rw [HS.out] at he
   subst he
   replace M := M.next bb
   have cR : w2.cell? ⟨w.heap.size + 1, 0, none⟩ = some (.slice none 0 0) := M.r1.cell 0
   have fR : w2.frozen? ⟨w.heap.size + 1, 0, none⟩ = false := M.r1.free 0
   have F1 := hid (ansM_off (w := w) (p := p) (.inr HS.out) M.b)
   have F2 := hid (ansM_off (w := w) (p := p) (.inr HS.out) ((M.b).setCell (p := ⟨w.heap.size + 1, 0, none⟩) (show w.heap.size ≤ w.heap.size + 1 by omega) (.slice none 0 0)))
   clear M bb c0
   go_wp2
   first
    | exact bodyPost_ret (v := .tuple #[.agg #[.slice none 0 0], .bool false]) (by simp [results, Try.results37, go_sem, cR]) rfl F1.out
    | exact bodyPost_ret (v := .tuple #[.agg #[.slice none 0 0], .bool false]) (by simp [results, Try.results37, go_sem, cR]) rfl F2.out
  | true =>
   have HST := hid hokt
   have hm60 : m ≤ 60 := by have h1 := (termOk_parts hokt).2.1; rw [M.st.1] at h1; exact h1
   have HMO := hid (match_yes HSP.out hokt)
   have HIO := hid (show instB sg p t = (mst sg t p 0 s0).isSome by unfold instB; rw [HMO.out])
   clear hokt
   go_enter Try.func37, Try.ntmps37
   go_wp2_with fail
   rw [← HW.out]
   refine L.out.mono ?_
   rintro e w1 ⟨he, bb⟩
   rw [HSP.out] at he
   subst he
   replace M := M.next bb
   clear bb L c0 c00
   have c0 : w1.cell? ⟨w.heap.size, 0, none⟩ = some (.slice A n c) := M.r0.cell 0
   go_wp2_with fail
   refine (implTermOk A Q n c m mc sg t _ M.ss M.st hn hm).mono ?_
   rintro e w2 ⟨he, bb⟩
   rw [HST.out] at he
   subst he
   replace M := M.next bb
   clear bb c0
   have c0 : w2.cell? ⟨w.heap.size, 0, none⟩ = some (.slice A n c) := M.r0.cell 0
   have LX : Calls Try.prog 75 #[.agg z24, .slice P pn pc, .agg #[.slice A n c, .slice Q m mc, .int .i64 0]] w2 (AnsExt w2 (mst sg t p 0 s0)) :=
    extended A P Q n c pn pc m mc sg p t 0 z24 s0 w2 M.ss M.sp M.st hn hp60 hm60 hmc hmc2 (by rw [← M.st.1]; exact (term_len HST.out).1) HSP.out HST.out (TabR.new _ _) (fun j => by rw [s0_get]; simp)
   obtain ⟨R, hR⟩ : ∃ R, mst sg t p 0 s0 = R := ⟨_, rfl⟩
   rw [hR] at LX
   have HR := hid hR
   have HLX := hid LX
   clear LX hR
   have zw := M.r1.lt
   go_wp2_with (first
    | (refine rowBuild rfl 84 rfl z24 built_b ?_)
    | (go_at_call 75; refine HLX.out.mono ?_; rintro e w3 ⟨cs, rfl, tab, hsz, bb⟩; have one := hid tab.one; have h24 := hid tab.1; have bb3 := bb)
    | (refine rowAlloc rfl 84 rfl z24 zero_b ?_)
    | (refine rowStore rfl 84 _ _ rfl w3.heap.size cs z24 84 rfl rfl (heap_alloc_new w3 _) (by rw [h24.out]; exact size_b) (by rw [h24.out]; rfl) one.out ?_; rw [World.setRow_alloc_new])
    | (refine wpList_load_row rfl 84 _ rfl w3.heap.size rfl 84 cs (0, 0) _ (heap_alloc_new w3 _) Try.underlying84 rfl (by rw [h24.out]; exact size_b) ?_))
   have M3 := M.next bb
   have B4 : Below w3.heap.size w3 (w3.alloc (.cells cs 84)) := (Below.refl _ _).alloc (Nat.le_refl _) _
   have tab4 : TabR (w3.alloc (.cells cs 84)) (w3.alloc (.cells cs 84)).heap.size cs (R.getD s0) := (tab.below (B4.mono bb.size)).more (by have := bb.size; simp; omega)
   have LP := hid (plainB cs (R.getD s0) _ tab4 hsz)
   have M4 := M3.next B4
   have HI2 := hid (show instB sg p t = R.isSome by rw [HIO.out, HR.out])
   have HM2 := hid (show resL (matchO sg p t) = resL R by rw [HMO.out, HR.out])
   rw [res_get] at LP
   clear M M3 tab4 tab hsz bb bb3 one h24 HLX B4 c0
   refine LP.out.mono ?_
   rintro e w5 ⟨D, dn, dc, rfl, od, bb⟩
   have M5 := M4.next bb
   have z4 := M4.b.size
   have z5 := M4.r1.lt
   have cR : w5.cell? ⟨w.heap.size + 1, 0, none⟩ = some (.slice none 0 0) := M5.r1.cell 0
   have fR : w5.frozen? ⟨w.heap.size + 1, 0, none⟩ = false := M5.r1.free 0
   obtain ⟨b, hb⟩ : ∃ b, R.isSome = b := ⟨_, rfl⟩
   rw [hb]
   have F : AnsM w (resL (matchO sg p t)) (instB sg p t) (.returned (.tuple #[.agg #[.slice D dn dc], .bool b])) (w5.setCell ⟨w.heap.size + 1, 0, none⟩ (.slice D dn dc)) := by
    rw [HI2.out, HM2.out, hb]
    have hbt : Btw (w.heap.size + 1) (w.heap.size + 2) w5 (w5.setCell ⟨w.heap.size + 1, 0, none⟩ (.slice D dn dc)) := Btw.of_grown (grown_put (World.grownBy.refl _ _) _ _) (fun k hk => by injection hk; omega)
    have o2 := od.btw hbt (.inr (by simp at z5 ⊢; omega))
    exact ⟨D, dn, dc, rfl, o2.wider (by simp at z4 ⊢; omega) (by simp), (M5.b).setCell (p := ⟨w.heap.size + 1, 0, none⟩) (show w.heap.size ≤ w.heap.size + 1 by omega) _⟩
   have HF := hid F
   clear F od bb M4 M5 HIO hb LP
   go_wp2
   exact bodyPost_ret (v := .tuple #[.agg #[.slice D dn dc], .bool b]) (by simp [results, Try.results37, go_sem, cR]) rfl HF.out
set_option maxHeartbeats 1000000 in
theorem implInstanceIn (A P Q : Option Addr) (n c pn pc m mc : Nat) (sg p t : List Int) (w : World) (h : Seg w w.heap.size A n sg) (hp : Seg w w.heap.size P pn p) (ht : Seg w w.heap.size Q m t) (hn : n ≤ 1048576) (hpn : pn ≤ 1048576) (hm : m ≤ 1048576) (hmc : m ≤ mc) (hmc2 : mc ≤ 9223372036854775807) :
  Calls Try.prog 41 #[.agg #[.slice A n c], .slice P pn pc, .slice Q m mc] w (Tells w (instB sg p t)) := by
 obtain ⟨W, hW⟩ : ∃ W, W = w.alloc (.cells #[.slice A n c] 32) := ⟨_, rfl⟩
 have bW : Below w.heap.size w W := by rw [hW]; exact (Below.refl _ _).alloc (Nat.le_refl _) _
 have HW := hid hW
 have L := hid (implMatched A P Q n c pn pc m mc sg p t W (h.next bW) (hp.next bW) (ht.next bW) hn hpn hm hmc hmc2)
 clear hW h hp ht
 generalize instB sg p t = b at *
 go_enter Try.func41, Try.ntmps41
 go_wp2_with fail
 rw [← HW.out]
 refine L.out.mono ?_
 rintro e w1 ⟨D, dn, dc, rfl, od, bb⟩
 have F := hid (fun o => (show Tells w b (.returned (.bool b)) (w1.alloc o) from ⟨rfl, (next_trans bW bb).alloc (next_trans bW bb).size _⟩))
 clear od bb L bW
 go_wp2
 go_ret
 exact F.out _
def HeadTo (w : World) (A : Option Addr) (n c : Nat) (sg : List Int) (P : Option Addr) (pn : Nat) (ps : List (List Int)) (i : Value) (wr : World) : Prop :=
 ∃ k : Nat, i = .int .i64 k ∧ k ≤ pn ∧ (∀ j, j < k → termOkB sg (ps.getD j []) = true) ∧ Fs w wr A n c sg P pn ps
set_option maxHeartbeats 1000000 in
theorem implTermsOk (A P : Option Addr) (n c pn pc : Nat) (sg : List Int) (ps : List (List Int)) (w : World) (h : Seg w w.heap.size A n sg) (hp : Segs w w.heap.size P pn ps) (hn : n ≤ 1048576) (ht : tot ps ≤ 1048576) :
  Calls Try.prog 78 #[.agg #[.slice A n c], .slice P pn pc] w (Tells w (termsB sg ps)) := by
 obtain ⟨W, hW⟩ : ∃ W, W = w.alloc (.cells #[.slice A n c] 32) := ⟨_, rfl⟩
 have f : Fs w W A n c sg P pn ps := by rw [hW]; exact Fs.start h hp
 have HW := hid hW
 have HL := hid hp.1
 have HE := hid (tot_each ht)
 have hpn : pn ≤ 1048576 := tot_len hp.1 ht
 clear hW h hp ht
 by_cases hlong : 12 < pn
 ·have F := hid (show Tells w (termsB sg ps) (.returned (.bool false)) W from ⟨by rw [terms_long (by rw [HL.out]; exact hlong)], f.b⟩)
  clear f
  go_enter Try.func78, Try.ntmps78
  go_wp2_with fail
  rw [← HW.out]
  go_ret
  exact F.out
 ·have S0 : HeadTo w A n c sg P pn ps (.int .i64 0) W := ⟨0, rfl, Nat.zero_le _, fun j hj => absurd hj (Nat.not_lt_zero _), f⟩
  have HS0 := hid S0
  clear S0 f
  go_enter Try.func78, Try.ntmps78
  go_wp2_with fail
  rw [← HW.out]
  go_loopw [12] (fun i wr => HeadTo w A n c sg P pn ps i wr) (fun i _ => pn - (intOf i).toNat)
  case atStart => exact HS0.out
  case round =>
   obtain ⟨k, rfl, hk, hlow, f⟩ := hrel
   have HLOW := hid hlow
   clear hlow HS0
   by_cases hlt : k < pn
   ·obtain ⟨b, off, D, dn, dc, rfl, hbb, hc, hsg, hcap⟩ := f.s'.spot hlt
    have hdn : dn ≤ 1048576 := by have := HE.out k; rw [hsg.1] at this; exact this
    have cA := f.cell
    have LT := hid (implTermOk A D n c dn dc sg (ps.getD k []) wr f.s1 (hsg.more (Nat.le_of_lt f.size)) hn hdn)
    clear hsg hcap
    cases hok : termOkB sg (ps.getD k []) with
    | false =>
     have HS := hid hok
     clear hok
     go_wp2_with fail
     refine LT.out.mono ?_
     rintro e w1 ⟨he, bb⟩
     rw [HS.out] at he
     subst he
     have F := hid (show Tells w (termsB sg ps) (.returned (.bool false)) w1 from ⟨by rw [terms_bad (by rw [HL.out]; exact hlt) HS.out], (f.next bb).b⟩)
     clear f bb cA LT hc
     go_wp2
     go_ret
     exact F.out
    | true =>
     have HS := hid hok
     clear hok
     go_wp2_with fail
     refine LT.out.mono ?_
     rintro e w1 ⟨he, bb⟩
     rw [HS.out] at he
     subst he
     have S : HeadTo w A n c sg (some ⟨b, off, none⟩) pn ps (.int .i64 ((k : Int) + 1)) w1 := ⟨k + 1, by simp, hlt, fun j hj => by
      by_cases e : j = k
      ·rw [e]; exact HS.out
      ·exact HLOW.out j (by omega), f.next bb⟩
     have HSS := hid S
     clear S f bb cA LT hc
     go_wp2
     go_roundw
     case rel => exact HSS.out
     case measure => simp [intOf]; omega
   ·have F := hid (show Tells w (termsB sg ps) (.returned (.bool true)) wr from ⟨by rw [terms_good (by rw [HL.out]; omega) (fun i hi => HLOW.out i (by rw [HL.out] at hi; omega))], f.b⟩)
    clear f
    go_wp2
    go_ret
    exact F.out
end matchImpl
end
section
open Go.Lib (hid)
namespace matchImplB
open Go.RowKit base ints sig same term termOk endAt inside marks app sym sub segs segsHelp kinds termFacts termMath posMath plainMath plain plainOf gives cursor fillMath matchMath matchSpec matchList matchMost whole takeMath take extended pathSpec matchImpl
set_option maxRecDepth 100000
theorem all_terms {sg : List Int} {ps : List (List Int)} (h : sigOkB sg = true) : allB sg ps = termsB sg ps := by unfold allB termsB; rw [h]; rfl
set_option maxHeartbeats 1000000 in
theorem implMatchedAll (A P Q : Option Addr) (n c pn pc m mc : Nat) (sg : List Int) (ps : List (List Int)) (t : List Int) (w : World) (h : Seg w w.heap.size A n sg) (hp : Segs w w.heap.size P pn ps) (ht : Seg w w.heap.size Q m t) (hn : n ≤ 1048576) (htot : tot ps ≤ 1048576) (hm : m ≤ 1048576) (hmc : m ≤ mc) (hmc2 : mc ≤ 9223372036854775807) :
  Calls Try.prog 45 #[.agg #[.slice A n c], .slice P pn pc, .slice Q m mc] w (AnsList w (maI sg ps t)) := by
 obtain ⟨W, hW⟩ : ∃ W, W = w.alloc (.cells #[.slice A n c] 32) := ⟨_, rfl⟩
 have f : Fs w W A n c sg P pn ps := by rw [hW]; exact Fs.start h hp
 have st : Seg W w.heap.size Q m t := ht.below f.b
 have HW := hid hW
 have HL := hid hp.1
 have HE := hid (tot_each htot)
 have HTOT := hid htot
 have cA := f.cell
 have cA0 : (w.alloc (.cells #[.slice A n c] 32)).cell? ⟨w.heap.size, 0, none⟩ = some (.slice A n c) := by rw [← hW]; exact cA
 have LP := hid (implTermOk A Q n c m mc sg t W f.s1 (st.more (Nat.le_of_lt f.size)) hn hm)
 clear hW h hp ht htot
 cases hokt : termOkB sg t with
 | false =>
  have HS := hid hokt
  have HF := hid (ma_no (ps := ps) (.inr hokt))
  clear hokt
  go_enter Try.func45, Try.ntmps45
  go_wp2_with fail
  rw [← HW.out]
  refine LP.out.mono ?_
  rintro e w1 ⟨he, bb⟩
  rw [HS.out] at he
  subst he
  have F := hid (list_of (w := w) HF.out (Own.nil w1 w.heap.size) (Nat.le_refl _) (f.next bb).b)
  clear f st bb LP cA cA0
  go_wp2
  go_ret
  exact F.out
 | true =>
  have HST := hid hokt
  have HAT := hid (all_terms (ps := ps) (termOk_parts hokt).1)
  cases hall : termsB sg ps with
  | false =>
   have HS := hid hall
   have HF := hid (ma_no (t := t) (.inl (HAT.out.trans hall)))
   clear hall hokt
   go_enter Try.func45, Try.ntmps45
   go_wp2_with fail
   rw [← HW.out]
   refine LP.out.mono ?_
   rintro e w1 ⟨he, bb⟩
   rw [HST.out] at he
   subst he
   have bz : Below w.heap.size W w1 := bb.mono (Nat.le_of_lt f.size)
   replace f := f.next bb
   replace st := st.below bz
   clear bb bz LP cA cA0
   have cA := f.cell
   go_wp2_with fail
   refine (implTermsOk A P n c pn pc sg ps _ f.s1 (f.s'.more (Nat.le_of_lt f.size)) hn HTOT.out).mono ?_
   rintro e w2 ⟨he, bb⟩
   rw [HS.out] at he
   subst he
   have F := hid (list_of (w := w) HF.out (Own.nil w2 w.heap.size) (Nat.le_refl _) (f.next bb).b)
   clear f st bb cA
   go_wp2
   go_ret
   exact F.out
  | true =>
   have HS := hid hall
   have hp12 : pn ≤ 12 := by have h1 := (terms_parts hall).1; rw [HL.out] at h1; exact h1
   have HF := hid (show maI sg ps t = maN sg ps t pn by rw [ma_yes (HAT.out.trans hall) hokt, HL.out])
   clear hall hokt
   go_enter Try.func45, Try.ntmps45
   go_wp2_with fail
   rw [← HW.out]
   refine LP.out.mono ?_
   rintro e w1 ⟨he, bb⟩
   rw [HST.out] at he
   subst he
   have bz : Below w.heap.size W w1 := bb.mono (Nat.le_of_lt f.size)
   replace f := f.next bb
   replace st := st.below bz
   clear bb bz LP cA cA0
   have cA := f.cell
   go_wp2_with fail
   refine (implTermsOk A P n c pn pc sg ps _ f.s1 (f.s'.more (Nat.le_of_lt f.size)) hn HTOT.out).mono ?_
   rintro e w2 ⟨he, bb⟩
   rw [HS.out] at he
   subst he
   have bz : Below w.heap.size w1 w2 := bb.mono (Nat.le_of_lt f.size)
   have S0 : HeadMa w A n c sg P pn ps Q m t pn (.slice none 0 0) (.int .i64 0) w2 := ⟨0, none, 0, 0, rfl, by omega, rfl, Own.nil _ _, f.next bb, st.below bz⟩
   have HS0 := hid S0
   clear S0 f st bb bz cA
   go_wp2_with fail
   go_loopg [7, 22] pn (fun g out k wr => HeadMa w A n c sg P pn ps Q m t g out k wr)
   case atStart => exact HS0.out
   case round =>
    obtain ⟨i, O, on, oc, rfl, hi, rfl, ho, f, st⟩ := hrel
    clear HS0
    have HI := hid hi
    clear hi
    have hon : on ≤ 12 := by have h1 := Own.len ho; have h2 := ma_len (sg := sg) (ps := ps) (t := t) i; have := HI.out; omega
    by_cases hip : i < pn
    ·obtain ⟨b, off, D, dn, dc, rfl, hbb, hc, hsg, hcap⟩ := f.s'.spot hip
     have hdn : dn ≤ 1048576 := by have := HE.out i; rw [hsg.1] at this; exact this
     have hgk := hid (show gk - 1 < gk ∧ i + 1 + (gk - 1) = pn by have := HI.out; omega)
     have sd : Seg wr wr.heap.size D dn (ps.getD i []) := hsg.more (Nat.le_of_lt f.size)
     obtain ⟨ys, hys⟩ : ∃ ys, ps.getD i [] = ys := ⟨_, rfl⟩
     rw [hys] at sd
     obtain ⟨bi, hbi⟩ : ∃ b, instB sg ys t = b := ⟨_, rfl⟩
     have HB := hid hbi
     have HE2 := hid (show maN sg ps t (i + 1) = maN sg ps t i ++ (if bi = true then [(i : Int)] else []) by simp only [maN]; rw [hys, hbi])
     have z0 := f.size
     have LI := hid (implInstanceIn A D Q n c dn dc m mc sg ys t wr f.s1 sd (st.more (Nat.le_of_lt f.size)) hn hdn hm hmc hmc2)
     have cA := f.cell
     clear hsg hcap hbi hys sd
     cases bi with
     | false =>
      go_wp2_with fail
      refine LI.out.mono ?_
      rintro e w3 ⟨he, bb⟩
      rw [HB.out] at he
      subst he
      have f2 := f.next bb
      have S : HeadMa w A n c sg (some ⟨b, off, none⟩) pn ps Q m t (gk - 1) (.slice O on oc) (.int .i64 ((i : Int) + 1)) w3 := ⟨i + 1, O, on, oc, by simp, hgk.out.2, rfl, by rw [HE2.out]; simpa using Own.next ho bb, f2, st.below (bb.mono (Nat.le_of_lt f.size))⟩
      have HSS := hid S
      clear S ho f f2 st bb LI cA hc
      go_wp2
      go_roundg (gk - 1)
      case measure => exact hgk.out.1
      case rel => exact HSS.out
     | true =>
      go_wp2_with fail
      refine LI.out.mono ?_
      rintro e w3 ⟨he, bb⟩
      rw [HB.out] at he
      subst he
      have f2 := f.next bb
      replace ho := Own.next ho bb
      replace st := st.below (bb.mono (Nat.le_of_lt f.size))
      have z1 : w.heap.size + 1 ≤ w3.heap.size := f2.size
      clear bb LI cA hc f
      go_wp2_with (at_builtin; refine app1 rfl _ _ rfl (w.heap.size + 1) O on oc _ rfl (Own.alloc ho _) w3.heap.size 1 (i : Int) rfl ((Row.new _ _ _).cell 0) (by omega) (by simp; omega) ?_; intro O' oc' w7 ho7 b7)
      have S : HeadMa w A n c sg (some ⟨b, off, none⟩) pn ps Q m t (gk - 1) (.slice O' (on + 1) oc') (.int .i64 ((i : Int) + 1)) w7 := ⟨i + 1, O', on + 1, oc', by simp, hgk.out.2, rfl, by rw [HE2.out]; exact ho7, (f2.alloc _).over b7, (st.alloc (Nat.le_of_lt f2.size) _).below (b7.mono (Nat.le_succ _))⟩
      have HSS := hid S
      clear S ho ho7 f2 st b7
      go_wp2
      go_roundg (gk - 1)
      case measure => exact hgk.out.1
      case rel => exact HSS.out
    ·have hip2 : i = pn := by have := HI.out; omega
     have F := hid (list_of (w := w) (show maI sg ps t = maN sg ps t i by rw [HF.out, hip2]) ho (Nat.le_succ _) f.b)
     clear ho f st hip2
     go_wp2
     go_ret
     exact F.out
end matchImplB
end
section
namespace anyOf
open Go.RowKit base ints sig segs segsHelp inside
set_option maxRecDepth 100000
def Tests (g : Nat) (lb : Array Value) (w : World) (f : List Int → Bool) : Prop :=
 ∀ (W : World) (D : Option Addr) (dn dc : Nat) (ys : List Int), Below w.heap.size w W → Seg W W.heap.size D dn ys → dn ≤ 1048576 → Cap D dn dc → Calls Try.prog g (#[.slice D dn dc] ++ lb) W (Tells W (f ys))
theorem Tests.next {g : Nat} {lb : Array Value} {w w' : World} {f : List Int → Bool} (h : Tests g lb w f) (hb : Below w.heap.size w w') : Tests g lb w' f :=
 fun W D dn dc ys hW hs hn hc => h W D dn dc ys (next_trans hb hW) hs hn hc
end anyOf
end
section
namespace matchImplC
open Go.RowKit base ints sig same term termOk endAt inside marks app sym sub segs segsHelp kinds termFacts termMath posMath plainMath plain plainOf gives cursor fillMath matchMath matchSpec matchList matchMost whole takeMath take extended pathSpec matchImpl renMath varsOf variant anyOf matchImplB
set_option maxRecDepth 100000
end matchImplC
end
section
namespace matchTot
open Go.RowKit base ints sig term termOk app sym sub segs segsHelp plainMath gives plainOf fillMath termFacts matchMath matchSpec
end matchTot
end
section
open Go.Lib (hid)
namespace wMatchedAll
open Go.RowKit base ints sig cursor marks app sym appAt segs segsHelp segsMark kinds kindsSS inside matchMath matchSpec matchList matchMost matchTot matchImpl matchImplB matchImplC
set_option maxRecDepth 100000
set_option maxHeartbeats 8000000 in
theorem law (a0 : Option Addr) (n0 c0 : Nat) (xs0 : List Int) (a1 : Option Addr) (n1 c1 : Nat) (xs1 : List (List Int)) (a2 : Option Addr) (n2 c2 : Nat) (xs2 : List Int) (w : World) (s0 : Seg w w.heap.size a0 n0 xs0) (hN0 : n0 ≤ 9223372036854775807) (s1 : Segs w w.heap.size a1 n1 xs1) (hN1 : n1 ≤ 9223372036854775807) (s2 : Seg w w.heap.size a2 n2 xs2) (hN2 : n2 ≤ 9223372036854775807) :
  Calls Try.prog 9 #[.agg #[.slice a0 n0 c0], .slice a1 n1 c1, .slice a2 n2 c2] w (Fine w) := by
 obtain ⟨W, hW⟩ : ∃ W, W = w.alloc (.cells #[.slice a0 n0 c0] 24) := ⟨_, rfl⟩
 have rA0 : Row W (w.heap.size) 24 #[.slice a0 n0 c0] := by rw [hW]; have := Row.new (w) 24 #[.slice a0 n0 c0]; simpa using this
 have bW : Below w.heap.size w W := by rw [hW]; exact (Below.refl w.heap.size w).alloc (by simp) (.cells #[.slice a0 n0 c0] 24)
 have zA0 := rA0.lt
 replace s0 := s0.next bW
 have Hl0 := hid s0.1
 replace s1 := s1.next bW
 have Hl1 := hid s1.1
 replace s2 := s2.next bW
 have Hl2 := hid s2.1
 have HW := hid hW
 clear hW
 obtain ⟨t1, ht1⟩ : ∃ z, tot xs1 = z := ⟨_, rfl⟩
 have HT1 := hid ht1
 clear ht1
 by_cases h2 : n2 ≤ 1048576
 case neg =>
  go_enter Try.func9, Try.ntmps9
  go_wp2_with fail
  rw [← HW.out]
  go_ret
  exact ⟨rfl, bW⟩
 go_enter Try.func9, Try.ntmps9
 go_wp2_with fail
 rw [← HW.out]
 clear HW
 have bel := Below.refl W.heap.size W
 have cA0 : W.cell? ⟨w.heap.size, 0, none⟩ = some (.slice a0 n0 c0) := (rA0.next bel).cell 0
 refine (szSig _ _ _ (1048576) _ hN0 (by omega) (by omega)).mono ?_
 rintro e w1 ⟨he, bb⟩
 replace bel := next_trans bel bb
 have zw1 := bb.size
 clear bb
 by_cases q0 : n0 ≤ 1048576
 case neg =>
  rw [if_pos (by omega)] at he
  subst he
  have F := hid (bW.trans (bel.mono bW.size))
  clear bel bW cA0
  go_wp2
  go_ret
  exact ⟨rfl, F.out⟩
 rw [if_neg (by omega)] at he
 subst he
 have h0 : n0 ≤ 1048576 := by omega
 clear cA0
 have cA0 : w1.cell? ⟨w.heap.size, 0, none⟩ = some (.slice a0 n0 c0) := (rA0.next bel).cell 0
 go_wp2_with fail
 refine (listsSz _ _ _ xs1 (1048576 - (n0 : Int)) _ (s1.next bel) hN1 (by omega) (by omega)).mono ?_
 rintro e w2 ⟨he, bb⟩
 rw [HT1.out] at he
 replace bel := next_trans bel bb
 have zw2 := bb.size
 clear bb
 by_cases q1 : n0 + t1 ≤ 1048576
 case neg =>
  rw [if_pos (by omega)] at he
  subst he
  have F := hid (bW.trans (bel.mono bW.size))
  clear bel bW cA0
  go_wp2
  go_ret
  exact ⟨rfl, F.out⟩
 rw [if_neg (by omega)] at he
 subst he
 have h1 : tot xs1 ≤ 1048576 := by rw [HT1.out]; omega
 replace h1 := hid h1
 have hn1 : n1 ≤ 1048576 := tot_len Hl1.out h1.out
 have hm1 : sumL xs1 n1 ≤ 1048576 := by have q := h1.out; unfold tot at q; rw [Hl1.out] at q; omega
 obtain ⟨z1, hz1⟩ : ∃ z, sumL xs1 n1 = z := ⟨_, rfl⟩
 rw [hz1] at hm1
 have HZ1 := hid hz1
 clear hz1
 clear cA0
 have cA0 : w2.cell? ⟨w.heap.size, 0, none⟩ = some (.slice a0 n0 c0) := (rA0.next bel).cell 0
 have hlen : (maI xs0 xs1 xs2).length ≤ 1048576 := by unfold maI; split; exact Nat.le_trans (ma_len _) (by rw [Hl1.out]; exact hn1); simp
 obtain ⟨ys, hys⟩ : ∃ ys, maI xs0 xs1 xs2 = ys := ⟨_, rfl⟩
 rw [hys] at hlen
 have HY := hid hys
 clear hys
 replace hlen := hid hlen
 go_wp2_with fail
 refine (sigTo _ _ _ xs0 _ (s0.next bel) h0).mono ?_
 rintro e w3 ⟨gp0, rfl, op0, yp0, bb⟩
 replace bel := next_trans bel bb
 have zw3 := bb.size
 clear bb
 clear cA0
 have cA0 : w3.cell? ⟨w.heap.size, 0, none⟩ = some (.slice a0 n0 c0) := (rA0.next bel).cell 0
 go_wp2_with fail
 refine (listsTo _ _ _ xs1 _ (s1.next bel) h1.out).mono ?_
 rintro e w4 ⟨gp1, rfl, op1, yp1, bb⟩
 replace op0 := op0.next bb
 replace bel := next_trans bel bb
 have zw4 := bb.size
 clear bb
 clear cA0
 have cA0 : w4.cell? ⟨w.heap.size, 0, none⟩ = some (.slice a0 n0 c0) := (rA0.next bel).cell 0
 go_wp2_with fail
 refine (intsTo _ _ _ xs2 _ (s2.next bel) h2).mono ?_
 rintro e w5 ⟨gp2, rfl, op2, yp2, bb⟩
 replace op0 := op0.next bb
 replace op1 := op1.next bb
 replace bel := next_trans bel bb
 have zw5 := bb.size
 clear bb
 clear cA0
 have cA0 : w5.cell? ⟨w.heap.size, 0, none⟩ = some (.slice a0 n0 c0) := (rA0.next bel).cell 0
 go_wp2_with fail
 refine (specMatchedAll _ _ _ _ _ _ _ _ _ xs0 xs1 xs2 _ op0.rd op1.rd op2.rd h0 h1.out h2 (Nat.le_refl _) (by omega)).mono ?_
 rintro e w6 ⟨A0, m0, d0, he, o0, bb⟩
 subst he
 replace op0 := op0.next bb
 replace op1 := op1.next bb
 replace op2 := op2.next bb
 replace bel := next_trans bel bb
 have zw6 := bb.size
 clear bb
 rw [HY.out] at o0
 have sw := Own.seg o0
 clear o0
 clear op0 op1 op2
 clear cA0
 have cA0 : w6.cell? ⟨w.heap.size, 0, none⟩ = some (.slice a0 n0 c0) := (rA0.next bel).cell 0
 obtain ⟨Aw, mw, dw, eA, em, ed⟩ : ∃ A m d, A = A0 ∧ m = m0 ∧ d = d0 := ⟨_, _, _, rfl, rfl, rfl⟩
 subst eA em ed
 have belw := Below.refl w6.heap.size w6
 clear cA0
 have cA0 : w6.cell? ⟨w.heap.size, 0, none⟩ = some (.slice a0 n0 c0) := (rA0.next bel).cell 0
 go_wp2_with fail
 refine (sigTo _ _ _ xs0 _ (s0.next bel) h0).mono ?_
 rintro e w7 ⟨gx0, rfl, ox0, yx0, bb⟩
 replace bel := next_trans bel bb
 replace belw := next_trans belw bb
 have zw7 := bb.size
 clear bb
 clear cA0
 have cA0 : w7.cell? ⟨w.heap.size, 0, none⟩ = some (.slice a0 n0 c0) := (rA0.next bel).cell 0
 have dA0 : (w7.alloc (.cells #[.slice (some ⟨gx0, 0, none⟩) n0 n0] 32)).cell? ⟨w.heap.size, 0, none⟩ = some (.slice a0 n0 c0) := ((rA0.next bel).alloc _).cell 0
 go_wp2_with fail
 obtain ⟨w8, hw⟩ : ∃ W, W = w7.alloc (.cells #[.slice (some ⟨gx0, 0, none⟩) n0 n0] 32) := ⟨_, rfl⟩
 rw [← hw]
 have rx0 : Row w8 w7.heap.size 32 #[.slice (some ⟨gx0, 0, none⟩) n0 n0] := by rw [hw]; exact Row.new _ _ _
 have bb : Below w7.heap.size w7 w8 := by rw [hw]; exact (Below.refl _ _).alloc (Nat.le_refl _) _
 have yrx0 : w7.heap.size < w8.heap.size := by rw [hw]; simp
 clear hw
 replace ox0 := ox0.next bb
 replace bel := next_trans bel bb
 replace belw := next_trans belw bb
 have zw8 := bb.size
 clear bb
 clear dA0
 clear cA0
 have cA0 : w8.cell? ⟨w.heap.size, 0, none⟩ = some (.slice a0 n0 c0) := (rA0.next bel).cell 0
 have cx0 : w8.cell? ⟨w7.heap.size, 0, none⟩ = some (.slice (some ⟨gx0, 0, none⟩) n0 n0) := (rx0).cell 0
 refine (listsTo _ _ _ xs1 _ (s1.next bel) h1.out).mono ?_
 rintro e w9 ⟨gx1, rfl, ox1, yx1, bb⟩
 replace ox0 := ox0.next bb
 replace rx0 := rx0.next bb
 replace bel := next_trans bel bb
 replace belw := next_trans belw bb
 have zw9 := bb.size
 clear bb
 clear cA0 cx0
 have cA0 : w9.cell? ⟨w.heap.size, 0, none⟩ = some (.slice a0 n0 c0) := (rA0.next bel).cell 0
 have cx0 : w9.cell? ⟨w7.heap.size, 0, none⟩ = some (.slice (some ⟨gx0, 0, none⟩) n0 n0) := (rx0).cell 0
 go_wp2_with fail
 refine (intsTo _ _ _ xs2 _ (s2.next bel) h2).mono ?_
 rintro e w10 ⟨gx2, rfl, ox2, yx2, bb⟩
 replace ox0 := ox0.next bb
 replace rx0 := rx0.next bb
 replace ox1 := ox1.next bb
 replace bel := next_trans bel bb
 replace belw := next_trans belw bb
 have zw10 := bb.size
 clear bb
 clear cA0 cx0
 have cA0 : w10.cell? ⟨w.heap.size, 0, none⟩ = some (.slice a0 n0 c0) := (rA0.next bel).cell 0
 have cx0 : w10.cell? ⟨w7.heap.size, 0, none⟩ = some (.slice (some ⟨gx0, 0, none⟩) n0 n0) := (rx0).cell 0
 go_wp2_with fail
 refine (implMatchedAll _ _ _ _ _ _ _ _ _ xs0 xs1 xs2 _ ox0.rd ox1.rd ox2.rd h0 h1.out h2 (Nat.le_refl _) (by omega)).mono ?_
 rintro e w11 ⟨A0, m0, d0, he, o0, bb⟩
 subst he
 replace ox0 := ox0.next bb
 replace rx0 := rx0.next bb
 replace ox1 := ox1.next bb
 replace ox2 := ox2.next bb
 replace bel := next_trans bel bb
 replace belw := next_trans belw bb
 have zw11 := bb.size
 clear bb
 rw [HY.out] at o0
 have og := Ownd.of_own o0
 clear o0
 obtain ⟨Ag, mg, dg, eA, em, ed⟩ : ∃ A m d, A = A0 ∧ m = m0 ∧ d = d0 := ⟨_, _, _, rfl, rfl, rfl⟩
 subst eA em ed
 clear cA0 cx0
 have cA0 : w11.cell? ⟨w.heap.size, 0, none⟩ = some (.slice a0 n0 c0) := (rA0.next bel).cell 0
 have cx0 : w11.cell? ⟨w7.heap.size, 0, none⟩ = some (.slice (some ⟨gx0, 0, none⟩) n0 n0) := (rx0).cell 0
 have hlenn : mg ≤ 1048576 := by rw [← og.rd.1]; exact hlen.out
 go_wp2_with fail
 refine (intsEq _ _ _ _ _ _ ys _ og.rd (sw.next belw) hlenn).mono ?_
 rintro e w12 ⟨rfl, bb⟩
 replace ox0 := ox0.next bb
 replace rx0 := rx0.next bb
 replace ox1 := ox1.next bb
 replace ox2 := ox2.next bb
 replace og := og.next bb
 replace bel := next_trans bel bb
 replace belw := next_trans belw bb
 have zw12 := bb.size
 clear bb
 clear cA0 cx0
 have cA0 : w12.cell? ⟨w.heap.size, 0, none⟩ = some (.slice a0 n0 c0) := (rA0.next bel).cell 0
 have cx0 : w12.cell? ⟨w7.heap.size, 0, none⟩ = some (.slice (some ⟨gx0, 0, none⟩) n0 n0) := (rx0).cell 0
 go_wp2_with fail
 replace ox0 := ox0.drew
 replace rx0 := rx0.drew
 replace ox1 := ox1.drew
 replace ox2 := ox2.drew
 replace og := og.drew
 replace bel := bel.drew
 replace belw := belw.drew
 have zdw12 := (drew_below w12).size
 go_region_held3 (fun w' => w'.cell? ⟨w7.heap.size, 0, none⟩ = some (.slice (some ⟨gx0, 0, none⟩) n0 n0) ∧ w'.cell? ⟨w.heap.size, 0, none⟩ = some (.slice a0 n0 c0))
  (go_keep)
  (first
   | (go_at_call 14; refine (sigTo _ _ _ xs0 _ (s0.next bel) h0).mono ?_; rintro e w13 ⟨gt0, rfl, ot, yt0, bb⟩; replace ox0 := ox0.next bb; replace rx0 := rx0.next bb; replace ox1 := ox1.next bb; replace ox2 := ox2.next bb; replace og := og.next bb; replace bel := next_trans bel bb; replace belw := next_trans belw bb; have k0w13 : w13.cell? ⟨w.heap.size, 0, none⟩ = some (.slice a0 n0 c0) := (rA0.next bel).cell 0; have l0w13 : w13.cell? ⟨w7.heap.size, 0, none⟩ = some (.slice (some ⟨gx0, 0, none⟩) n0 n0) := rx0.cell 0; have zqw13 := bb.size; clear bb)
   | (go_at_call 18; refine (sigEq _ _ _ _ _ _ xs0 _ ox0.rd ot.rd h0).mono ?_; rintro e w14 ⟨rfl, bb⟩; replace ox0 := ox0.next bb; replace rx0 := rx0.next bb; replace ox1 := ox1.next bb; replace ox2 := ox2.next bb; replace og := og.next bb; replace bel := next_trans bel bb; replace belw := next_trans belw bb; have k0w14 : w14.cell? ⟨w.heap.size, 0, none⟩ = some (.slice a0 n0 c0) := (rA0.next bel).cell 0; have l0w14 : w14.cell? ⟨w7.heap.size, 0, none⟩ = some (.slice (some ⟨gx0, 0, none⟩) n0 n0) := rx0.cell 0; have zqw14 := bb.size; clear bb ot))
 clear k0w13 l0w13 k0w14 l0w14
 clear cA0 cx0
 have cA0 : w14.cell? ⟨w.heap.size, 0, none⟩ = some (.slice a0 n0 c0) := (rA0.next bel).cell 0
 have cx0 : w14.cell? ⟨w7.heap.size, 0, none⟩ = some (.slice (some ⟨gx0, 0, none⟩) n0 n0) := (rx0).cell 0
 go_wp2_with fail
 refine (listsTo _ _ _ xs1 _ (s1.next bel) h1.out).mono ?_
 rintro e w15 ⟨gt1, rfl, ot1, yt1, bb⟩
 replace ox0 := ox0.next bb
 replace rx0 := rx0.next bb
 replace ox1 := ox1.next bb
 replace ox2 := ox2.next bb
 replace og := og.next bb
 replace bel := next_trans bel bb
 replace belw := next_trans belw bb
 have zw15 := bb.size
 clear bb
 clear cA0 cx0
 have cA0 : w15.cell? ⟨w.heap.size, 0, none⟩ = some (.slice a0 n0 c0) := (rA0.next bel).cell 0
 have cx0 : w15.cell? ⟨w7.heap.size, 0, none⟩ = some (.slice (some ⟨gx0, 0, none⟩) n0 n0) := (rx0).cell 0
 go_wp2_with fail
 refine (listsEq _ _ _ _ _ _ xs1 _ ox1.rd ot1.rd h1.out).mono ?_
 rintro e w16 ⟨rfl, bb⟩
 replace ox0 := ox0.next bb
 replace rx0 := rx0.next bb
 replace ox1 := ox1.next bb
 replace ox2 := ox2.next bb
 replace og := og.next bb
 replace ot1 := ot1.next bb
 replace bel := next_trans bel bb
 replace belw := next_trans belw bb
 have zw16 := bb.size
 clear bb
 clear ot1
 clear cA0 cx0
 have cA0 : w16.cell? ⟨w.heap.size, 0, none⟩ = some (.slice a0 n0 c0) := (rA0.next bel).cell 0
 have cx0 : w16.cell? ⟨w7.heap.size, 0, none⟩ = some (.slice (some ⟨gx0, 0, none⟩) n0 n0) := (rx0).cell 0
 go_wp2_with fail
 refine (intsTo _ _ _ xs2 _ (s2.next bel) h2).mono ?_
 rintro e w17 ⟨gt2, rfl, ot2, yt2, bb⟩
 replace ox0 := ox0.next bb
 replace rx0 := rx0.next bb
 replace ox1 := ox1.next bb
 replace ox2 := ox2.next bb
 replace og := og.next bb
 replace bel := next_trans bel bb
 replace belw := next_trans belw bb
 have zw17 := bb.size
 clear bb
 clear cA0 cx0
 have cA0 : w17.cell? ⟨w.heap.size, 0, none⟩ = some (.slice a0 n0 c0) := (rA0.next bel).cell 0
 have cx0 : w17.cell? ⟨w7.heap.size, 0, none⟩ = some (.slice (some ⟨gx0, 0, none⟩) n0 n0) := (rx0).cell 0
 go_wp2_with fail
 refine (intsEq _ _ _ _ _ _ xs2 _ ox2.rd ot2.rd h2).mono ?_
 rintro e w18 ⟨rfl, bb⟩
 replace ox0 := ox0.next bb
 replace rx0 := rx0.next bb
 replace ox1 := ox1.next bb
 replace ox2 := ox2.next bb
 replace og := og.next bb
 replace ot2 := ot2.next bb
 replace bel := next_trans bel bb
 replace belw := next_trans belw bb
 have zw18 := bb.size
 clear bb
 clear ot2
 clear cA0 cx0
 have cA0 : w18.cell? ⟨w.heap.size, 0, none⟩ = some (.slice a0 n0 c0) := (rA0.next bel).cell 0
 have cx0 : w18.cell? ⟨w7.heap.size, 0, none⟩ = some (.slice (some ⟨gx0, 0, none⟩) n0 n0) := (rx0).cell 0
 go_wp2_with fail
 refine (sigMark (w6.heap.size) (w7.heap.size) _ _ _ xs0 (1) _ ox0 h0 (by omega) (by omega)).mono ?_
 rintro e w19 ⟨he, -, bt⟩
 subst he
 clear ox0
 replace rx0 := Row.btw rx0 bt (by omega)
 replace ox1 := ox1.btw bt (by omega)
 replace ox2 := ox2.btw bt (by omega)
 replace og := og.btw bt (by omega)
 replace bel := Below.btw bel bt (by omega) bel.size
 replace belw := Below.btw belw bt (by omega) belw.size
 have zw19 := bt.size
 clear bt
 clear cA0 cx0
 have cA0 : w19.cell? ⟨w.heap.size, 0, none⟩ = some (.slice a0 n0 c0) := (rA0.next bel).cell 0
 have cx0 : w19.cell? ⟨w7.heap.size, 0, none⟩ = some (.slice (some ⟨gx0, 0, none⟩) n0 n0) := (rx0).cell 0
 go_wp2_with fail
 refine (listsMark (w8.heap.size) (w9.heap.size) _ _ _ xs1 (1 + (n0 : Int)) _ ox1 (by omega) h1.out (by omega) (by omega)).mono ?_
 rintro e w20 ⟨he, -, bt⟩
 rw [HZ1.out] at he
 subst he
 clear ox1
 replace rx0 := Row.btw rx0 bt (by omega)
 replace ox2 := ox2.btw bt (by omega)
 replace og := og.btw bt (by omega)
 replace bel := Below.btw bel bt (by omega) bel.size
 replace belw := Below.btw belw bt (by omega) belw.size
 have zw20 := bt.size
 clear bt
 clear cA0 cx0
 have cA0 : w20.cell? ⟨w.heap.size, 0, none⟩ = some (.slice a0 n0 c0) := (rA0.next bel).cell 0
 have cx0 : w20.cell? ⟨w7.heap.size, 0, none⟩ = some (.slice (some ⟨gx0, 0, none⟩) n0 n0) := (rx0).cell 0
 go_wp2_with fail
 refine (intsMark (w9.heap.size) (w10.heap.size) _ _ _ xs2 (1 + (n0 : Int) + (z1 : Int)) _ ox2 h2 (by omega) (by omega)).mono ?_
 rintro e w21 ⟨he, -, bt⟩
 subst he
 clear ox2
 replace rx0 := Row.btw rx0 bt (by omega)
 replace og := og.btw bt (by omega)
 replace bel := Below.btw bel bt (by omega) bel.size
 replace belw := Below.btw belw bt (by omega) belw.size
 have zw21 := bt.size
 clear bt
 clear cA0 cx0
 have cA0 : w21.cell? ⟨w.heap.size, 0, none⟩ = some (.slice a0 n0 c0) := (rA0.next bel).cell 0
 have cx0 : w21.cell? ⟨w7.heap.size, 0, none⟩ = some (.slice (some ⟨gx0, 0, none⟩) n0 n0) := (rx0).cell 0
 clear rx0
 clear cA0 cx0
 have cA0 : w21.cell? ⟨w.heap.size, 0, none⟩ = some (.slice a0 n0 c0) := (rA0.next bel).cell 0
 go_wp2_with fail
 refine (intsEq _ _ _ _ _ _ ys _ og.rd (sw.next belw) hlenn).mono ?_
 rintro e w22 ⟨rfl, bb⟩
 replace og := og.next bb
 replace bel := next_trans bel bb
 replace belw := next_trans belw bb
 have zw22 := bb.size
 clear bb
 clear cA0
 have cA0 : w22.cell? ⟨w.heap.size, 0, none⟩ = some (.slice a0 n0 c0) := (rA0.next bel).cell 0
 go_wp2_with fail
 refine (intsMark (w10.heap.size) (w11.heap.size) _ _ _ ys 1 _ og hlenn (by omega) (by omega)).mono ?_
 rintro e w23 ⟨he, om, bt⟩
 subst he
 clear og
 replace bel := Below.btw bel bt (by omega) bel.size
 replace belw := Below.btw belw bt (by omega) belw.size
 have zw23 := bt.size
 clear bt
 clear cA0
 have cA0 : w23.cell? ⟨w.heap.size, 0, none⟩ = some (.slice a0 n0 c0) := (rA0.next bel).cell 0
 go_wp2_with fail
 refine (intsHeld _ _ _ 1 _ om.rd hlenn (by omega) (by omega)).mono ?_
 rintro e w24 ⟨rfl, bb⟩
 replace om := om.next bb
 replace bel := next_trans bel bb
 replace belw := next_trans belw bb
 have zw24 := bb.size
 clear bb
 clear cA0
 have cA0 : w24.cell? ⟨w.heap.size, 0, none⟩ = some (.slice a0 n0 c0) := (rA0.next bel).cell 0
 go_wp2_with fail
 refine (sigTo _ _ _ xs0 _ (s0.next bel) h0).mono ?_
 rintro e w25 ⟨gp0, rfl, op0, yp0, bb⟩
 replace om := om.next bb
 replace bel := next_trans bel bb
 replace belw := next_trans belw bb
 have zw25 := bb.size
 clear bb
 clear cA0
 have cA0 : w25.cell? ⟨w.heap.size, 0, none⟩ = some (.slice a0 n0 c0) := (rA0.next bel).cell 0
 go_wp2_with fail
 refine (listsTo _ _ _ xs1 _ (s1.next bel) h1.out).mono ?_
 rintro e w26 ⟨gp1, rfl, op1, yp1, bb⟩
 replace om := om.next bb
 replace op0 := op0.next bb
 replace bel := next_trans bel bb
 replace belw := next_trans belw bb
 have zw26 := bb.size
 clear bb
 clear cA0
 have cA0 : w26.cell? ⟨w.heap.size, 0, none⟩ = some (.slice a0 n0 c0) := (rA0.next bel).cell 0
 go_wp2_with fail
 refine (intsTo _ _ _ xs2 _ (s2.next bel) h2).mono ?_
 rintro e w27 ⟨gp2, rfl, op2, yp2, bb⟩
 replace om := om.next bb
 replace op0 := op0.next bb
 replace op1 := op1.next bb
 replace bel := next_trans bel bb
 replace belw := next_trans belw bb
 have zw27 := bb.size
 clear bb
 clear cA0
 have cA0 : w27.cell? ⟨w.heap.size, 0, none⟩ = some (.slice a0 n0 c0) := (rA0.next bel).cell 0
 go_wp2_with fail
 refine (implMatchedAll _ _ _ _ _ _ _ _ _ xs0 xs1 xs2 _ op0.rd op1.rd op2.rd h0 h1.out h2 (Nat.le_refl _) (by omega)).mono ?_
 rintro e w28 ⟨A0, m0, d0, he, o0, bb⟩
 subst he
 replace om := om.next bb
 replace op0 := op0.next bb
 replace op1 := op1.next bb
 replace op2 := op2.next bb
 replace bel := next_trans bel bb
 replace belw := next_trans belw bb
 have zw28 := bb.size
 clear bb
 rw [HY.out] at o0
 have sh := Own.seg o0
 clear o0
 clear op0 op1 op2
 clear cA0
 have cA0 : w28.cell? ⟨w.heap.size, 0, none⟩ = some (.slice a0 n0 c0) := (rA0.next bel).cell 0
 obtain ⟨Ah, mh, dh, eA, em, ed⟩ : ∃ A m d, A = A0 ∧ m = m0 ∧ d = d0 := ⟨_, _, _, rfl, rfl, rfl⟩
 subst eA em ed
 have belh := Below.refl w28.heap.size w28
 clear cA0
 have cA0 : w28.cell? ⟨w.heap.size, 0, none⟩ = some (.slice a0 n0 c0) := (rA0.next bel).cell 0
 go_wp2_with fail
 refine (intsEq _ _ _ _ _ _ ys _ (sh.next belh) (sw.next belw) (by rw [← sh.1]; exact hlen.out)).mono ?_
 rintro e w29 ⟨rfl, bb⟩
 replace om := om.next bb
 replace bel := next_trans bel bb
 replace belw := next_trans belw bb
 replace belh := next_trans belh bb
 have zw29 := bb.size
 clear bb
 clear cA0
 have cA0 : w29.cell? ⟨w.heap.size, 0, none⟩ = some (.slice a0 n0 c0) := (rA0.next bel).cell 0
 go_wp2_with fail
 refine (intsHeld _ _ _ 1 _ om.rd hlenn (by omega) (by omega)).mono ?_
 rintro e w30 ⟨rfl, bb⟩
 replace om := om.next bb
 replace bel := next_trans bel bb
 replace belw := next_trans belw bb
 replace belh := next_trans belh bb
 have zw30 := bb.size
 clear bb
 clear cA0
 have cA0 : w30.cell? ⟨w.heap.size, 0, none⟩ = some (.slice a0 n0 c0) := (rA0.next bel).cell 0
 have F := hid (bW.trans (bel.mono bW.size))
 clear bel belw belh om bW cA0
 go_wp2
 go_ret
 exact ⟨rfl, F.out⟩
end wMatchedAll
end
end Go.Proofs.Ytghgnondlgdjdaa
