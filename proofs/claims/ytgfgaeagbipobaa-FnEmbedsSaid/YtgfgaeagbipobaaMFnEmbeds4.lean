/-
  MERGED: my texts TakeMath, Take, Extended, PathSpec, MatchList, Rename, RenImpl, Variant, MatchMost, MatchImpl, MatchImplB, Big, LawT, WFnEmbeds, one behind the other, as they are. By an AI agent.
-/
import Derived.Test.YtgfgaeagbipobaaMFnEmbeds3
import Derived.Deep.RegionHeld3
import Derived.Deep.LoopGhost
import Derived.Deep.QuietTactic
import Derived.BigQuiet
import Derived.Deep.WholeRow
namespace Go.Proofs.Ytgfgaeagbipobaa
section
namespace takeMath
open sig term termOk termFacts endAt sub termMath fillMath posMath renMath matchMath
def Sync (sg p t : List Int) (i k : Nat) : Prop := ∃ q, scan sg q (p.drop i) = some (p.length - i) ∧ ∃ j, scan sg q (t.drop k) = some j
section
variable {sg p t : List Int} {i k : Nat} {x : Int}
theorem Sync.start (h1 : termOkB sg p = true) (h2 : termOkB sg t = true) (ha : k < t.length) : Sync sg p t 0 k :=
 ⟨1, by rw [List.drop_zero, Nat.sub_zero]; exact (term_parts h1).2.2, _, (term_at h2 ha).1⟩
theorem Sync.lt (h : Sync sg p t i k) (hi : i < p.length) : k < t.length := by
 obtain ⟨q, h1, j, h2⟩ := h
 cases q with
 | zero => rw [scan_zero] at h1; injection h1 with h1; omega
 | succ q =>
  have a := scan_pos h2
  have b := scan_le h2
  rw [List.length_drop] at b
  omega
theorem Sync.sym (h : Sync sg p t i k) (hi : i < p.length) (hx : p.getD i 0 = x) (hy : t.getD k 0 = x) : Sync sg p t (i + 1) (k + 1) := by
 have hk := h.lt hi
 obtain ⟨q, h1, j, h2⟩ := h
 rw [drop_cons hi, hx] at h1
 rw [drop_cons hk, hy] at h2
 cases q with
 | zero => rw [scan_zero] at h1; injection h1 with h1; omega
 | succ q =>
  by_cases hn : ar sg x < 0
  ·rw [scan_bad hn] at h1; cases h1
  ·rw [scan_step hn, Option.map_eq_some_iff] at h1 h2
   obtain ⟨a, e1, e2⟩ := h1
   obtain ⟨b, e3, e4⟩ := h2
   exact ⟨_, by rw [e1]; congr 1; omega, b, e3⟩
theorem Sync.var (h : Sync sg p t i k) (hi : i < p.length) (hx : p.getD i 0 = x) (h0 : -24 ≤ x) (h1 : x < 0) (hok : termOkB sg t = true) : Sync sg p t (i + 1) (k + (subL sg t k).length) := by
 have hk := h.lt hi
 have hl := (sub_len1 hok hk).1
 obtain ⟨q, h1, j, h2⟩ := h
 rw [drop_cons hi, hx] at h1
 cases q with
 | zero => rw [scan_zero] at h1; injection h1 with h1; omega
 | succ q =>
  have hz : ar sg x = 0 := ar_var (by omega)
  rw [scan_step (by omega), hz, Option.map_eq_some_iff] at h1
  obtain ⟨a, e1, e2⟩ := h1
  obtain ⟨j1, g1, _, _, g2⟩ := scan_first h2
  rw [hl, len1_eq g1]
  exact ⟨q, by rw [show p.length - (i + 1) = a by omega]; exact e1, _, g2⟩
end
theorem mst_at {sg p t : List Int} {k : Nat} (h1 : termOkB sg p = true) (h2 : termOkB sg t = true) (hk : k < t.length) : (mst sg t p k s0).isSome = instB sg p (subL sg t k) := by
 have hx : ∀ x ∈ p, -24 ≤ x := fun x hx => (term_mem h1 hx).1
 have hs := (sub_term h2 hk).1
 obtain ⟨_, e2, e3⟩ := sub_len1 h2 hk
 rw [Bool.eq_iff_iff, inst_iff h1 hs, Option.isSome_iff_exists]
 constructor
 ·rintro ⟨s', h⟩
  obtain ⟨⟨rest, e⟩, hv⟩ := mst_sound h2 h (by rfl) hx
  refine ⟨fun i => s'.getD i [], ?_, hv⟩
  have a := scan_append (r := rest) (scan_fill (L := fun i => s'.getD i []) (term_parts h1).2.2 hv)
  rw [← e] at a
  unfold subL
  rw [len1_eq a, e, List.take_left' rfl]
 ·rintro ⟨L, hL, hv⟩
  obtain ⟨s', m1, _⟩ := mst_full (sg := sg) (t := t) (L := L) (p := p) (k := k) (s := s0) (rest := t.drop (k + (subL sg t k).length)) (by rw [hL]; exact e2) (by rfl) hx hv (fun i hi => by rw [s0_get] at hi; exact absurd rfl hi)
  exact ⟨s', m1⟩
end takeMath
end
section
open Go.Lib (hid)
namespace take
open Go.RowKit base ints sig same term termOk endAt marks app sym sub segs termFacts termMath posMath cursor matchMath matchSpec whole takeMath curO
set_option maxRecDepth 100000
theorem set_same {s : List (List Int)} {v : Nat} {ys : List Int} (h : s.getD v [] = ys) (hv : v < s.length) : s.set v ys = s := by
 refine List.ext_getElem (by simp) fun i h1 h2 => ?_
 rw [List.getElem_set]
 split
 ·rename_i e
  subst e
  rw [← h]
  simp [List.getD, hv]
 ·rfl
structure Tk (w : World) (g : Nat) (A : Option Addr) (n c : Nat) (Q : Option Addr) (m mc : Nat) (sg t : List Int) (k : Nat) (s : List (List Int)) : Prop where
 row : Row w (g + 1) 56 #[.slice A n c, .slice Q m mc, .int .i64 k]
 tab : ∃ cs, Row w g 52 cs ∧ TabR w g cs s
 ss : Seg w g A n sg
 st : Seg w g Q m t
 le : k ≤ m
 hn : n ≤ 1048576
 hm : m ≤ 1048576
 ars : Arities sg
 hs : ∀ j, (s.getD j []).length ≤ m
section
variable {w w' : World} {g : Nat} {A : Option Addr} {n c : Nat} {Q : Option Addr} {m mc : Nat} {sg t : List Int} {k k' : Nat} {s : List (List Int)}
theorem Tk.cur (h : Tk w g A n c Q m mc sg t k s) : Cur w (g + 1) A n c Q m mc sg t k := ⟨h.row, h.ss.more (Nat.le_succ _), h.st.more (Nat.le_succ _), h.le, h.hn, h.hm, h.ars⟩
theorem Tk.lt (h : Tk w g A n c Q m mc sg t k s) : g + 1 < w.heap.size := h.row.lt
theorem keep_of {B : Nat} {r : Option Nat} (hg : w.grownBy w' r) (hB : B ≤ w.heap.size) (hr : ∀ k, r = some k → B ≤ k) : ∀ p : Addr, p.block < B → w'.cell? p = w.cell? p :=
 fun q hq => World.cell?_of_block (hg.block q.block (by omega) (fun e => by have := hr _ e.symm; omega))
theorem Tk.move (h : Tk w g A n c Q m mc sg t k s) (hg : w.grownBy w' (some (g + 1))) (hr : Row w' (g + 1) 56 #[.slice A n c, .slice Q m mc, .int .i64 k']) (hk : k' ≤ m) : Tk w' g A n c Q m mc sg t k' s := by
 have hl := h.lt
 have hk0 := keep_of (B := g) hg (by omega) (fun k e => by injection e; omega)
 obtain ⟨cs, h1, h2⟩ := h.tab
 refine ⟨hr, ⟨cs, (hg.block g (by omega) (fun e => by injection e; omega)).trans h1, h2.keep hk0⟩, h.ss.keep hk0, h.st.keep hk0, hk, h.hn, h.hm, h.ars, h.hs⟩
theorem Tk.drewN (h : Tk w g A n c Q m mc sg t k s) (d : Nat) : Tk (w.drewN d) g A n c Q m mc sg t k s := ⟨h.row, h.tab, h.ss, h.st, h.le, h.hn, h.hm, h.ars, h.hs⟩
theorem Tk.put (h : Tk w g A n c Q m mc sg t k s) {j : Nat} (hj : j < 24) {D : Option Addr} {dn dc : Nat} {ys : List Int} (hs : Seg w g D dn ys) (hc : Cap D dn dc) (hl : ys.length ≤ m) :
  Tk (w.setCell ⟨g, j, none⟩ (.slice D dn dc)) g A n c Q m mc sg t k (s.set j ys) := by
 have hlt := h.lt
 have hg : w.grownBy (w.setCell ⟨g, j, none⟩ (.slice D dn dc)) (some g) := grown_put (World.grownBy.refl _ _) _ _
 have hk0 := keep_of (B := g) hg (by omega) (fun k e => by injection e; omega)
 obtain ⟨cs, h1, h2⟩ := h.tab
 exact ⟨h.row.far (show g + 1 ≠ g by omega) _, ⟨_, h1.put j _, (h2.put hj hs hc).keep hk0⟩, h.ss.keep hk0, h.st.keep hk0, h.le, h.hn, h.hm, h.ars, fun i => by rw [set_get]; split; exact hl; exact h.hs i⟩
theorem Tk.held (h : Tk w g A n c Q m mc sg t k s) {j : Nat} (hj : j < 24) : ∃ D dn dc, w.cell? ⟨g, j, none⟩ = some (.slice D dn dc) ∧ Seg w g D dn (s.getD j []) ∧ w.frozen? ⟨g, j, none⟩ = false := by
 obtain ⟨cs, h1, h2⟩ := h.tab
 obtain ⟨D, dn, dc, e, hs, _⟩ := h2.2.2 j hj
 exact ⟨D, dn, dc, by rw [h1.cell j, e], hs, h1.free j⟩
theorem Tk.len (h : Tk w g A n c Q m mc sg t k s) : s.length = 24 := by obtain ⟨cs, h1, h2⟩ := h.tab; exact h2.2.1
end
theorem btw_drewN (lo hi : Nat) (w : World) (d : Nat) : Btw lo hi w (w.drewN d) := ⟨rfl, rfl, rfl, Nat.le_refl _, fun _ _ _ => rfl⟩
def AnsTake (w : World) (g : Nat) (A : Option Addr) (n c : Nat) (Q : Option Addr) (m mc : Nat) (sg t : List Int) (k : Nat) (s : List (List Int)) (x : Int) (e : Ending) (w' : World) : Prop :=
 Btw g (g + 2) w w' ∧ ((∃ k' s', e = .returned (.bool true) ∧ Tk w' g A n c Q m mc sg t k' s' ∧ ((0 ≤ x ∧ t.getD k 0 = x ∧ k' = k + 1) ∨ (x < 0 ∧ k' = k + (subL sg t k).length)) ∧ ∀ r, mst sg t (x :: r) k s = mst sg t r k' s') ∨
  (e = .returned (.bool false) ∧ ∀ r, mst sg t (x :: r) k s = none))
set_option maxHeartbeats 1000000 in
theorem take (g : Nat) (A Q : Option Addr) (n c m mc : Nat) (sg t : List Int) (k : Nat) (s : List (List Int)) (x : Int) (w : World) (h : Tk w g A n c Q m mc sg t k s) (hk : k < m) (hmc : m ≤ mc) (hmc2 : mc ≤ 9223372036854775807) (hx : -24 ≤ x) (hok : termOkB sg t = true) :
  Calls Try.prog 77 #[.pointer (some ⟨g, 0, none⟩), .int .i64 x, .pointer (some ⟨g + 1, 0, none⟩)] w (AnsTake w g A n c Q m mc sg t k s x) := by
 have HT := hid hok
 have HL := hid h.st.1
 have hkt : ¬ t.length ≤ k := by rw [HL.out]; omega
 have hm := h.hm
 have c1 : w.cell? ⟨g + 1, 1, none⟩ = some (.slice Q m mc) := h.row.cell 1
 have c2 : w.cell? ⟨g + 1, 2, none⟩ = some (.int .i64 k) := h.row.cell 2
 have f2 : w.frozen? ⟨g + 1, 2, none⟩ = false := h.row.free 2
 obtain ⟨b, off, y, rfl, hbb, hy, ey⟩ := h.st.spot hk
 have i0 : (0 : Int) ≤ (k : Int) := by omega
 have i1 : (k : Int) < (m : Int) := by omega
 clear hok
 by_cases hx0 : 0 ≤ x
 ·have g0 : w.grownBy (w.setCell ⟨g + 1, 2, none⟩ (.int .i64 ((k : Int) + 1))) (some (g + 1)) := grown_put (World.grownBy.refl _ _) _ _
  have r0 := h.row.put 2 (.int .i64 ((k : Int) + 1))
  have er : (.int .i64 ((k : Int) + 1) : Value) = .int .i64 ((k + 1 : Nat) : Int) := by simp
  have r1 := r0
  rw [er] at r1
  have M := hid (h.move (k' := k + 1) g0 (by rw [← er] at r1; rw [← er]; exact r0) hk)
  clear r0 r1 er
  have B := hid (Btw.of_grown (lo := g) (hi := g + 2) g0 (fun k e => by injection e; omega))
  have hy1 : (w.setCell ⟨g + 1, 2, none⟩ (.int .i64 ((k : Int) + 1))).cell? ⟨b, off + k, none⟩ = some (.int .i64 y) := (World.cell?_setCell_far w ⟨g + 1, 2, none⟩ ⟨b, off + k, none⟩ _ (by show g + 1 ≠ b; omega)).trans hy
  by_cases hxy : x = y
  ·subst hxy
   have F := fun d => (show AnsTake w g A n c (some ⟨b, off, none⟩) m mc sg t k s x (.returned (.bool true)) ((w.setCell ⟨g + 1, 2, none⟩ (.int .i64 ((k : Int) + 1))).drewN d) from
    ⟨B.out.trans (btw_drewN _ _ _ d), .inl ⟨k + 1, s, rfl, M.out.drewN d, .inl ⟨hx0, ey.out, rfl⟩, fun r => mst_sym hkt hx0 ey.out.symm⟩⟩)
   have HF := hid F
   clear F M B g0 h ey
   go_enter Try.func77, Try.ntmps77
   go_wp2
   go_quiet (fail)
   go_wp2
   go_ret
   exact HF.out _
  ·have hd : (y == x) = false := by simp; exact fun e => hxy e.symm
   have F := fun d => (show AnsTake w g A n c (some ⟨b, off, none⟩) m mc sg t k s x (.returned (.bool false)) ((w.setCell ⟨g + 1, 2, none⟩ (.int .i64 ((k : Int) + 1))).drewN d) from
    ⟨B.out.trans (btw_drewN _ _ _ d), .inr ⟨rfl, fun r => mst_symNo hkt hx0 (by rw [ey.out]; exact hxy)⟩⟩)
   have HF := hid F
   clear F M B g0 h ey
   go_enter Try.func77, Try.ntmps77
   go_wp2
   go_quiet (fail)
   go_wp2
   go_ret
   exact HF.out _
 ·obtain ⟨v, hv⟩ : ∃ v : Nat, x = -1 - (v : Int) := ⟨(-1 - x).toNat, by omega⟩
  subst hv
  have hv24 : v < 24 := by omega
  have HVR := hid (show vr (-1 - (v : Int)) = v by unfold vr; omega)
  obtain ⟨t1, t2, t3⟩ := term_at HT.out (show k < t.length by rw [HL.out]; exact hk)
  rw [HL.out] at t3
  obtain ⟨j, hj⟩ : ∃ j, len1 sg t k = j := ⟨_, rfl⟩
  have hsl := (sub_len1 HT.out (show k < t.length by rw [HL.out]; exact hk)).1
  have hsub : subL sg t k = (t.drop k).take j := by unfold subL; rw [hj]
  rw [hj] at t1 t2 t3 hsl
  obtain ⟨ys, hys⟩ : ∃ ys, subL sg t k = ys := ⟨_, rfl⟩
  rw [hys] at hsl hsub
  have HYS := hid hys
  have HSUB := hid hsub
  have HSL := hid hsl
  have T1 := hid t1
  have C := hid h.cur
  have HH := hid h
  have HKT := hid hkt
  have a1 : (k : Int) ≤ (k : Int) + (j : Int) := by omega
  have a2 : (k : Int) + (j : Int) ≤ (mc : Int) := by omega
  have a3 : ¬ mc = k := by omega
  have a4 : k + j ≤ mc := by omega
  have w1 : IntKind.i64.wrap (-1 - (-1 - (v : Int))) = (v : Int) := by rw [IntKind.wrap_i64]; omega
  have w2 : IntKind.i64.wrap (v : Int) = (v : Int) := by rw [IntKind.wrap_i64]; omega
  have j0 : (0 : Int) ≤ (v : Int) := by omega
  have j1 : (v : Int) < 24 := by omega
  clear hj hys hsub hsl t1 hy ey f2 hkt h
  go_enter Try.func77, Try.ntmps77
  have C2 := hid (C.out.drewN 1)
  go_wp2_with fail
  go_region_held3 (fun _ => True) (trivial)
   (first
    | (go_at_call 94; refine (partC (g + 1) A n c b off m mc sg t k j w.drew C2.out T1.out t3 t2 hmc hmc2).mono ?_; rintro e w3 ⟨rfl, hg0, hc⟩))
  ·have hg : w.grownBy w3 (some (g + 1)) := grown_trans (World.grownBy.refl w _) ⟨hg0.os, hg0.tape, hg0.output, hg0.size, hg0.block⟩
   have M := HH.out.move hg hc.row t3
   have b3 := Btw.of_grown (lo := g) (hi := g + 2) hg (fun k e => by injection e; omega)
   obtain ⟨D, dn, dc, ch, sh, fh⟩ := M.held hv24
   obtain ⟨os, hos⟩ : ∃ os, s.getD v [] = os := ⟨_, rfl⟩
   have hdn : dn ≤ 1048576 := by rw [← sh.1]; exact Nat.le_trans (M.hs v) hm
   rw [hos] at sh
   have HOS := hid hos
   have HSH := hid sh
   have HM := hid M
   have HB := hid b3
   have cut := hid (Seg.cut (a := k) (j := j) M.st t3)
   clear hc hg hg0 hos sh b3 M C C2 c1 c2
   have HC := hid (show Cap (some ⟨b, off + k, none⟩) j (mc - k) from ⟨by omega, by omega, fun e => by cases e⟩)
   have hj60 : j ≤ 1048576 := by omega
   have HJ := hid (show 1 ≤ j from t2)
   by_cases hd0 : dn = 0
   ·subst hd0
    have hno : ¬ ((s.getD (vr (-1 - (v : Int))) []).length ≠ 0 ∧ s.getD (vr (-1 - (v : Int))) [] ≠ subL sg t k) := by
     rw [HVR.out, HOS.out, HSH.out.1]
     exact fun e => e.1 rfl
    have R := hid (fun r => mst_var (sg := sg) (r := r) HKT.out (show ¬ 0 ≤ -1 - (v : Int) by omega) hno)
    have P := hid (HM.out.put (j := v) (D := some ⟨b, off + k, none⟩) (dn := j) (dc := mc - k) (ys := ys) hv24 (by rw [HSUB.out]; exact cut.out) HC.out (by rw [HSL.out]; omega))
    have BP := hid (HB.out.trans (Btw.of_grown (lo := g) (hi := g + 2) (grown_put (World.grownBy.refl w3 (some g)) v (.slice (some ⟨b, off + k, none⟩) j (mc - k))) (fun k e => by injection e; omega)))
    have ce := World.cell?_setCell_same w3 ⟨g, v, none⟩ (.slice (some ⟨b, off + k, none⟩) j (mc - k)) (show w3.cell? ⟨g, v, none⟩ = some (.slice D 0 dc) from ch)
    have PS := hid (show Seg (w3.setCell ⟨g, v, none⟩ (.slice (some ⟨b, off + k, none⟩) j (mc - k))) (w3.setCell ⟨g, v, none⟩ (.slice (some ⟨b, off + k, none⟩) j (mc - k))).heap.size (some ⟨b, off + k, none⟩) j ys from by
     have q := cut.out.put (p := ⟨g, v, none⟩) (Nat.le_refl _) (.slice (some ⟨b, off + k, none⟩) j (mc - k))
     rw [← HSUB.out] at q
     exact q.more (by have := P.out.lt; omega))
    clear HM HB hno
    go_wp2_with fail
    refine (implSame _ _ j j _ _ ys ys _ PS.out PS.out hj60 hj60).mono ?_
    rintro e w5 ⟨rfl, d, rfl⟩
    rw [decide_eq_true (show ys = ys from rfl)]
    have F : AnsTake w g A n c (some ⟨b, off, none⟩) m mc sg t k s (-1 - (v : Int)) (.returned (.bool true)) ((w3.setCell ⟨g, v, none⟩ (.slice (some ⟨b, off + k, none⟩) j (mc - k))).drewN d) :=
     ⟨BP.out.trans (btw_drewN _ _ _ d), .inl ⟨k + j, s.set v ys, rfl, P.out.drewN d, .inr ⟨by omega, by rw [HYS.out, HSL.out]⟩, fun r => by rw [R.out r, HVR.out, HYS.out, HSL.out]⟩⟩
    have HF := hid F
    clear F R P BP ce PS cut
    go_wp2
    go_ret
    exact HF.out
   ·have hdz : ((dn : Int) == 0) = false := by simp; omega
    have hwg := hid (show g ≤ w3.heap.size by have := HM.out.lt; omega)
    have PS := hid (show Seg w3 w3.heap.size (some ⟨b, off + k, none⟩) j ys from by
     have q := cut.out
     rw [← HSUB.out] at q
     exact q.more hwg.out)
    have PO := hid (show Seg w3 w3.heap.size D dn os from HSH.out.more hwg.out)
    by_cases hoy : os = ys
    ·have hno : ¬ ((s.getD (vr (-1 - (v : Int))) []).length ≠ 0 ∧ s.getD (vr (-1 - (v : Int))) [] ≠ subL sg t k) := by
      rw [HVR.out, HOS.out, HYS.out]
      exact fun e => e.2 hoy
     have R := hid (fun r => mst_var (sg := sg) (r := r) HKT.out (show ¬ 0 ≤ -1 - (v : Int) by omega) hno)
     have SS := hid (show s.set v ys = s from set_same (HOS.out.trans hoy) (by rw [HM.out.len]; exact hv24))
     have DS := hid (decide_eq_true hoy)
     clear cut hno hoy
     go_wp2_with fail
     refine (implSame _ _ dn j _ _ os ys _ PO.out PS.out hdn hj60).mono ?_
     rintro e w5 ⟨rfl, d, rfl⟩
     rw [DS.out]
     have F : AnsTake w g A n c (some ⟨b, off, none⟩) m mc sg t k s (-1 - (v : Int)) (.returned (.bool true)) (w3.drewN d) :=
      ⟨HB.out.trans (btw_drewN _ _ _ d), .inl ⟨k + j, s, rfl, HM.out.drewN d, .inr ⟨by omega, by rw [HYS.out, HSL.out]⟩, fun r => by rw [R.out r, HVR.out, HYS.out, HSL.out, SS.out]⟩⟩
     have HF := hid F
     clear F R SS DS PS PO HM HB
     go_wp2
     go_ret
     exact HF.out
    ·have hyes : (s.getD (vr (-1 - (v : Int))) []).length ≠ 0 ∧ s.getD (vr (-1 - (v : Int))) [] ≠ subL sg t k := by
      rw [HVR.out, HOS.out, HYS.out]
      exact ⟨by rw [HSH.out.1]; exact hd0, hoy⟩
     have R := hid (fun r => mst_varNo (sg := sg) (r := r) HKT.out (show ¬ 0 ≤ -1 - (v : Int) by omega) hyes)
     have DS := hid (decide_eq_false hoy)
     clear cut hyes hoy
     go_wp2_with fail
     refine (implSame _ _ dn j _ _ os ys _ PO.out PS.out hdn hj60).mono ?_
     rintro e w5 ⟨rfl, d, rfl⟩
     rw [DS.out]
     have F : AnsTake w g A n c (some ⟨b, off, none⟩) m mc sg t k s (-1 - (v : Int)) (.returned (.bool false)) (w3.drewN d) :=
      ⟨HB.out.trans (btw_drewN _ _ _ d), .inr ⟨rfl, R.out⟩⟩
     have HF := hid F
     clear F R DS PS PO HM HB
     go_wp2
     go_ret
     exact HF.out
end take
end
section
open Go.Lib (hid)
namespace extended
open Go.RowKit base ints sig same term termOk endAt marks app sym sub segs termFacts termMath posMath cursor matchMath matchSpec whole takeMath take segsHelp kinds plainMath plain plainOf gives Go.Proofs.Ytgfgaeagbipobaa.look fillMath
set_option maxRecDepth 100000
def AnsExt (w : World) (R : Option (List (List Int))) (e : Ending) (w' : World) : Prop :=
 ∃ cs, e = .returned (.tuple #[.agg cs, .bool R.isSome]) ∧ TabR w' w.heap.size cs (R.getD s0) ∧ (∀ j, ((R.getD s0).getD j []).length ≤ 60) ∧ Below w.heap.size w w'
def HeadX (w : World) (A : Option Addr) (n c : Nat) (Q : Option Addr) (m mc : Nat) (sg t : List Int) (P : Option Addr) (pn : Nat) (p : List Int) (R : Option (List (List Int))) (i : Value) (wr : World) : Prop :=
 ∃ (j k : Nat) (s : List (List Int)), i = .int .i64 j ∧ j ≤ pn ∧ Tk wr w.heap.size A n c Q m mc sg t k s ∧ Row wr (w.heap.size + 1 + 1) 52 z24 ∧ Seg wr w.heap.size P pn p ∧ Below w.heap.size w wr ∧ Sync sg p t j k ∧ mst sg t (p.drop j) k s = R
theorem seg_btw {w w' : World} {lo hi : Nat} {A : Option Addr} {n : Nat} {xs : List Int} (h : Seg w lo A n xs) (hb : Btw lo hi w w') (hl : lo ≤ w.heap.size) : Seg w' lo A n xs :=
 h.keep fun p hp => World.cell?_of_block (hb.block p.block (by omega) (.inl hp))
set_option maxHeartbeats 1000000 in
theorem extended (A P Q : Option Addr) (n c pn pc m mc : Nat) (sg p t : List Int) (at_ : Nat) (cs : Array Value) (s : List (List Int)) (w : World) (h : Seg w w.heap.size A n sg) (hp : Seg w w.heap.size P pn p) (ht : Seg w w.heap.size Q m t)
  (hn : n ≤ 1048576) (hpn : pn ≤ 60) (hm : m ≤ 60) (hmc : m ≤ mc) (hmc2 : mc ≤ 9223372036854775807) (hat : at_ < m) (hokp : termOkB sg p = true) (hokt : termOkB sg t = true) (htab : TabR w w.heap.size cs s) (hs : ∀ j, (s.getD j []).length ≤ m) :
  Calls Try.prog 36 #[.agg cs, .slice P pn pc, .agg #[.slice A n c, .slice Q m mc, .int .i64 (at_ : Int)]] w (AnsExt w (mst sg t p at_ s)) := by
 obtain ⟨W, hW⟩ : ∃ W, W = ((w.alloc (.cells cs 52)).alloc (.cells #[.slice A n c, .slice Q m mc, .int .i64 (at_ : Int)] 56)).alloc (.cells z24 52) := ⟨_, rfl⟩
 have b0 : Below w.heap.size w W := by rw [hW]; exact (((Below.refl _ _).alloc (Nat.le_refl _) _).alloc (by simp) _).alloc (by simp; omega) _
 have r0 : Row W w.heap.size 52 cs := by rw [hW]; exact ((Row.new w _ _).alloc _).alloc _
 have r1 : Row W (w.heap.size + 1) 56 #[.slice A n c, .slice Q m mc, .int .i64 (at_ : Int)] := by
  rw [hW]
  have := (Row.new (w.alloc (.cells cs 52)) 56 #[.slice A n c, .slice Q m mc, .int .i64 (at_ : Int)]).alloc (.cells z24 52)
  simpa using this
 have r2 : Row W (w.heap.size + 1 + 1) 52 z24 := by
  rw [hW]
  have := Row.new ((w.alloc (.cells cs 52)).alloc (.cells #[.slice A n c, .slice Q m mc, .int .i64 (at_ : Int)] 56)) 52 z24
  simpa using this
 have HX : HeadX w A n c Q m mc sg t P pn p (mst sg t p at_ s) (.int .i64 0) W :=
  ⟨0, at_, s, rfl, Nat.zero_le _, ⟨r1, ⟨cs, r0, htab.below b0⟩, h.below b0, ht.below b0, Nat.le_of_lt hat, hn, by omega, (sig_arities (termOk_parts hokt).1).1, hs⟩, r2, hp.below b0, b0, Sync.start hokp hokt (by rw [ht.1]; exact hat), by rw [List.drop_zero]⟩
 have HH := hid HX
 have HW := hid hW
 have HT := hid hokt
 have HL := hid ht.1
 have HPL := hid hp.1
 have HPM : Hid (∀ i, i < pn → -24 ≤ p.getD i 0) := hid (fun i hi => (term_num hokp (by rw [hp.1]; exact hi)).1)
 generalize mst sg t p at_ s = R at *
 clear hW HX r0 r1 r2 b0 htab hs hokt hokp h hp ht
 go_enter Try.func36, Try.ntmps36
 go_wp2_with (first
  | (refine rowBox rfl 52 _ rfl cs rfl ?_)
  | (refine rowAlloc rfl 52 rfl z24 zero_b ?_))
 rw [← HW.out]
 go_loopw [12] (fun i wr => HeadX w A n c Q m mc sg t P pn p R i wr) (fun i _ => pn - (intOf i).toNat)
 case atStart => exact HH.out
 case round =>
  obtain ⟨j, k, s, rfl, hj, M, r2, sp, hb, hsy, hm1⟩ := hrel
  clear HH
  have HM1 := hid hm1
  have HSY := hid hsy
  clear hm1 hsy
  by_cases hlt : j < pn
  ·obtain ⟨bp, op, x, rfl, hbp, hx, ex⟩ := sp.spot hlt
   have hx24 : -24 ≤ x := by rw [← ex.out]; exact HPM.out j hlt
   have hkm : k < m := by have := HSY.out.lt (by rw [HPL.out]; exact hlt); rw [HL.out] at this; exact this
   have HD := hid (show p.drop j = x :: p.drop (j + 1) by rw [drop_cons (by rw [HPL.out]; exact hlt), ex.out])
   have LT := hid (take w.heap.size A Q n c m mc sg t k s x wr M hkm hmc hmc2 hx24 HT.out)
   have gl := M.lt
   have HR := hid r2
   have HB := hid hb
   have HP := hid sp
   clear M r2 hb sp
   go_wp2_with fail
   refine LT.out.mono ?_
   rintro e w2 ⟨bb, ⟨k', s', rfl, M, hmv, hr⟩ | ⟨rfl, hr⟩⟩
   ·have hsync : Sync sg p t (j + 1) k' := by
     rcases hmv with ⟨h0, h1, rfl⟩ | ⟨h0, rfl⟩
     ·exact HSY.out.sym (by rw [HPL.out]; exact hlt) ex.out h1
     ·exact HSY.out.var (by rw [HPL.out]; exact hlt) ex.out hx24 h0 HT.out
    have S : HeadX w A n c Q m mc sg t (some ⟨bp, op, none⟩) pn p R (.int .i64 ((j : Int) + 1)) w2 :=
     ⟨j + 1, k', s', by simp, hlt, M, segs.Row.btw HR.out bb (.inr (Nat.le_refl _)), seg_btw HP.out bb (by omega), Below.btw HB.out bb (Nat.le_refl _) (by omega), hsync, by rw [← hr, ← HD.out]; exact HM1.out⟩
    have HS := hid S
    clear S M hsync hmv hr bb HR HP HB LT ex HD hx
    go_wp2
    go_roundw
    case rel => exact HS.out
    case measure => simp [intOf]; omega
   ·have hR : R = none := by rw [← HM1.out, HD.out]; exact hr _
    have r2 := segs.Row.btw HR.out bb (.inr (Nat.le_refl _))
    have b2 := Below.btw HB.out bb (Nat.le_refl _) (by omega)
    have hz := r2
    unfold Row at hz
    have r3 := Row.setRow r2 z24
    have F : AnsExt w R (.returned (.tuple #[.agg z24, .bool false])) (w2.setRow (w.heap.size + 1 + 1) z24) :=
     ⟨z24, by rw [hR]; rfl, by rw [hR]; exact TabR.new _ _, fun i => by rw [hR]; simp only [Option.getD_none]; rw [s0_get]; simp, Below.btw b2 (Btw.of_grown (lo := w.heap.size) (hi := w.heap.size + 1 + 1 + 1) (grown_setRow w2 (w.heap.size + 1 + 1) z24) (fun k e => by injection e; omega)) (Nat.le_refl _) b2.size⟩
    have HF := hid F
    have H3 := hid r3
    have HZ := hid hz
    clear F r3 r2 b2 hz hr bb HR HP HB LT ex HD hx hR
    go_wp2_with (first
     | (refine rowBuild rfl 52 rfl z24 built_b ?_)
     | (refine rowStore rfl 52 _ _ rfl (w.heap.size + 1 + 1) z24 z24 52 rfl rfl HZ.out (by rw [z24_size]; exact size_b) rfl z24_one ?_))
    (try simp only [Exit.inBlock, Exit.then])
    refine bodyPost_ret (v := .tuple #[.agg z24, .bool false]) ?_ rfl HF.out
    exact results_row_tmp Try.results36 _ (w.heap.size + 1 + 1) 52 z24 _ rfl H3.out Try.underlying52 rfl (by rw [z24_size]; exact size_b)
  ·have hjp : j = pn := by omega
   have hR : R = some s := by rw [← HM1.out, hjp, List.drop_eq_nil_of_le (by rw [HPL.out]; exact Nat.le_refl _)]; rfl
   obtain ⟨cs', h1, h2⟩ := M.tab
   have hz1 := h1
   have hz2 := r2
   unfold Row at hz1 hz2
   have r3 := Row.setRow r2 cs'
   have hl := M.lt
   have F : AnsExt w R (.returned (.tuple #[.agg cs', .bool true])) (wr.setRow (w.heap.size + 1 + 1) cs') :=
    ⟨cs', by rw [hR]; rfl, by rw [hR]; exact h2.keep (keep_of (grown_setRow wr (w.heap.size + 1 + 1) cs') (by omega) (fun k e => by injection e; omega)), by rw [hR]; exact fun j => Nat.le_trans (M.hs j) hm,
     Below.btw hb (Btw.of_grown (lo := w.heap.size) (hi := w.heap.size + 1 + 1 + 1) (grown_setRow wr (w.heap.size + 1 + 1) cs') (fun k e => by injection e; omega)) (Nat.le_refl _) hb.size⟩
   have HF := hid F
   have H3 := hid r3
   have HZ1 := hid hz1
   have HZ2 := hid hz2
   have HSZ := hid h2.1
   have HON := hid h2.one
   clear F r3 r2 hz1 hz2 h1 h2 hR M sp hb hjp
   go_wp2_with (first
    | (refine wpList_load_row rfl 52 _ rfl w.heap.size rfl 52 cs' (0, 0) _ HZ1.out Try.underlying52 rfl (by rw [HSZ.out]; exact size_b) ?_)
    | (refine rowStore rfl 52 _ _ rfl (w.heap.size + 1 + 1) cs' z24 52 rfl rfl HZ2.out (by rw [HSZ.out]; exact size_b) (by rw [HSZ.out]; rfl) HON.out ?_))
   (try simp only [Exit.inBlock, Exit.then])
   refine bodyPost_ret (v := .tuple #[.agg cs', .bool true]) ?_ rfl HF.out
   exact results_row_tmp Try.results36 _ (w.heap.size + 1 + 1) 52 cs' _ rfl H3.out Try.underlying52 rfl (by rw [HSZ.out]; exact size_b)
set_option maxHeartbeats 1000000 in
theorem lookX (cs : Array Value) (s : List (List Int)) (w : World) (htab : TabR w w.heap.size cs s) :
  Calls Try.prog 78 #[.agg cs] w fun e w' => ∃ g, e = .returned (.func (.func 86) #[] #[.pointer (some ⟨g, 0, none⟩)]) ∧ Row w' g 31 #[.slice (some ⟨w.heap.size, 0, none⟩) 24 24] ∧ Segs w' w'.heap.size (some ⟨w.heap.size, 0, none⟩) 24 s ∧ Below w.heap.size w w' ∧ w.heap.size ≤ g := by
 obtain ⟨W, hW⟩ : ∃ W, W = w.alloc (.cells cs 52) := ⟨_, rfl⟩
 have b0 : Below w.heap.size w W := by rw [hW]; exact (Below.refl _ _).alloc (Nat.le_refl _) _
 have r0 : Row W w.heap.size 52 cs := by rw [hW]; exact Row.new w _ _
 have s1 : Segs W W.heap.size (some ⟨w.heap.size, 0, none⟩) 24 s := (htab.below b0).segs r0 b0.size
 have HW := hid hW
 clear hW htab r0
 go_enter Try.func78, Try.ntmps78
 go_wp2_with (first
  | (refine rowBox rfl 52 _ rfl cs rfl ?_))
 rw [← HW.out]
 refine (lookupIn (some ⟨w.heap.size, 0, none⟩) 24 24 W).mono ?_
 rintro e w3 ⟨rfl, hw3⟩
 have b3 : Below W.heap.size W w3 := by rw [hw3]; exact (Below.refl _ _).alloc (Nat.le_refl _) _
 have r3 : Row w3 W.heap.size 31 #[.slice (some ⟨w.heap.size, 0, none⟩) 24 24] := by rw [hw3]; exact Row.new _ _ _
 have F := hid (show ∃ g, Ending.returned (.func (.func 86) #[] #[.pointer (some ⟨W.heap.size, 0, none⟩)]) = .returned (.func (.func 86) #[] #[.pointer (some ⟨g, 0, none⟩)]) ∧ Row w3 g 31 #[.slice (some ⟨w.heap.size, 0, none⟩) 24 24] ∧ Segs w3 w3.heap.size (some ⟨w.heap.size, 0, none⟩) 24 s ∧ Below w.heap.size w w3 ∧ w.heap.size ≤ g from ⟨_, rfl, r3, s1.next b3, next_trans b0 b3, b0.size⟩)
 clear hw3 b3 r3 s1 b0
 go_wp2
 go_ret
 exact F.out
set_option maxHeartbeats 1000000 in
theorem plainB (cs : Array Value) (s : List (List Int)) (w : World) (htab : TabR w w.heap.size cs s) (hs : ∀ j, (s.getD j []).length ≤ 60) :
  Calls Try.prog 37 #[.agg cs] w (AnsSubst w (plainL (givesL s) 24)) := by
 obtain ⟨W, hW⟩ : ∃ W, W = (w.alloc (.cells cs 52)).alloc (.cells #[.slice none 0 0] 31) := ⟨_, rfl⟩
 have b0 : Below w.heap.size w W := by rw [hW]; exact ((Below.refl _ _).alloc (Nat.le_refl _) _).alloc (by simp) _
 have r0 : Row W w.heap.size 52 cs := by rw [hW]; exact (Row.new w _ _).alloc _
 have r1 : Row W (w.heap.size + 1) 31 #[.slice none 0 0] := by
  rw [hW]
  have := Row.new (w.alloc (.cells cs 52)) 31 #[.slice none 0 0]
  simpa using this
 have hz := r0
 unfold Row at hz
 rw [hW] at hz
 have HZ := hid hz
 clear hz
 have HSZ := hid htab.1
 have HW := hid hW
 have LK := hid (lookX cs s W (htab.below b0 |>.more b0.size))
 have HG := hid (show ∀ i, (givesL s i).length ≤ 60 from fun i => by
  unfold givesL
  split
  ·simp [vt]
  ·exact hs i)
 clear hW htab hs r0
 go_enter Try.func37, Try.ntmps37
 go_wp2_with (first
  | (refine rowBox rfl 52 _ rfl cs rfl ?_)
  | (refine wpList_load_row rfl 52 _ rfl w.heap.size rfl 52 cs (0, 0) _ HZ.out Try.underlying52 rfl (by rw [HSZ.out]; exact size_b) ?_))
 rw [← HW.out]
 refine LK.out.mono ?_
 rintro e w3 ⟨g, rfl, r3, s1, b3, hg⟩
 replace b0 := next_trans b0 b3
 replace r1 := r1.next b3
 have L3 := hid (plain 86 #[.pointer (some ⟨g, 0, none⟩)] (enters_of Try.func86 (by kernel_rfl) rfl) (givesL s) w3 (lookSubst g (some ⟨W.heap.size, 0, none⟩) 24 24 s w3 r3 s1 (by omega)) (gives_pos s) (fun i => Nat.le_trans (HG.out i) (by omega)))
 clear b3 r3 s1 hg LK
 go_wp2_with fail
 refine L3.out.mono ?_
 rintro e w4 ⟨O, on, oc, rfl, ho, b4⟩
 have z1 := r1.lt
 have z0 := b0.size
 replace r1 := r1.next b4
 replace b0 := next_trans b0 b4
 have cR : w4.cell? ⟨w.heap.size + 1, 0, none⟩ = some (.slice none 0 0) := r1.cell 0
 have fR : w4.frozen? ⟨w.heap.size + 1, 0, none⟩ = false := r1.free 0
 have F : AnsSubst w (plainL (givesL s) 24) (.returned (.agg #[.slice O on oc])) (w4.setCell ⟨w.heap.size + 1, 0, none⟩ (.slice O on oc)) :=
  ⟨O, on, oc, rfl, (owns_put ho r1 (by omega) 0 _).wider z0 (by simp), b0.setCell (p := ⟨w.heap.size + 1, 0, none⟩) (show w.heap.size ≤ w.heap.size + 1 by omega) _⟩
 have HF := hid F
 clear F ho r1 b0 b4 L3
 go_wp2
 exact bodyPost_ret (v := .agg #[.slice O on oc]) (by simp [results, Try.results37, go_sem, cR]) rfl HF.out
end extended
end
section
namespace pathSpec
open Go.RowKit base ints sig term arity endOf cursor termOk endAt inside marks app appAt sym args posMath
set_option maxRecDepth 100000
def PathIs (sg t : List Int) (x : Int) (pa : List Int) : Prop := (thereB sg t x = true ∧ ∃ ab, Trail sg t x.toNat 0 ab pa) ∨ (thereB sg t x = false ∧ pa = [])
theorem PathIs.one {sg t : List Int} {x : Int} {pa pa' : List Int} (h : PathIs sg t x pa) (h' : PathIs sg t x pa') : pa = pa' := by
 rcases h with ⟨e, ab, hw⟩ | ⟨e, rfl⟩ <;> rcases h' with ⟨e', ab', hw'⟩ | ⟨e', rfl⟩
 ·exact (hw.one hw').2
 ·rw [e] at e'; cases e'
 ·rw [e] at e'; cases e'
 ·rfl
theorem PathIs.len {sg t : List Int} {x : Int} {pa : List Int} (h : PathIs sg t x pa) : pa.length ≤ 60 := by
 rcases h with ⟨e, ab, hw⟩ | ⟨e, rfl⟩
 ·obtain ⟨hok, h0, h1⟩ := there_parts e
  have := hw.le
  have := (termOk_parts hok).2.1
  omega
 ·simp
theorem list_of {w w' : World} {xs ys : List Int} {A : Option Addr} {n c base : Nat} (e : ys = xs) (ho : Own w' base (.slice A n c) xs) (hB : w.heap.size ≤ base) (hb : Below w.heap.size w w') : AnsList w ys (.returned (.slice A n c)) w' :=
 ⟨A, n, c, rfl, by rw [e]; exact Own.lower ho hB, hb⟩
theorem Trail.split {sg t : List Int} {a q : Nat} {ab pa : List Int} (h : Trail sg t a q ab pa) (hne : q ≠ a) : ∃ (k : Nat) (ab' pa' : List Int), ab = (q : Int) :: ab' ∧ pa = (k : Int) :: pa' ∧ q < a ∧ k < arN sg t q ∧ argP sg t k (q + 1) ≤ a ∧ a < argP sg t k (q + 1) + len1 sg t (argP sg t k (q + 1)) ∧ q < argP sg t k (q + 1) ∧ Trail sg t a (argP sg t k (q + 1)) ab' pa' := by
 cases h with
 | here => exact absurd rfl hne
 | @down _ k ab' pa' h1 h2 h3 h4 h5 h6 hw => exact ⟨k, ab', pa', rfl, rfl, h1, h2, h3, h4, h5, hw⟩
end pathSpec
end
section
open Go.Lib (hid)
namespace matchList
open Go.RowKit base ints sig term termOk endAt inside marks app sym sub segs segsHelp termFacts termMath posMath pathSpec matchMath matchSpec
set_option maxRecDepth 100000
theorem keep_alloc {w : World} {a : Addr} {v : Value} {o : Obj} (h : w.cell? a = some v) : (w.alloc o).cell? a = some v := (World.cell?_alloc_some w a o (by rw [h]; rfl)).trans h
def embN (sg p t : List Int) : Nat → List Int
 | 0 => []
 | k + 1 => embN sg p t k ++ (if instB sg p (subL sg t k) = true then [(k : Int)] else [])
theorem emb_len {sg p t : List Int} : ∀ k, (embN sg p t k).length ≤ k
 | 0 => by simp [embN]
 | k + 1 => by
  have := emb_len (sg := sg) (p := p) (t := t) k
  simp only [embN, List.length_append]
  split <;> simp <;> omega
def embI (sg p t : List Int) : List Int := if (termOkB sg p && termOkB sg t) = true then embN sg p t t.length else []
theorem emb_no {sg p t : List Int} (h : termOkB sg p = false ∨ termOkB sg t = false) : embI sg p t = [] := by
 unfold embI
 rw [if_neg]
 rcases h with h | h <;> rw [h] <;> simp
theorem emb_yes {sg p t : List Int} (h1 : termOkB sg p = true) (h2 : termOkB sg t = true) : embI sg p t = embN sg p t t.length := by unfold embI; rw [if_pos (by rw [h1, h2]; rfl)]
def HeadE (w : World) (A : Option Addr) (n c : Nat) (sg : List Int) (P : Option Addr) (pn : Nat) (p : List Int) (Q : Option Addr) (m : Nat) (t : List Int) (g : Nat) (out k : Value) (wr : World) : Prop :=
 ∃ (i : Nat) (O : Option Addr) (on oc : Nat), k = .int .i64 i ∧ i + g = m ∧ out = .slice O on oc ∧ Own wr (w.heap.size + 1) (.slice O on oc) (embN sg p t i) ∧ Fr w wr A n c sg Q m t ∧ Seg wr w.heap.size P pn p
set_option maxHeartbeats 1000000 in
theorem specEmbedsIn (A P Q : Option Addr) (n c pn pc m mc : Nat) (sg p t : List Int) (w : World) (h : Seg w w.heap.size A n sg) (hp : Seg w w.heap.size P pn p) (ht : Seg w w.heap.size Q m t) (hn : n ≤ 1048576) (hpn : pn ≤ 1048576) (hm : m ≤ 1048576) (hmc : m ≤ mc) (hmc2 : mc ≤ 9223372036854775807) :
  Calls Try.prog 24 #[.agg #[.slice A n c], .slice P pn pc, .slice Q m mc] w (AnsList w (embI sg p t)) := by
 obtain ⟨W, hW⟩ : ∃ W, W = (w.alloc (.cells #[.slice A n c] 26)).alloc (.cells #[] 2) := ⟨_, rfl⟩
 have f : Fr w W A n c sg Q m t := by rw [hW]; exact (Fr.start h ht).alloc _
 have sp : Seg W w.heap.size P pn p := hp.below f.b
 have ow : Own W (w.heap.size + 1) (.slice (some ⟨w.heap.size + 1, 0, none⟩) 0 0) [] := by
  rw [hW]
  have := own_empty (w.alloc (.cells #[.slice A n c] 26)) (w.heap.size + 1) (by simp)
  simpa using this
 have HW := hid hW
 have HL := hid ht.1
 have cA := f.cell
 have cA0 : ((w.alloc (.cells #[.slice A n c] 26)).alloc (.cells #[] 2)).cell? ⟨w.heap.size, 0, none⟩ = some (.slice A n c) := by rw [← hW]; exact cA
 have LP := hid (specTermOk A P n c pn pc sg p W f.s1 (sp.more (Nat.le_of_lt f.size)) hn hpn)
 clear hW h hp ht
 cases hokp : termOkB sg p with
 | false =>
  have HS := hid hokp
  have HF := hid (emb_no (t := t) (.inl hokp))
  clear hokp
  go_enter Try.func24, Try.ntmps24
  go_wp2_with fail
  rw [← HW.out]
  refine LP.out.mono ?_
  rintro e w1 ⟨he, bb⟩
  rw [HS.out] at he
  subst he
  have F := hid (list_of (w := w) HF.out (Own.next ow bb) (Nat.le_succ _) (f.next bb).b)
  clear f sp ow bb LP cA cA0
  go_wp2
  go_ret
  exact F.out
 | true =>
  have HSP := hid hokp
  have hp60 : pn ≤ 60 := by have h1 := (termOk_parts hokp).2.1; rw [sp.1] at h1; exact h1
  cases hokt : termOkB sg t with
  | false =>
   have HS := hid hokt
   have HF := hid (emb_no (p := p) (.inr hokt))
   clear hokp hokt
   go_enter Try.func24, Try.ntmps24
   go_wp2_with fail
   rw [← HW.out]
   refine LP.out.mono ?_
   rintro e w1 ⟨he, bb⟩
   rw [HSP.out] at he
   subst he
   replace f := f.next bb
   replace ow := Own.next ow bb
   clear bb LP cA cA0
   have cA := f.cell
   go_wp2_with fail
   refine (specTermOk A Q n c m mc sg t _ f.s1 f.t1 hn hm).mono ?_
   rintro e w2 ⟨he, bb⟩
   rw [HS.out] at he
   subst he
   have F := hid (list_of (w := w) HF.out (Own.next ow bb) (Nat.le_succ _) (f.next bb).b)
   clear f sp ow bb cA
   go_wp2
   go_ret
   exact F.out
  | true =>
   have HST := hid hokt
   have hm60 : m ≤ 60 := by have h1 := (termOk_parts hokt).2.1; rw [HL.out] at h1; exact h1
   have hars := (sig_arities (termOk_parts hokt).1).1
   have HF := hid (show embI sg p t = embN sg p t m by rw [emb_yes hokp hokt, HL.out])
   clear hokp hokt
   go_enter Try.func24, Try.ntmps24
   go_wp2_with fail
   rw [← HW.out]
   refine LP.out.mono ?_
   rintro e w1 ⟨he, bb⟩
   rw [HSP.out] at he
   subst he
   have bz : Below w.heap.size W w1 := bb.mono (Nat.le_of_lt f.size)
   replace f := f.next bb
   replace sp := sp.below bz
   replace ow := Own.next ow bb
   clear bb bz LP cA cA0
   have cA := f.cell
   go_wp2_with fail
   refine (specTermOk A Q n c m mc sg t _ f.s1 f.t1 hn hm).mono ?_
   rintro e w2 ⟨he, bb⟩
   rw [HST.out] at he
   subst he
   have bz : Below w.heap.size w1 w2 := bb.mono (Nat.le_of_lt f.size)
   have S0 : HeadE w A n c sg P pn p Q m t m (.slice (some ⟨w.heap.size + 1, 0, none⟩) 0 0) (.int .i64 0) w2 := ⟨0, _, 0, 0, rfl, by omega, rfl, Own.next ow bb, f.next bb, sp.below bz⟩
   have HS0 := hid S0
   clear S0 f sp ow bb bz cA
   go_wp2_with fail
   go_loopg [7, 8] m (fun g out k wr => HeadE w A n c sg P pn p Q m t g out k wr)
   case atStart => exact HS0.out
   case round =>
    obtain ⟨i, O, on, oc, rfl, hi, rfl, ho, f, sp⟩ := hrel
    clear HS0
    have HI := hid hi
    clear hi
    have hon : on ≤ 60 := by have h1 := Own.len ho; have h2 := emb_len (sg := sg) (p := p) (t := t) i; have := HI.out; omega
    by_cases him : i < m
    ·obtain ⟨t1, t2, t3⟩ := term_at HST.out (show i < t.length by rw [HL.out]; exact him)
     rw [HL.out] at t3
     have T1 := hid t1
     have hsub := sub_term HST.out (show i < t.length by rw [HL.out]; exact him)
     have HSU := hid hsub.1
     have hsl : (subL sg t i).length ≤ 60 := (termOk_parts hsub.1).2.1
     obtain ⟨ys, hys⟩ : ∃ ys, subL sg t i = ys := ⟨_, rfl⟩
     rw [hys] at HSU hsl
     have HYS := hid hys
     obtain ⟨bi, hbi⟩ : ∃ b, instB sg p ys = b := ⟨_, rfl⟩
     have HBI := hid (show (mst sg ys p 0 s0).isSome = bi by rw [← hbi]; unfold instB; rw [match_yes HSP.out HSU.out])
     have HE := hid (show embN sg p t (i + 1) = embN sg p t i ++ (if bi = true then [(i : Int)] else []) by simp only [embN]; rw [hys, hbi])
     have hgk := hid (show gk - 1 < gk ∧ i + 1 + (gk - 1) = m by have := HI.out; omega)
     have f0 := f
     have z0 := f0.size
     have cAw := f0.cell
     have zn0 : ¬ wr.heap.size = w.heap.size := Nat.ne_of_gt f0.size
     have zm0 : ¬ w.heap.size = wr.heap.size := Nat.ne_of_lt f0.size
     replace f := f.drew
     have sp0 := sp
     have ho0 := ho
     replace ho := Own.drew ho
     replace sp := sp.drew
     have cA := f.cell
     clear hsub hys hbi t1
     go_wp2_with fail
     go_region_held3 (fun w' => w'.cell? ⟨w.heap.size, 0, none⟩ = some (.slice A n c))
      (first | assumption | ((try simp only [World.cell?_drew]); (repeat (apply keep_alloc)); assumption) | go_keep)
      (first
       | (go_at_call 66; refine (l1Sub A Q n c m mc sg t i (len1 sg t i) _ ?_ ?_ hn hm hmc hmc2 hars him T1.out t2 t3).mono ?_; (first | exact f.s1 | exact (Fr.drew (f0.alloc _)).s1 | exact (f.alloc _).s1); (first | exact f.t1 | exact (Fr.drew (f0.alloc _)).t1 | exact (f.alloc _).t1); rintro e w3 ⟨D, dn, dc, rfl, od, b3⟩; rw [HYS.out] at od; (first | have f3 := f.next b3 | have f3 := (Fr.drew (f0.alloc _)).next b3 | have f3 := (f.alloc _).next b3); have z3 := f3.size; have zn3 : ¬ w3.heap.size = w.heap.size := Nat.ne_of_gt f3.size; have zm3 : ¬ w.heap.size = w3.heap.size := Nat.ne_of_lt f3.size; have cA3 : w3.cell? ⟨w.heap.size, 0, none⟩ = some (.slice A n c) := f3.cell; have hdn : dn ≤ 60 := Nat.le_trans (Nat.le_of_eq (Own.len od)) hsl; have hcd := look.own_cap od; (first | have r8 := Row.next (Row.drew (Row.new wr 31 #[.slice none 0 0])) b3 | have r8 := Row.next (Row.new wr.drew 31 #[.slice none 0 0]) b3 | skip); (first | have sp3 := (sp.below (b3.mono (Nat.le_of_lt f.size))) | have sp3 := (((sp0.alloc (Nat.le_of_lt f0.size) _).drew).below (b3.mono (Nat.le_of_lt (Fr.drew (f0.alloc _)).size))) | have sp3 := ((sp.alloc (Nat.le_of_lt f.size) _).below (b3.mono (Nat.le_of_lt (f.alloc _).size)))))
       | (go_at_call 38; refine (l4Match A P D n c pn pc dn dc sg p ys _ ?_ ?_ ?_ hn hp60 hdn hcd.1 hcd.2.1 HSP.out HSU.out).mono ?_; (first | exact f3.s1 | exact (f3.alloc _).s1); (first | exact sp3.more (Nat.le_of_lt f3.size) | exact (sp3.alloc (Nat.le_of_lt f3.size) _).more (Nat.le_of_lt (f3.alloc _).size)); (first | exact Own.seg od | exact Own.seg (Own.alloc od _)); rintro e w4 ⟨G, gn, gc, rfl, og, b4⟩; rw [HBI.out]; (first | have f4 := f3.next b4 | have f4 := (f3.alloc _).next b4); have z4 := f4.size; have zn4 : ¬ w4.heap.size = w.heap.size := Nat.ne_of_gt f4.size; have zm4 : ¬ w.heap.size = w4.heap.size := Nat.ne_of_lt f4.size; (first | have r9 := Row.next r8 b4 | have r9 := Row.next (Row.new w3 31 #[.slice none 0 0]) b4 | skip); (first | (have c9 : _ = some (Value.slice none 0 0) := r9.cell 0; have f9 := r9.free 0) | skip); have cA4 : w4.cell? ⟨w.heap.size, 0, none⟩ = some (.slice A n c) := f4.cell))
     ·have HB : Below wr.drew.heap.size wr.drew (w4.alloc (.cells #[.slice G gn gc] 31)) := (next_trans b3 b4).alloc (next_trans b3 b4).size _
      generalize hw5 : w4.alloc _ = w5 at *
      have S5 := hid (show Own w5 (w.heap.size + 1) (.slice O on oc) (embN sg p t i) ∧ Fr w w5 A n c sg Q m t ∧ Seg w5 w.heap.size P pn p from ⟨Own.next ho HB, f.next HB, sp.below (HB.mono (Nat.le_of_lt f.size))⟩)
      clear f f0 f3 f4 sp sp0 sp3 ho ho0 od og b3 b4 cA cA3 cA4 cAw hcd HB
      generalize w5 = w6 at *
      obtain ⟨ho, f, sp⟩ := S5.out
      clear S5
      have z1 : w.heap.size + 1 ≤ w6.heap.size := f.size
      cases bi with
      | false =>
       have S : HeadE w A n c sg P pn p Q m t (gk - 1) (.slice O on oc) (.int .i64 ((i : Int) + 1)) w6 := ⟨i + 1, O, on, oc, by simp, hgk.out.2, rfl, by rw [HE.out]; simpa using ho, f, sp⟩
       have HSS := hid S
       clear S ho f sp
       go_wp2
       go_roundg (gk - 1)
       case measure => exact hgk.out.1
       case rel => exact HSS.out
      | true =>
       go_wp2_with (at_builtin; refine app1 rfl _ _ rfl (w.heap.size + 1) O on oc _ rfl (Own.alloc ho _) w6.heap.size 1 (i : Int) rfl ((Row.new _ _ _).cell 0) (by omega) (by simp; omega) ?_; intro O' oc' w7 ho7 b7)
       have S : HeadE w A n c sg P pn p Q m t (gk - 1) (.slice O' (on + 1) oc') (.int .i64 ((i : Int) + 1)) w7 := ⟨i + 1, O', on + 1, oc', by simp, hgk.out.2, rfl, by rw [HE.out]; exact ho7, (f.alloc _).over b7, (sp.alloc (Nat.le_of_lt f.size) _).below (b7.mono (Nat.le_succ _))⟩
       have HSS := hid S
       clear S ho ho7 f sp b7
       go_wp2
       go_roundg (gk - 1)
       case measure => exact hgk.out.1
       case rel => exact HSS.out
     ·have HB : Below wr.drew.heap.size wr.drew (w4.setCell ⟨w3.heap.size, 0, none⟩ (.slice G gn gc)) := (next_trans b3 (((Below.refl _ _).alloc (Nat.le_refl _) (.cells #[.slice none 0 0] 31)).trans (b4.mono (by simp)))).setCell (p := ⟨w3.heap.size, 0, none⟩) b3.size _
      generalize hw5 : w4.setCell _ _ = w5 at *
      have S5 := hid (show Own w5 (w.heap.size + 1) (.slice O on oc) (embN sg p t i) ∧ Fr w w5 A n c sg Q m t ∧ Seg w5 w.heap.size P pn p from ⟨Own.next ho HB, f.next HB, sp.below (HB.mono (Nat.le_of_lt f.size))⟩)
      clear f f0 f3 f4 sp sp0 sp3 ho ho0 od og b3 b4 cA cA3 cA4 cAw hcd HB r9 c9 f9
      generalize w5 = w6 at *
      obtain ⟨ho, f, sp⟩ := S5.out
      clear S5
      have z1 : w.heap.size + 1 ≤ w6.heap.size := f.size
      cases bi with
      | false =>
       have S : HeadE w A n c sg P pn p Q m t (gk - 1) (.slice O on oc) (.int .i64 ((i : Int) + 1)) w6 := ⟨i + 1, O, on, oc, by simp, hgk.out.2, rfl, by rw [HE.out]; simpa using ho, f, sp⟩
       have HSS := hid S
       clear S ho f sp
       go_wp2
       go_roundg (gk - 1)
       case measure => exact hgk.out.1
       case rel => exact HSS.out
      | true =>
       go_wp2_with (at_builtin; refine app1 rfl _ _ rfl (w.heap.size + 1) O on oc _ rfl (Own.alloc ho _) w6.heap.size 1 (i : Int) rfl ((Row.new _ _ _).cell 0) (by omega) (by simp; omega) ?_; intro O' oc' w7 ho7 b7)
       have S : HeadE w A n c sg P pn p Q m t (gk - 1) (.slice O' (on + 1) oc') (.int .i64 ((i : Int) + 1)) w7 := ⟨i + 1, O', on + 1, oc', by simp, hgk.out.2, rfl, by rw [HE.out]; exact ho7, (f.alloc _).over b7, (sp.alloc (Nat.le_of_lt f.size) _).below (b7.mono (Nat.le_succ _))⟩
       have HSS := hid S
       clear S ho ho7 f sp b7
       go_wp2
       go_roundg (gk - 1)
       case measure => exact hgk.out.1
       case rel => exact HSS.out
     ·have HB : Below wr.heap.size wr (w4.setCell ⟨wr.heap.size, 0, none⟩ (.slice G gn gc)) := ((((Below.refl _ _).alloc (Nat.le_refl _) (.cells #[.slice none 0 0] 31)).drew).trans ((next_trans b3 b4).mono (by simp))).setCell (p := ⟨wr.heap.size, 0, none⟩) (Nat.le_refl _) _
      generalize hw5 : w4.setCell _ _ = w5 at *
      have S5 := hid (show Own w5 (w.heap.size + 1) (.slice O on oc) (embN sg p t i) ∧ Fr w w5 A n c sg Q m t ∧ Seg w5 w.heap.size P pn p from ⟨Own.next ho0 HB, f0.next HB, sp0.below (HB.mono (Nat.le_of_lt f0.size))⟩)
      clear f f0 f3 f4 sp sp0 sp3 ho ho0 od og b3 b4 cA cA3 cA4 cAw hcd HB r8 r9 c9 f9
      generalize w5 = w6 at *
      obtain ⟨ho, f, sp⟩ := S5.out
      clear S5
      have z1 : w.heap.size + 1 ≤ w6.heap.size := f.size
      cases bi with
      | false =>
       have S : HeadE w A n c sg P pn p Q m t (gk - 1) (.slice O on oc) (.int .i64 ((i : Int) + 1)) w6 := ⟨i + 1, O, on, oc, by simp, hgk.out.2, rfl, by rw [HE.out]; simpa using ho, f, sp⟩
       have HSS := hid S
       clear S ho f sp
       go_wp2
       go_roundg (gk - 1)
       case measure => exact hgk.out.1
       case rel => exact HSS.out
      | true =>
       go_wp2_with (at_builtin; refine app1 rfl _ _ rfl (w.heap.size + 1) O on oc _ rfl (Own.alloc ho _) w6.heap.size 1 (i : Int) rfl ((Row.new _ _ _).cell 0) (by omega) (by simp; omega) ?_; intro O' oc' w7 ho7 b7)
       have S : HeadE w A n c sg P pn p Q m t (gk - 1) (.slice O' (on + 1) oc') (.int .i64 ((i : Int) + 1)) w7 := ⟨i + 1, O', on + 1, oc', by simp, hgk.out.2, rfl, by rw [HE.out]; exact ho7, (f.alloc _).over b7, (sp.alloc (Nat.le_of_lt f.size) _).below (b7.mono (Nat.le_succ _))⟩
       have HSS := hid S
       clear S ho ho7 f sp b7
       go_wp2
       go_roundg (gk - 1)
       case measure => exact hgk.out.1
       case rel => exact HSS.out
    ·have him2 : i = m := by have := HI.out; omega
     have F := hid (list_of (w := w) (show embI sg p t = embN sg p t i by rw [HF.out, him2]) ho (Nat.le_succ _) f.b)
     clear ho f sp him2
     go_wp2
     go_ret
     exact F.out
structure Fs (w wr : World) (A : Option Addr) (n c : Nat) (sg : List Int) (P : Option Addr) (pn : Nat) (ps : List (List Int)) : Prop where
 r : Row wr w.heap.size 26 #[.slice A n c]
 s : Seg wr w.heap.size A n sg
 s' : Segs wr w.heap.size P pn ps
 b : Below w.heap.size w wr
section
variable {w wr w' : World} {A : Option Addr} {n c : Nat} {sg : List Int} {P : Option Addr} {pn : Nat} {ps : List (List Int)}
theorem Fs.next (f : Fs w wr A n c sg P pn ps) (hb : Below wr.heap.size wr w') : Fs w w' A n c sg P pn ps :=
 have b : Below w.heap.size wr w' := hb.mono (Nat.le_of_lt f.r.lt)
 ⟨f.r.next hb, f.s.below b, f.s'.below b, f.b.trans b⟩
theorem Fs.over (f : Fs w wr A n c sg P pn ps) (hb : Below (w.heap.size + 1) wr w') : Fs w w' A n c sg P pn ps :=
 have b : Below w.heap.size wr w' := hb.mono (Nat.le_succ _)
 ⟨f.r.below hb (Nat.lt_succ_self _), f.s.below b, f.s'.below b, f.b.trans b⟩
theorem Fs.s1 (f : Fs w wr A n c sg P pn ps) : Seg wr wr.heap.size A n sg := f.s.more (Nat.le_of_lt f.r.lt)
theorem Fs.size (f : Fs w wr A n c sg P pn ps) : w.heap.size < wr.heap.size := f.r.lt
end
end matchList
end
section
namespace rename
open Go.RowKit base ints sig term termOk marks app sym segs termFacts varsMath varsOf renMath
set_option maxRecDepth 100000
end rename
end
section
namespace renImpl
open Go.RowKit base ints sig cursor term termOk marks app appAt sym segs termFacts varsMath fillMath Go.Proofs.Ytgfgaeagbipobaa.look renMath rename
set_option maxRecDepth 100000
structure Side (p : Nat) (r : Option Nat) (a b : World) : Prop where
 os : b.os = a.os
 tape : b.tape = a.tape
 output : b.output = a.output
 size : a.heap.size ≤ b.heap.size
 block : ∀ k, k < a.heap.size → k ≠ p → some k ≠ r → b.heap[k]? = a.heap[k]?
section
variable {p : Nat} {r : Option Nat} {a b c : World}
theorem Side.below (h : Side p r a b) (hr : ∀ k, r = some k → p ≤ k) (hp : p ≤ a.heap.size) : Below p a b :=
 ⟨h.os, h.tape, h.output, h.size, fun k hk => h.block k (by omega) (by omega) (fun e => by have := hr k e.symm; omega)⟩
end
theorem Side.on {B : Nat} {r r' : Option Nat} {a b c : World} (h : Side B r a b) (hr : r' = r ∨ ∃ k, r' = some k ∧ a.heap.size ≤ k) (k : Side B r' b c) : Side B r a c :=
 ⟨k.os.trans h.os, k.tape.trans h.tape, k.output.trans h.output, Nat.le_trans h.size k.size, fun i hi hp hne => (k.block i (Nat.lt_of_lt_of_le hi h.size) hp (fun e => by
  rcases hr with e2 | ⟨q, e2, hq⟩
  ·exact hne (by rw [e, e2])
  ·rw [e2] at e; injection e with e; omega)).trans (h.block i hi hp hne)⟩
end renImpl
end
section
namespace variant
open Go.RowKit base ints sig same term termOk marks sym termFacts varsOf renMath rename renImpl
set_option maxRecDepth 100000
end variant
end
section
namespace matchMost
open Go.RowKit base ints sig term termOk endAt inside marks app sym segs segsHelp termFacts renMath varsOf variant pathSpec matchMath matchSpec matchList
set_option maxRecDepth 100000
end matchMost
end
section
open Go.Lib (hid)
namespace matchImpl
open Go.RowKit base ints sig same term termOk endAt inside marks app sym sub segs segsHelp kinds termFacts termMath posMath plainMath plain plainOf gives cursor fillMath matchMath matchSpec matchList matchMost whole takeMath take extended
set_option maxRecDepth 100000
theorem plain_s0 : plainL (givesL s0) 24 = [] := by
 have h : ∀ i, 0 ≤ i → givesL s0 i = vt i := fun i _ => gives_var (by rw [s0_get]; rfl)
 rw [plain_24 (m := 0) (by omega) h]
 rfl
theorem res_get (R : Option (List (List Int))) : plainL (givesL (R.getD s0)) 24 = resL R := by
 cases R with
 | none => exact plain_s0
 | some s => rfl
set_option maxHeartbeats 1000000 in
theorem implMatched (A P Q : Option Addr) (n c pn pc m mc : Nat) (sg p t : List Int) (w : World) (h : Seg w w.heap.size A n sg) (hp : Seg w w.heap.size P pn p) (ht : Seg w w.heap.size Q m t) (hn : n ≤ 1048576) (hpn : pn ≤ 1048576) (hm : m ≤ 1048576) (hmc : m ≤ mc) (hmc2 : mc ≤ 9223372036854775807) :
  Calls Try.prog 9 #[.agg #[.slice A n c], .slice P pn pc, .slice Q m mc] w (AnsM w (resL (matchO sg p t)) (instB sg p t)) := by
 obtain ⟨W, hW⟩ : ∃ W, W = (w.alloc (.cells #[.slice A n c] 26)).alloc (.cells #[.slice none 0 0] 31) := ⟨_, rfl⟩
 have M : Mr w W A n c sg P pn p Q m t := by rw [hW]; exact Mr.start h hp ht
 have HW := hid hW
 have L := hid (implTermOk A P n c pn pc sg p W M.ss M.sp hn hpn)
 have c0 : W.cell? ⟨w.heap.size, 0, none⟩ = some (.slice A n c) := M.r0.cell 0
 have c00 : ((w.alloc (.cells #[.slice A n c] 26)).alloc (.cells #[.slice none 0 0] 31)).cell? ⟨w.heap.size, 0, none⟩ = some (.slice A n c) := by rw [← hW]; exact c0
 clear hW h hp ht
 cases hokp : termOkB sg p with
 | false =>
  have HS := hid hokp
  clear hokp
  go_enter Try.func9, Try.ntmps9
  go_wp2_with fail
  rw [← HW.out]
  refine L.out.mono ?_
  rintro e w1 ⟨he, bb⟩
  rw [HS.out] at he
  subst he
  replace M := M.next bb
  have cR : w1.cell? ⟨w.heap.size + 1, 0, none⟩ = some (.slice none 0 0) := M.r1.cell 0
  have fR : w1.frozen? ⟨w.heap.size + 1, 0, none⟩ = false := M.r1.free 0
  have F1 := hid (ansM_off (w := w) (t := t) (.inl HS.out) M.b)
  have F2 := hid (ansM_off (w := w) (t := t) (.inl HS.out) ((M.b).setCell (p := ⟨w.heap.size + 1, 0, none⟩) (show w.heap.size ≤ w.heap.size + 1 by omega) (.slice none 0 0)))
  clear M L bb c0 c00
  go_wp2
  first
   | exact bodyPost_ret (v := .tuple #[.agg #[.slice none 0 0], .bool false]) (by simp [results, Try.results9, go_sem, cR]) rfl F1.out
   | exact bodyPost_ret (v := .tuple #[.agg #[.slice none 0 0], .bool false]) (by simp [results, Try.results9, go_sem, cR]) rfl F2.out
 | true =>
  have HSP := hid hokp
  have hp60 : pn ≤ 60 := by have h1 := (termOk_parts hokp).2.1; rw [M.sp.1] at h1; exact h1
  clear hokp
  cases hokt : termOkB sg t with
  | false =>
   have HS := hid hokt
   clear hokt
   go_enter Try.func9, Try.ntmps9
   go_wp2_with fail
   rw [← HW.out]
   refine L.out.mono ?_
   rintro e w1 ⟨he, bb⟩
   rw [HSP.out] at he
   subst he
   replace M := M.next bb
   clear bb L c0 c00
   have c0 : w1.cell? ⟨w.heap.size, 0, none⟩ = some (.slice A n c) := M.r0.cell 0
   go_wp2_with fail
   refine (implTermOk A Q n c m mc sg t _ M.ss M.st hn hm).mono ?_
   rintro e w2 ⟨he, bb⟩
   rw [HS.out] at he
   subst he
   replace M := M.next bb
   have cR : w2.cell? ⟨w.heap.size + 1, 0, none⟩ = some (.slice none 0 0) := M.r1.cell 0
   have fR : w2.frozen? ⟨w.heap.size + 1, 0, none⟩ = false := M.r1.free 0
   have F1 := hid (ansM_off (w := w) (p := p) (.inr HS.out) M.b)
   have F2 := hid (ansM_off (w := w) (p := p) (.inr HS.out) ((M.b).setCell (p := ⟨w.heap.size + 1, 0, none⟩) (show w.heap.size ≤ w.heap.size + 1 by omega) (.slice none 0 0)))
   clear M bb c0
   go_wp2
   first
    | exact bodyPost_ret (v := .tuple #[.agg #[.slice none 0 0], .bool false]) (by simp [results, Try.results9, go_sem, cR]) rfl F1.out
    | exact bodyPost_ret (v := .tuple #[.agg #[.slice none 0 0], .bool false]) (by simp [results, Try.results9, go_sem, cR]) rfl F2.out
  | true =>
   have HST := hid hokt
   have hm60 : m ≤ 60 := by have h1 := (termOk_parts hokt).2.1; rw [M.st.1] at h1; exact h1
   have HMO := hid (match_yes HSP.out hokt)
   have HIO := hid (show instB sg p t = (mst sg t p 0 s0).isSome by unfold instB; rw [HMO.out])
   clear hokt
   go_enter Try.func9, Try.ntmps9
   go_wp2_with fail
   rw [← HW.out]
   refine L.out.mono ?_
   rintro e w1 ⟨he, bb⟩
   rw [HSP.out] at he
   subst he
   replace M := M.next bb
   clear bb L c0 c00
   have c0 : w1.cell? ⟨w.heap.size, 0, none⟩ = some (.slice A n c) := M.r0.cell 0
   go_wp2_with fail
   refine (implTermOk A Q n c m mc sg t _ M.ss M.st hn hm).mono ?_
   rintro e w2 ⟨he, bb⟩
   rw [HST.out] at he
   subst he
   replace M := M.next bb
   clear bb c0
   have c0 : w2.cell? ⟨w.heap.size, 0, none⟩ = some (.slice A n c) := M.r0.cell 0
   have LX : Calls Try.prog 36 #[.agg z24, .slice P pn pc, .agg #[.slice A n c, .slice Q m mc, .int .i64 0]] w2 (AnsExt w2 (mst sg t p 0 s0)) :=
    extended A P Q n c pn pc m mc sg p t 0 z24 s0 w2 M.ss M.sp M.st hn hp60 hm60 hmc hmc2 (by rw [← M.st.1]; exact (term_len HST.out).1) HSP.out HST.out (TabR.new _ _) (fun j => by rw [s0_get]; simp)
   obtain ⟨R, hR⟩ : ∃ R, mst sg t p 0 s0 = R := ⟨_, rfl⟩
   rw [hR] at LX
   have HR := hid hR
   have HLX := hid LX
   clear LX hR
   have zw := M.r1.lt
   go_wp2_with (first
    | (refine rowBuild rfl 52 rfl z24 built_b ?_)
    | (go_at_call 36; refine HLX.out.mono ?_; rintro e w3 ⟨cs, rfl, tab, hsz, bb⟩; have one := hid tab.one; have h24 := hid tab.1; have bb3 := bb)
    | (refine rowAlloc rfl 52 rfl z24 zero_b ?_)
    | (refine rowStore rfl 52 _ _ rfl w3.heap.size cs z24 52 rfl rfl (heap_alloc_new w3 _) (by rw [h24.out]; exact size_b) (by rw [h24.out]; rfl) one.out ?_; rw [World.setRow_alloc_new])
    | (refine wpList_load_row rfl 52 _ rfl w3.heap.size rfl 52 cs (0, 0) _ (heap_alloc_new w3 _) Try.underlying52 rfl (by rw [h24.out]; exact size_b) ?_))
   have M3 := M.next bb
   have B4 : Below w3.heap.size w3 (w3.alloc (.cells cs 52)) := (Below.refl _ _).alloc (Nat.le_refl _) _
   have tab4 : TabR (w3.alloc (.cells cs 52)) (w3.alloc (.cells cs 52)).heap.size cs (R.getD s0) := (tab.below (B4.mono bb.size)).more (by have := bb.size; simp; omega)
   have LP := hid (plainB cs (R.getD s0) _ tab4 hsz)
   have M4 := M3.next B4
   have HI2 := hid (show instB sg p t = R.isSome by rw [HIO.out, HR.out])
   have HM2 := hid (show resL (matchO sg p t) = resL R by rw [HMO.out, HR.out])
   rw [res_get] at LP
   clear M M3 tab4 tab hsz bb bb3 one h24 HLX B4 c0
   refine LP.out.mono ?_
   rintro e w5 ⟨D, dn, dc, rfl, od, bb⟩
   have M5 := M4.next bb
   have z4 := M4.b.size
   have z5 := M4.r1.lt
   have cR : w5.cell? ⟨w.heap.size + 1, 0, none⟩ = some (.slice none 0 0) := M5.r1.cell 0
   have fR : w5.frozen? ⟨w.heap.size + 1, 0, none⟩ = false := M5.r1.free 0
   obtain ⟨b, hb⟩ : ∃ b, R.isSome = b := ⟨_, rfl⟩
   rw [hb]
   have F : AnsM w (resL (matchO sg p t)) (instB sg p t) (.returned (.tuple #[.agg #[.slice D dn dc], .bool b])) (w5.setCell ⟨w.heap.size + 1, 0, none⟩ (.slice D dn dc)) := by
    rw [HI2.out, HM2.out, hb]
    have hbt : Btw (w.heap.size + 1) (w.heap.size + 2) w5 (w5.setCell ⟨w.heap.size + 1, 0, none⟩ (.slice D dn dc)) := Btw.of_grown (grown_put (World.grownBy.refl _ _) _ _) (fun k hk => by injection hk; omega)
    have o2 := od.btw hbt (.inr (by simp at z5 ⊢; omega))
    exact ⟨D, dn, dc, rfl, o2.wider (by simp at z4 ⊢; omega) (by simp), (M5.b).setCell (p := ⟨w.heap.size + 1, 0, none⟩) (show w.heap.size ≤ w.heap.size + 1 by omega) _⟩
   have HF := hid F
   clear F od bb M4 M5 HIO hb LP
   go_wp2
   exact bodyPost_ret (v := .tuple #[.agg #[.slice D dn dc], .bool b]) (by simp [results, Try.results9, go_sem, cR]) rfl HF.out
set_option maxHeartbeats 1000000 in
theorem implInstanceIn (A P Q : Option Addr) (n c pn pc m mc : Nat) (sg p t : List Int) (w : World) (h : Seg w w.heap.size A n sg) (hp : Seg w w.heap.size P pn p) (ht : Seg w w.heap.size Q m t) (hn : n ≤ 1048576) (hpn : pn ≤ 1048576) (hm : m ≤ 1048576) (hmc : m ≤ mc) (hmc2 : mc ≤ 9223372036854775807) :
  Calls Try.prog 14 #[.agg #[.slice A n c], .slice P pn pc, .slice Q m mc] w (Tells w (instB sg p t)) := by
 obtain ⟨W, hW⟩ : ∃ W, W = w.alloc (.cells #[.slice A n c] 26) := ⟨_, rfl⟩
 have bW : Below w.heap.size w W := by rw [hW]; exact (Below.refl _ _).alloc (Nat.le_refl _) _
 have HW := hid hW
 have L := hid (implMatched A P Q n c pn pc m mc sg p t W (h.next bW) (hp.next bW) (ht.next bW) hn hpn hm hmc hmc2)
 clear hW h hp ht
 generalize instB sg p t = b at *
 go_enter Try.func14, Try.ntmps14
 go_wp2_with fail
 rw [← HW.out]
 refine L.out.mono ?_
 rintro e w1 ⟨D, dn, dc, rfl, od, bb⟩
 have F := hid (fun o => (show Tells w b (.returned (.bool b)) (w1.alloc o) from ⟨rfl, (next_trans bW bb).alloc (next_trans bW bb).size _⟩))
 clear od bb L bW
 go_wp2
 go_ret
 exact F.out _
end matchImpl
end
section
open Go.Lib (hid)
namespace matchImplB
open Go.RowKit base ints sig same term termOk endAt inside marks app sym sub segs segsHelp kinds termFacts termMath posMath plainMath plain plainOf gives cursor fillMath matchMath matchSpec matchList matchMost whole takeMath take extended pathSpec matchImpl
set_option maxRecDepth 100000
def HeadEi (w : World) (N : Nat) (A : Option Addr) (n c : Nat) (sg : List Int) (P : Option Addr) (pn : Nat) (p : List Int) (Q : Option Addr) (m : Nat) (t : List Int) (out k : Value) (wr : World) : Prop :=
 ∃ (i : Nat) (O : Option Addr) (on oc : Nat), k = .int .i64 i ∧ i ≤ m ∧ out = .slice O on oc ∧ Own wr (N + 1) (.slice O on oc) (embN sg p t i) ∧ Fr w wr A n c sg Q m t ∧ Seg wr w.heap.size P pn p ∧ Row wr N 52 z24
set_option maxHeartbeats 1000000 in
theorem implEmbedsIn (A P Q : Option Addr) (n c pn pc m mc : Nat) (sg p t : List Int) (w : World) (h : Seg w w.heap.size A n sg) (hp : Seg w w.heap.size P pn p) (ht : Seg w w.heap.size Q m t) (hn : n ≤ 1048576) (hpn : pn ≤ 1048576) (hm : m ≤ 1048576) (hmc : m ≤ mc) (hmc2 : mc ≤ 9223372036854775807) :
  Calls Try.prog 23 #[.agg #[.slice A n c], .slice P pn pc, .slice Q m mc] w (AnsList w (embI sg p t)) := by
 obtain ⟨W, hW⟩ : ∃ W, W = w.alloc (.cells #[.slice A n c] 26) := ⟨_, rfl⟩
 have f : Fr w W A n c sg Q m t := by rw [hW]; exact Fr.start h ht
 have sp : Seg W w.heap.size P pn p := hp.below f.b
 have HW := hid hW
 have HL := hid ht.1
 have cA := f.cell
 have cA0 : (w.alloc (.cells #[.slice A n c] 26)).cell? ⟨w.heap.size, 0, none⟩ = some (.slice A n c) := by rw [← hW]; exact cA
 have LP := hid (implTermOk A P n c pn pc sg p W f.s1 (sp.more (Nat.le_of_lt f.size)) hn hpn)
 clear hW h hp ht
 cases hokp : termOkB sg p with
 | false =>
  have HS := hid hokp
  have HF := hid (emb_no (t := t) (.inl hokp))
  clear hokp
  go_enter Try.func23, Try.ntmps23
  go_wp2_with fail
  rw [← HW.out]
  refine LP.out.mono ?_
  rintro e w1 ⟨he, bb⟩
  rw [HS.out] at he
  subst he
  have F := hid (list_of (w := w) HF.out (Own.nil w1 w.heap.size) (Nat.le_refl _) (f.next bb).b)
  clear f sp bb LP cA cA0
  go_wp2
  go_ret
  exact F.out
 | true =>
  have HSP := hid hokp
  have hp60 : pn ≤ 60 := by have h1 := (termOk_parts hokp).2.1; rw [sp.1] at h1; exact h1
  cases hokt : termOkB sg t with
  | false =>
   have HS := hid hokt
   have HF := hid (emb_no (p := p) (.inr hokt))
   clear hokp hokt
   go_enter Try.func23, Try.ntmps23
   go_wp2_with fail
   rw [← HW.out]
   refine LP.out.mono ?_
   rintro e w1 ⟨he, bb⟩
   rw [HSP.out] at he
   subst he
   replace f := f.next bb
   clear bb LP cA cA0 sp
   have cA := f.cell
   go_wp2_with fail
   refine (implTermOk A Q n c m mc sg t _ f.s1 f.t1 hn hm).mono ?_
   rintro e w2 ⟨he, bb⟩
   rw [HS.out] at he
   subst he
   have F := hid (list_of (w := w) HF.out (Own.nil w2 w.heap.size) (Nat.le_refl _) (f.next bb).b)
   clear f bb cA
   go_wp2
   go_ret
   exact F.out
  | true =>
   have HST := hid hokt
   have hm60 : m ≤ 60 := by have h1 := (termOk_parts hokt).2.1; rw [HL.out] at h1; exact h1
   have HF := hid (show embI sg p t = embN sg p t m by rw [emb_yes hokp hokt, HL.out])
   clear hokp hokt
   go_enter Try.func23, Try.ntmps23
   go_wp2_with fail
   rw [← HW.out]
   refine LP.out.mono ?_
   rintro e w1 ⟨he, bb⟩
   rw [HSP.out] at he
   subst he
   have bz : Below w.heap.size W w1 := bb.mono (Nat.le_of_lt f.size)
   replace f := f.next bb
   replace sp := sp.below bz
   clear bb bz LP cA cA0
   have cA := f.cell
   go_wp2_with fail
   refine (implTermOk A Q n c m mc sg t _ f.s1 f.t1 hn hm).mono ?_
   rintro e w2 ⟨he, bb⟩
   rw [HST.out] at he
   subst he
   have bz : Below w.heap.size w1 w2 := bb.mono (Nat.le_of_lt f.size)
   replace f := f.next bb
   replace sp := sp.below bz
   have zN := f.size
   have S0 : HeadEi w w2.heap.size A n c sg P pn p Q m t (.slice none 0 0) (.int .i64 0) (w2.alloc (.cells z24 52)) := ⟨0, none, 0, 0, rfl, Nat.zero_le _, rfl, Own.nil _ _, f.alloc _, sp.alloc (Nat.le_of_lt f.size) _, Row.new _ _ _⟩
   have HS0 := hid S0
   clear S0 f sp bb bz cA
   go_wp2_with (first | (refine rowAlloc rfl 52 rfl z24 zero_b ?_))
   go_loopw [8, 24] (fun out k wr => HeadEi w w2.heap.size A n c sg P pn p Q m t out k wr) (fun _ k _ => m - (intOf k).toNat)
   case atStart => exact HS0.out
   case round =>
    obtain ⟨i, O, on, oc, rfl, hi, rfl, ho, f, sp, rN⟩ := hrel
    clear HS0
    have hon : on ≤ 60 := by have h1 := Own.len ho; have h2 := emb_len (sg := sg) (p := p) (t := t) i; omega
    by_cases him : i < m
    ·obtain ⟨R, hR⟩ : ∃ R, mst sg t p i s0 = R := ⟨_, rfl⟩
     have HB := hid (show R.isSome = instB sg p (subL sg t i) by rw [← hR]; exact mst_at HSP.out HST.out (by rw [HL.out]; exact him))
     have LX := extended A P Q n c pn pc m mc sg p t i z24 s0 wr f.s1 (sp.more (Nat.le_of_lt f.size)) f.t1 hn hp60 hm60 hmc hmc2 him HSP.out HST.out (TabR.new _ _) (fun j => by rw [s0_get]; simp)
     rw [hR] at LX
     have HLX := hid LX
     have hrN := rN
     unfold Row at hrN
     have HRN := hid hrN
     have cA := f.cell
     have HO := hid ho
     have HFr := hid f
     have HP := hid sp
     have HN := hid rN
     have HE := hid (show embN sg p t (i + 1) = embN sg p t i ++ (if R.isSome = true then [(i : Int)] else []) by simp only [embN]; rw [HB.out])
     have zr : w2.heap.size < wr.heap.size := rN.lt
     clear LX hR f sp ho rN hrN HB
     obtain ⟨b, hb⟩ : ∃ b, R.isSome = b := ⟨_, rfl⟩
     have HBB := hid hb
     clear hb
     cases b with
     | false =>
      go_wp2_with (first
       | (refine wpList_load_row rfl 52 _ rfl w2.heap.size rfl 52 z24 (0, 0) _ HRN.out Try.underlying52 rfl (by rw [z24_size]; exact size_b) ?_)
       | (go_at_call 36; refine HLX.out.mono ?_; rintro e w3 ⟨cs, rfl, tab, hsz, bb⟩; rw [HBB.out]; have one := hid tab.one; have h24 := hid tab.1; have B4 := bb.alloc bb.size (.cells cs 52); clear tab hsz)
       | (refine rowAlloc rfl 52 rfl z24 zero_b ?_)
       | (refine rowStore rfl 52 _ _ rfl w3.heap.size cs z24 52 rfl rfl (heap_alloc_new w3 _) (by rw [h24.out]; exact size_b) (by rw [h24.out]; rfl) one.out ?_; rw [World.setRow_alloc_new]))
      have S : HeadEi w w2.heap.size A n c sg P pn p Q m t (.slice O on oc) (.int .i64 ((i : Int) + 1)) (w3.alloc (.cells cs 52)) :=
       ⟨i + 1, O, on, oc, by simp, him, rfl, by rw [HE.out, HBB.out]; simpa using Own.next HO.out B4, HFr.out.next B4, HP.out.below (B4.mono (Nat.le_of_lt HFr.out.size)), HN.out.next B4⟩
      have HSS := hid S
      clear S B4 bb one h24 HLX HO HFr HP HN HRN cA
      go_wp2
      go_roundw
      case rel => exact HSS.out
      case measure => simp [intOf]; omega
     | true =>
      go_wp2_with (first
       | (refine wpList_load_row rfl 52 _ rfl w2.heap.size rfl 52 z24 (0, 0) _ HRN.out Try.underlying52 rfl (by rw [z24_size]; exact size_b) ?_)
       | (go_at_call 36; refine HLX.out.mono ?_; rintro e w3 ⟨cs, rfl, tab, hsz, bb⟩; rw [HBB.out]; have one := hid tab.one; have h24 := hid tab.1; have B4 := bb.alloc bb.size (.cells cs 52); clear tab hsz)
       | (refine rowAlloc rfl 52 rfl z24 zero_b ?_)
       | (refine rowStore rfl 52 _ _ rfl w3.heap.size cs z24 52 rfl rfl (heap_alloc_new w3 _) (by rw [h24.out]; exact size_b) (by rw [h24.out]; rfl) one.out ?_; rw [World.setRow_alloc_new])
       | (at_builtin; refine app1 rfl _ _ rfl (w2.heap.size + 1) O on oc _ rfl (Own.alloc (Own.next HO.out B4) _) (w3.alloc (.cells cs 52)).heap.size 1 (i : Int) (by simp [Act.eval]) ((Row.new _ _ _).cell 0) (by omega) (by have := B4.size; simp at this ⊢; omega) ?_; intro O' oc' w7 ho7 b7))
      have S : HeadEi w w2.heap.size A n c sg P pn p Q m t (.slice O' (on + 1) oc') (.int .i64 ((i : Int) + 1)) w7 := by
       have f4 := HFr.out.next B4
       have p4 := HP.out.below (B4.mono (Nat.le_of_lt HFr.out.size))
       have n4 := HN.out.next B4
       refine ⟨i + 1, O', on + 1, oc', by simp, him, rfl, by rw [HE.out, HBB.out]; exact ho7, (f4.alloc _).over (b7.mono (by omega)), (p4.alloc (Nat.le_of_lt f4.size) _).below (b7.mono (by omega)), (n4.alloc _).below b7 (Nat.lt_succ_self _)⟩
      have HSS := hid S
      clear S ho7 b7 B4 bb one h24 HLX HO HFr HP HN HRN cA
      go_wp2
      go_roundw
      case rel => exact HSS.out
      case measure => simp [intOf]; omega
    ·have him2 : i = m := by omega
     have F := hid (list_of (w := w) (show embI sg p t = embN sg p t i by rw [HF.out, him2]) ho (by omega) f.b)
     clear ho f sp rN him2
     go_wp2
     go_ret
     exact F.out
end matchImplB
end
section
namespace bigs
open Go.RowKit base ints
theorem bigAns (A : Option Addr) (n c : Nat) (b : Bool) (w : World) (hb : decide (4096 < n) = b) (hn : n ≤ 9223372036854775807) : Calls Try.prog 7 #[.slice A n c] w fun e w' => w = w' ∧ e = .returned (.bool b) := by
 cases b with
 | true =>
  have h : (4096 : Int) < (n : Int) := by have := of_decide_eq_true hb; omega
  clear hb
  go_enter Try.func7, Try.ntmps7
  go_wp2
  go_ret
  exact ⟨rfl, rfl⟩
 | false =>
  have h : ¬ (4096 : Int) < (n : Int) := by have := of_decide_eq_false hb; omega
  have h2 : decide (4096 < n) = false := hb
  clear hb
  go_enter Try.func7, Try.ntmps7
  go_wp2
  go_ret
  exact ⟨rfl, rfl⟩
end bigs
end
section
namespace lawT
open Go.RowKit base ints segs
set_option maxRecDepth 100000
structure T1 (w : World) (v3 : Nat) (S : Option Addr) (sn sc : Nat) (sg : List Int) (O : Option Addr) (on : Nat) (p : List Int) (Q : Option Addr) (qn : Nat) (t : List Int) (wr : World) : Prop where
 s : Seg wr wr.heap.size S sn sg
 o : Seg wr wr.heap.size O on p
 q : Seg wr wr.heap.size Q qn t
 r3 : Row wr v3 26 #[.slice S sn sc]
 bel : Below w.heap.size w wr
section
variable {w : World} {v3 : Nat} {S : Option Addr} {sn sc : Nat} {sg : List Int} {O : Option Addr} {on : Nat} {p : List Int} {Q : Option Addr} {qn : Nat} {t : List Int} {wr w' : World}
theorem T1.next (f : T1 w v3 S sn sc sg O on p Q qn t wr) (hb : Below wr.heap.size wr w') : T1 w v3 S sn sc sg O on p Q qn t w' :=
 ⟨f.s.next hb, f.o.next hb, f.q.next hb, f.r3.next hb, next_trans f.bel hb⟩
theorem T1.drew (f : T1 w v3 S sn sc sg O on p Q qn t wr) : T1 w v3 S sn sc sg O on p Q qn t wr.drew := ⟨f.s, f.o, f.q, f.r3, f.bel.drew⟩
theorem T1.cell (f : T1 w v3 S sn sc sg O on p Q qn t wr) : wr.cell? ⟨v3, 0, none⟩ = some (.slice S sn sc) := f.r3.cell 0
end
structure Sv (wr : World) (v : Nat) (D : Option Addr) (dn dc : Nat) (xss : List (List Int)) : Prop where
 r : Row wr v 31 #[.slice D dn dc]
 s : Segs wr wr.heap.size D dn xss
section
variable {v : Nat} {D : Option Addr} {dn dc : Nat} {xss : List (List Int)} {wr w' : World}
theorem Sv.next (f : Sv wr v D dn dc xss) (hb : Below wr.heap.size wr w') : Sv w' v D dn dc xss := ⟨f.r.next hb, f.s.next hb⟩
end
theorem below_alloc (w : World) (x : Obj) : Below w.heap.size w (w.alloc x) := (Below.refl _ _).alloc (Nat.le_refl _) _
theorem below_drewN (w : World) (d : Nat) : Below w.heap.size w (w.drewN d) := ⟨rfl, rfl, rfl, Nat.le_refl _, fun _ _ => rfl⟩
theorem like (A A' : Option Addr) (n c c' : Nat) (xs : List Int) (w : World) (h : Seg w w.heap.size A n xs) (h' : Seg w w.heap.size A' n xs) (hn : n ≤ 1048576) :
  Calls Try.prog 19 #[.slice A n c, .slice A' n c'] w fun e w' => e = .returned (.bool true) ∧ ∃ d, w' = w.drewN d := by
 go_enter Try.func19, Try.ntmps19
 go_wp2
 go_loopw [5] (fun i wr => ∃ k d : Nat, k ≤ n ∧ i = .int .i64 k ∧ wr = w.drewN d) (fun i _ => n - (intOf i).toNat)
 case atStart => exact ⟨0, 0, Nat.zero_le _, rfl, rfl⟩
 case round =>
  obtain ⟨k, d, hk, rfl, rfl⟩ := hrel
  by_cases hlt : k < n
  ·obtain ⟨b, off, x, rfl, -, hx, ex⟩ := h.spot hlt
   obtain ⟨b', off', y, rfl, -, hy, ey⟩ := h'.spot hlt
   obtain rfl : x = y := by rw [← ex.out, ← ey.out]
   clear h h' ex ey
   go_wp2
   go_quiet (fail)
   go_wp2
   go_roundw
   case rel => exact ⟨k + 1, _, hlt, by simp, rfl⟩
   case measure => simp [intOf]; omega
  ·clear h h'
   go_wp2
   go_ret
   exact ⟨rfl, _, rfl⟩
end lawT
end
section
open Go.Lib (hid)
namespace wFnEmbeds
open Go.RowKit base ints sig same term cursor termOk endAt sub marks app sym segs segsHelp dice inside Go.Proofs.Ytgfgaeagbipobaa.look drawVar drawMatched drawEmbeds matchMath matchSpec matchList matchImpl matchImplB bigs lawT
set_option maxRecDepth 100000
theorem emb_split {sg p t : List Int} {i : Nat} : ∀ {m : Nat}, i ≤ m → ∃ r, embN sg p t m = embN sg p t i ++ r ∧ ∀ x ∈ r, (i : Int) ≤ x
 | 0, h => by
  obtain rfl : i = 0 := by omega
  exact ⟨[], by rw [List.append_nil], fun x hx => absurd hx (List.not_mem_nil)⟩
 | m + 1, h => by
  by_cases e : i = m + 1
  ·subst e
   exact ⟨[], by rw [List.append_nil], fun x hx => absurd hx (List.not_mem_nil)⟩
  ·obtain ⟨r, h1, h2⟩ := emb_split (sg := sg) (p := p) (t := t) (i := i) (m := m) (by omega)
   refine ⟨r ++ (if instB sg p (subL sg t m) = true then [(m : Int)] else []), by simp only [embN]; rw [h1, List.append_assoc], fun x hx => ?_⟩
   rcases List.mem_append.1 hx with hx | hx
   ·exact h2 x hx
   ·split at hx
    ·rw [List.mem_singleton] at hx; omega
    ·exact absurd hx (List.not_mem_nil)
theorem emb_hit {sg p t : List Int} {i m : Nat} (hi : i < m) (h : instB sg p (subL sg t i) = true) : (embN sg p t i).length < (embN sg p t m).length ∧ (embN sg p t m).getD (embN sg p t i).length 0 = (i : Int) ∧ (embN sg p t (i + 1)).length = (embN sg p t i).length + 1 := by
 obtain ⟨r, h1, _⟩ := emb_split (sg := sg) (p := p) (t := t) (show i + 1 ≤ m by omega)
 have e : embN sg p t (i + 1) = embN sg p t i ++ [(i : Int)] := by simp only [embN]; rw [if_pos h]
 rw [e] at h1
 refine ⟨by rw [h1]; simp, by rw [h1]; simp [List.getD, List.append_assoc], by rw [e]; simp⟩
theorem emb_miss {sg p t : List Int} {i m : Nat} (hi : i < m) (h : instB sg p (subL sg t i) = false) : ((embN sg p t i).length < (embN sg p t m).length → (embN sg p t m).getD (embN sg p t i).length 0 ≠ (i : Int)) ∧ (embN sg p t (i + 1)).length = (embN sg p t i).length := by
 obtain ⟨r, h1, h2⟩ := emb_split (sg := sg) (p := p) (t := t) (show i + 1 ≤ m by omega)
 have e : embN sg p t (i + 1) = embN sg p t i := by simp only [embN]; rw [h]; simp
 rw [e] at h1
 refine ⟨fun hl he => ?_, by rw [e]⟩
 rw [h1, List.length_append] at hl
 have hm : (embN sg p t m).getD (embN sg p t i).length 0 ∈ r := by
  rw [h1]
  have : 0 < r.length := by omega
  simp [List.getD, List.getElem?_append_right, this]
 have := h2 _ hm
 omega
def HeadL (w : World) (v3 : Nat) (S : Option Addr) (sn sc : Nat) (sg : List Int) (O : Option Addr) (on : Nat) (p : List Int) (Q : Option Addr) (qn : Nat) (t : List Int) (L : Option Addr) (ln : Nat) (g : Nat) (k at_ : Value) (wr : World) : Prop :=
 ∃ i : Nat, at_ = .int .i64 i ∧ i + g = qn ∧ k = .int .i64 ((embN sg p t i).length : Int) ∧ T1 w v3 S sn sc sg O on p Q qn t wr ∧ Seg wr wr.heap.size L ln (embN sg p t qn)
set_option maxHeartbeats 8000000 in
theorem law (A : Option Addr) (n c : Nat) (_ : List Int) (w : World) (h : SegB w w.heap.size A n) (hN : n ≤ 9223372036854775807) :
  Calls Try.prog 5 #[.slice A n c] w (Fine w) := by
 by_cases hbig : n ≤ 4096
 ·have LB := hid (bigAns A n c false w (by simp; omega) hN)
  go_enter Try.func5, Try.ntmps5
  go_wp2_with fail
  refine LB.out.mono ?_
  rintro e w' ⟨rfl, rfl⟩
  clear LB
  go_wp2_with fail
  refine (drawEmbedsIn A n c w h hbig).mono ?_
  rintro e w2 ⟨S, sn, sc, sg, O, on, oc, p, Q, qn, qc, t, rfl, s1, s2, s3, hsn, ⟨hon, hoc⟩, ⟨hqn, hqc⟩, b2⟩
  obtain ⟨v3, h3⟩ : ∃ v, w2.heap.size = v := ⟨_, rfl⟩
  obtain ⟨W, hW⟩ : ∃ W, W = w2.alloc (.cells #[.slice S sn sc] 26) := ⟨_, rfl⟩
  have T : T1 w v3 S sn sc sg O on p Q qn t W := by
   have bb : Below w2.heap.size w2 W := by rw [hW]; exact below_alloc _ _
   exact ⟨s1.next bb, s2.next bb, s3.next bb, by rw [hW, ← h3]; exact Row.new _ _ _, next_trans b2 bb⟩
  have HW := hid hW
  have H3 := hid h3
  have HQ := hid s3.1
  have c30 : (w2.alloc (.cells #[.slice S sn sc] 26)).cell? ⟨v3, 0, none⟩ = some (.slice S sn sc) := by rw [← hW]; exact T.cell
  have HC := hid hqc
  have hqc1 := hqc.1
  have hqc2 := hqc.2.1
  clear h hW h3 b2 s1 s2 s3 hqc hoc
  have c3 := T.cell
  obtain ⟨xs, hxs⟩ : ∃ x, embI sg p t = x := ⟨_, rfl⟩
  have HX := hid hxs
  have hxl : xs.length ≤ 65 := by
   rw [← hxs]
   unfold embI
   split
   ·exact Nat.le_trans (emb_len _) (by rw [HQ.out]; exact hqn)
   ·simp
  clear hxs
  go_wp2_with fail
  rw [← HW.out, H3.out]
  refine (implEmbedsIn S O Q sn sc on oc qn qc sg p t W T.s T.o T.q (by omega) (by omega) (by omega) hqc1 hqc2).mono ?_
  rintro e w4 ⟨L, ln, lc, rfl, ol, bb⟩
  rw [HX.out] at ol
  have sl := Own.seg ol
  have hln : ln ≤ 65 := by rw [Own.len ol]; exact hxl
  replace T := T.next bb
  clear bb ol c30
  replace c3 := T.cell
  go_wp2_with fail
  refine (specEmbedsIn S O Q sn sc on oc qn qc sg p t w4 T.s T.o T.q (by omega) (by omega) (by omega) hqc1 hqc2).mono ?_
  rintro e w5 ⟨M, mn, mc, rfl, om, bb⟩
  rw [HX.out] at om
  have sm := Own.seg om
  obtain rfl : ln = mn := by rw [Own.len om, ← sl.1]
  replace T := T.next bb
  replace sl := sl.next bb
  clear bb om
  replace c3 := T.cell
  go_wp2_with fail
  refine (like L M ln lc mc xs w5 sl sm (by omega)).mono ?_
  rintro e w6 ⟨rfl, d, rfl⟩
  have bb := below_drewN w5 d
  replace T := T.next bb
  replace sl := sl.next bb
  clear bb sm
  generalize w5.drewN d = w6 at *
  replace c3 := T.cell
  cases hokp : termOkB sg p with
  | false =>
   have HP := hid hokp
   have hl0 : ln = 0 := by rw [← sl.1, ← HX.out, emb_no (.inl hokp)]; rfl
   subst hl0
   clear hokp
   go_wp2_with fail
   refine (specTermOk S O sn sc on oc sg p _ T.s T.o (by omega) (by omega)).mono ?_
   rintro e w7 ⟨he, bb⟩
   rw [HP.out] at he
   subst he
   have TB := hid (T.next bb).bel
   clear bb T sl c3
   go_wp2
   go_ret
   exact ⟨rfl, TB.out⟩
  | true =>
   have HP := hid hokp
   cases hokt : termOkB sg t with
   | false =>
    have HT := hid hokt
    have hl0 : ln = 0 := by rw [← sl.1, ← HX.out, emb_no (.inr hokt)]; rfl
    subst hl0
    clear hokp hokt
    go_wp2_with fail
    refine (specTermOk S O sn sc on oc sg p _ T.s T.o (by omega) (by omega)).mono ?_
    rintro e w7 ⟨he, bb⟩
    rw [HP.out] at he
    subst he
    replace T := T.next bb
    clear bb c3
    have c3 := T.cell
    go_wp2_with fail
    refine (specTermOk S Q sn sc qn qc sg t _ T.s T.q (by omega) (by omega)).mono ?_
    rintro e w8 ⟨he, bb⟩
    rw [HT.out] at he
    subst he
    have TB := hid (T.next bb).bel
    clear bb T sl c3
    go_wp2
    go_ret
    exact ⟨rfl, TB.out⟩
   | true =>
    have HT := hid hokt
    have HXE := hid (show xs = embN sg p t qn by rw [← HX.out, emb_yes hokp hokt, HQ.out])
    clear hokp hokt
    go_wp2_with fail
    refine (specTermOk S O sn sc on oc sg p _ T.s T.o (by omega) (by omega)).mono ?_
    rintro e w7 ⟨he, bb⟩
    rw [HP.out] at he
    subst he
    replace T := T.next bb
    replace sl := sl.next bb
    clear bb c3
    have c3 := T.cell
    go_wp2_with fail
    refine (specTermOk S Q sn sc qn qc sg t _ T.s T.q (by omega) (by omega)).mono ?_
    rintro e w8 ⟨he, bb⟩
    rw [HT.out] at he
    subst he
    replace T := T.next bb
    replace sl := sl.next bb
    rw [HXE.out] at sl
    have S0 : HeadL w v3 S sn sc sg O on p Q qn t L ln qn (.int .i64 0) (.int .i64 0) w8 := ⟨0, rfl, by omega, rfl, T, sl⟩
    have HS0 := hid S0
    clear bb c3 T sl S0
    go_wp2_with fail
    go_loopg [7, 8] qn (fun g k at_ wr => HeadL w v3 S sn sc sg O on p Q qn t L ln g k at_ wr)
    case atStart => exact HS0.out
    case round =>
     obtain ⟨i, rfl, hi, rfl, T, sl⟩ := hrel
     clear HS0
     have HI := hid hi
     clear hi
     have HSL := hid sl.1
     obtain ⟨k, hk⟩ : ∃ k, (embN sg p t i).length = k := ⟨_, rfl⟩
     have HK := hid hk
     have hki : k ≤ 65 := by have h2 := emb_len (sg := sg) (p := p) (t := t) i; have := HI.out; omega
     rw [hk]
     clear hk
     by_cases him : i < qn
     ·have hgk := hid (show gk - 1 < gk ∧ i + 1 + (gk - 1) = qn by have := HI.out; omega)
      obtain ⟨bi, hbi⟩ : ∃ b, instB sg p (subL sg t i) = b := ⟨_, rfl⟩
      have HBI := hid hbi
      have HSU := hid (show subI sg t (i : Int) = subL sg t i by
       unfold subI
       rw [if_pos (there_yes HT.out (by omega) (by rw [HQ.out]; omega)), Int.toNat_natCast])
      have hsul := hid (show (subL sg t i).length ≤ 65 by unfold subL; rw [List.length_take, List.length_drop, HQ.out]; omega)
      have i0 : (0 : Int) ≤ (i : Int) := by omega
      have i1 : (i : Int) < (qn : Int) := by omega
      have k0 : (0 : Int) ≤ (k : Int) := by omega
      clear hbi
      replace T := T.drew
      replace sl := sl.drew
      have c3 := T.cell
      cases bi with
      | true =>
       have HIT := hid (emb_hit him HBI.out)
       have hkl : k < ln := by rw [← HK.out, ← HSL.out]; exact HIT.out.1
       have HLN := hid (show (embN sg p t (i + 1)).length = k + 1 by rw [HIT.out.2.2, HK.out])
       obtain ⟨b, off, x, rfl, hb, hx, ex⟩ := sl.spot hkl
       obtain rfl : x = (i : Int) := by rw [← ex.out, ← HK.out]; exact HIT.out.2.1
       have k1 : (k : Int) < (ln : Int) := by omega
       go_wp2_with fail
       go_region_held3 (fun w' => w'.cell? ⟨v3, 0, none⟩ = some (.slice S sn sc))
        (first | assumption | go_keep)
        (first
         | (go_at_call 26; refine (specSubAt S Q sn sc qn qc sg t (i : Int) _ T.s T.q (by omega) (by omega) (by omega) (by omega) hqc1 hqc2).mono ?_; rintro e w9 ⟨X, xn, xc, rfl, ox, b9⟩; rw [HSU.out] at ox; have T9 := T.next b9; have c9 := T9.cell)
         | (go_at_call 14; refine (implInstanceIn S O X sn sc on oc xn xc sg p (subL sg t i) _ T9.s T9.o (Own.seg ox) (by omega) (by omega) (by rw [Own.len ox]; have := hsul.out; omega) (own_cap ox).1 (own_cap ox).2.1).mono ?_; rintro e w10 ⟨he, b10⟩; rw [HBI.out] at he; subst he; have T10 := T9.next b10; have c10 := T10.cell))
       have hx10 : w10.cell? ⟨b, off + k, none⟩ = some (.int .i64 (i : Int)) := (b10.cell (p := ⟨b, off + k, none⟩) (show b < w9.heap.size from Nat.lt_of_lt_of_le hb b9.size)).trans ((b9.cell (p := ⟨b, off + k, none⟩) hb).trans hx)
       have S1 : HeadL w v3 S sn sc sg O on p Q qn t (some ⟨b, off, none⟩) ln (gk - 1) (.int .i64 ((k : Int) + 1)) (.int .i64 ((i : Int) + 1)) w10 := ⟨i + 1, by simp, hgk.out.2, by rw [HLN.out]; simp, T10, (sl.next b9).next b10⟩
       have HS1 := hid S1
       clear S1 T T9 T10 sl ox b9 b10 c3 c9 c10 hx ex
       go_wp2
       go_roundg (gk - 1)
       case measure => exact hgk.out.1
       case rel => exact HS1.out
      | false =>
       have HMI := hid (emb_miss him HBI.out)
       have HLN := hid (show (embN sg p t (i + 1)).length = k by rw [HMI.out.2, HK.out])
       by_cases hkl : k < ln
       ·obtain ⟨b, off, x, rfl, hb, hx, ex⟩ := sl.spot hkl
        have hxi : ¬ x = (i : Int) := by rw [← ex.out, ← HK.out]; exact HMI.out.1 (by rw [HK.out, HSL.out]; exact hkl)
        have hxd : (x == (i : Int)) = false := by simp [hxi]
        have k1 : (k : Int) < (ln : Int) := by omega
        clear hxi
        go_wp2_with fail
        go_region_held3 (fun w' => w'.cell? ⟨v3, 0, none⟩ = some (.slice S sn sc))
         (first | assumption | go_keep)
         (first
          | (go_at_call 26; refine (specSubAt S Q sn sc qn qc sg t (i : Int) _ T.s T.q (by omega) (by omega) (by omega) (by omega) hqc1 hqc2).mono ?_; rintro e w9 ⟨X, xn, xc, rfl, ox, b9⟩; rw [HSU.out] at ox; have T9 := T.next b9; have c9 := T9.cell)
          | (go_at_call 14; refine (implInstanceIn S O X sn sc on oc xn xc sg p (subL sg t i) _ T9.s T9.o (Own.seg ox) (by omega) (by omega) (by rw [Own.len ox]; have := hsul.out; omega) (own_cap ox).1 (own_cap ox).2.1).mono ?_; rintro e w10 ⟨he, b10⟩; rw [HBI.out] at he; subst he; have T10 := T9.next b10; have c10 := T10.cell))
        have hx10 : w10.cell? ⟨b, off + k, none⟩ = some (.int .i64 x) := (b10.cell (p := ⟨b, off + k, none⟩) (show b < w9.heap.size from Nat.lt_of_lt_of_le hb b9.size)).trans ((b9.cell (p := ⟨b, off + k, none⟩) hb).trans hx)
        have S1 : HeadL w v3 S sn sc sg O on p Q qn t (some ⟨b, off, none⟩) ln (gk - 1) (.int .i64 ((k : Int))) (.int .i64 ((i : Int) + 1)) w10 := ⟨i + 1, by simp, hgk.out.2, by rw [HLN.out], T10, (sl.next b9).next b10⟩
        have HS1 := hid S1
        clear S1 T T9 T10 sl ox b9 b10 c3 c9 c10 hx ex
        go_wp2
        go_roundg (gk - 1)
        case measure => exact hgk.out.1
        case rel => exact HS1.out
       ·have k1 : (ln : Int) ≤ (k : Int) := by omega
        go_wp2_with fail
        go_region_held3 (fun w' => w'.cell? ⟨v3, 0, none⟩ = some (.slice S sn sc))
         (first | assumption | go_keep)
         (first
          | (go_at_call 26; refine (specSubAt S Q sn sc qn qc sg t (i : Int) _ T.s T.q (by omega) (by omega) (by omega) (by omega) hqc1 hqc2).mono ?_; rintro e w9 ⟨X, xn, xc, rfl, ox, b9⟩; rw [HSU.out] at ox; have T9 := T.next b9; have c9 := T9.cell)
          | (go_at_call 14; refine (implInstanceIn S O X sn sc on oc xn xc sg p (subL sg t i) _ T9.s T9.o (Own.seg ox) (by omega) (by omega) (by rw [Own.len ox]; have := hsul.out; omega) (own_cap ox).1 (own_cap ox).2.1).mono ?_; rintro e w10 ⟨he, b10⟩; rw [HBI.out] at he; subst he; have T10 := T9.next b10; have c10 := T10.cell))
        have S1 : HeadL w v3 S sn sc sg O on p Q qn t L ln (gk - 1) (.int .i64 ((k : Int))) (.int .i64 ((i : Int) + 1)) w10 := ⟨i + 1, by simp, hgk.out.2, by rw [HLN.out], T10, (sl.next b9).next b10⟩
        have HS1 := hid S1
        clear S1 T T9 T10 sl ox b9 b10 c3 c9 c10
        go_wp2
        go_roundg (gk - 1)
        case measure => exact hgk.out.1
        case rel => exact HS1.out
     ·have hiq : i = qn := by have := HI.out; omega
      have hkl : k = ln := by rw [← HK.out, hiq, HSL.out]
      subst hkl
      have TB := hid T.bel
      clear T sl
      go_wp2
      go_ret
      exact ⟨rfl, TB.out⟩
 ·have LB := hid (bigAns A n c true w (by simp; omega) hN)
  clear h
  go_enter Try.func5, Try.ntmps5
  go_wp2_with fail
  refine LB.out.mono ?_
  rintro e w' ⟨rfl, rfl⟩
  clear LB
  go_wp2
  go_ret
  exact ⟨rfl, Below.refl _ _⟩
end wFnEmbeds
end
end Go.Proofs.Ytgfgaeagbipobaa
