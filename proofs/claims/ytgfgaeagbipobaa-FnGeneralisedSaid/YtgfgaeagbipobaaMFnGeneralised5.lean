/-
  MERGED: my texts GenNext, GenMain, SameSubst, PlainFacts, RenPure, UnifLaw, General, GenImpl, TabR, one behind the other, as they are. By an AI agent.
-/
import Derived.Test.YtgfgaeagbipobaaMFnGeneralised4
import Derived.Deep.RegionHeld3
import Derived.Deep.DeepCutAuto
import Derived.Deep.QuietTactic
import Derived.BigQuiet
import Derived.Deep.LoopGhost
import Derived.Maps.AppendAt
namespace Go.Proofs.Ytgfgaeagbipobaa
section
open Go.Lib (hid)
open List (setIfInBounds_toArray set_cons_zero set_cons_succ getElem_toArray getElem_cons_zero getElem_cons_succ)
namespace genNext
open Go.RowKit base ints same sig cursor marks app appAt sym segs segsHelp kinds term sub Go.Proofs.Ytgfgaeagbipobaa.look plain curO anyOf inside unifMath genMath genPos genTab genRec appZ thn unifRep heldT genSt appStep
set_option maxRecDepth 100000
theorem drew_below (w : World) (d : Nat) : Below w.heap.size w (w.drewN d) := ⟨rfl, rfl, rfl, Nat.le_refl _, fun _ _ => rfl⟩
theorem testPair (bp : Nat) (O : Option Addr) (on oc : Nat) (pr : List Int) (w : World) (hr : Row w bp 24 #[.slice O on oc]) (hs : Seg w w.heap.size O on pr) (hn : on ≤ 1048576) :
  Tests 95 #[.pointer (some ⟨bp, 0, none⟩)] w (fun ys => decide (ys = pr)) := by
 intro W D dn dc ys hb hy hdn _
 have cp : W.cell? ⟨bp, 0, none⟩ = some (.slice O on oc) := (hr.next hb).cell 0
 have LS := hid (implSame D O dn on dc oc ys pr W hy (hs.next hb) hdn hn)
 show Calls Try.prog 95 #[.slice D dn dc, .pointer (some ⟨bp, 0, none⟩)] W _
 clear hs hr hb hy
 go_enter Try.func95, Try.ntmps95
 go_wp2_with fail
 refine LS.out.mono ?_
 rintro e w' ⟨rfl, d, rfl⟩
 go_wp2
 go_ret
 exact ⟨rfl, genNext.drew_below W d⟩
def PB (w : World) (g hi : Nat) (A : Option Addr) (n c : Nat) (sg : List Int) (P : Option Addr) (m mc : Nat) (a : List Int) (i : Nat) (Q : Option Addr) (k kc : Nat) (b : List Int) (j : Nat) (D : Option Addr) (dn dc : Nat) (xss : List (List Int)) (pr : List Int) (p4 : Value) (wx : World) : Prop :=
 ∃ (bp : Nat) (O : Option Addr) (on oc : Nat), p4 = .pointer (some ⟨bp, 0, none⟩) ∧ Row wx bp 24 #[.slice O on oc] ∧ Own wx w.heap.size (.slice O on oc) pr ∧ Gn wx g hi A n c sg P m mc a i Q k kc b j D dn dc xss ∧ w.heap.size ≤ bp ∧ w.grownBy wx (some g)
section
variable {w w4 w5 : World} {g hi : Nat} {A : Option Addr} {n c : Nat} {sg : List Int} {P : Option Addr} {m mc : Nat} {a : List Int} {i : Nat} {Q : Option Addr} {k kc : Nat} {b : List Int} {j : Nat} {D : Option Addr} {dn dc : Nat} {xss : List (List Int)} {pr : List Int} {O : Option Addr} {on oc : Nat}
theorem pb_after (ho : Own w5 w4.heap.size (.slice O on oc) pr) (hs : w.heap.size ≤ w4.heap.size) (hG : Gn w5 g hi A n c sg P m mc a i Q k kc b j D dn dc xss) (hg : w.grownBy w5 (some g)) :
  PB w g hi A n c sg P m mc a i Q k kc b j D dn dc xss pr (.pointer (some ⟨w5.heap.size, 0, none⟩)) (w5.alloc (.cells #[.slice O on oc] 24)) :=
 have B : Below w5.heap.size w5 (w5.alloc (.cells #[.slice O on oc] 24)) := (Below.refl _ _).alloc (Nat.le_refl _) _
 ⟨_, O, on, oc, rfl, Row.new _ _ _, Own.lower (Own.next ho B) hs, hG.next B, hg.size, grown_trans hg (grown_below B _)⟩
theorem own_put {w : World} {base bp : Nat} {O : Option Addr} {on oc : Nat} {pr : List Int} (ho : Own w base (.slice O on oc) pr) {cs : Array Value} (hr : Row w bp 24 cs) (u : Value) : Own (w.setCell ⟨bp, 0, none⟩ u) base (.slice O on oc) pr :=
 own_away (r0 := 0) ho (r := some bp) (grown_put (World.grownBy.refl _ _) _ _) (fun z hz e => by
  injection hz with hz
  subst hz
  obtain ⟨⟨cs2, h2⟩, _⟩ := ownRow ho _ e
  exact Row.ne_ h2 hr (by decide) rfl) rfl
theorem pb_ahead {bp : Nat} (q : Row w5 bp 24 #[.slice none 0 0]) (hb : w.heap.size ≤ bp) (hlt : bp < w4.heap.size) (hgb : g < bp) (hhi : hi ≤ bp) (ho : Own w5 w4.heap.size (.slice O on oc) pr) (hs : w.heap.size ≤ w4.heap.size) (hG : Gn w5 g hi A n c sg P m mc a i Q k kc b j D dn dc xss) (hg : w.grownBy w5 (some g)) :
  PB w g hi A n c sg P m mc a i Q k kc b j D dn dc xss pr (.pointer (some ⟨bp, 0, none⟩)) (w5.setCell ⟨bp, 0, none⟩ (.slice O on oc)) := by
 have g1 : w5.grownBy (w5.setCell ⟨bp, 0, none⟩ (.slice O on oc)) (some bp) := grown_put (World.grownBy.refl _ _) _ _
 have B : Below bp w5 (w5.setCell ⟨bp, 0, none⟩ (.slice O on oc)) := (Below.refl bp w5).setCell (p := ⟨bp, 0, none⟩) (Nat.le_refl _) _
 refine ⟨bp, O, on, oc, rfl, by have := q.put 0 (.slice O on oc); simpa using this, Own.lower (own_put ho q _) hs, ?_, hb, ?_⟩
 ·have hp := hG.row
  exact ⟨Row.away hp g1 (fun e => by injection e; omega), hG.s.below (B.mono (by omega)), hG.pa.below (B.mono (by omega)), hG.qb.below (B.mono (by omega)), hG.o.btw (Btw.of_grown (lo := bp) (hi := bp + 1) g1 (fun z e => by injection e; omega)) (by left; exact hhi), by have := hG.le; have := g1.size; omega, hG.li, hG.lj, hG.hn, hG.hm, hG.hk, hG.ars⟩
 ·exact ⟨g1.os.trans hg.os, g1.tape.trans hg.tape, g1.output.trans hg.output, Nat.le_trans hg.size g1.size, fun z hz hn => (g1.block z (Nat.lt_of_lt_of_le hz hg.size) (fun e => by injection e; omega)).trans (hg.block z hz hn)⟩
end
theorem nx_old {sg u v : List Int} {T : Tb} {z : Nat} (hz : z < T.length) (hf : Fine2 sg T) (hu : Trm sg u) (e : (T.map cat).getD z [] = u ++ v) : T[z]? = some (u, v) := by
 obtain ⟨x, h1, h2⟩ := cat_get hz
 have hx : x ∈ T := List.mem_of_getElem? h1
 obtain ⟨e1, e2⟩ := cat_inj (hf x hx).1 hu (h2.symm.trans e)
 rw [h1]
 congr 1
 exact Prod.ext e1 e2
theorem nx_new {u v : List Int} {T : Tb} (h : ∀ j, j < T.length → decide ((T.map cat).getD j [] = u ++ v) = false) : (u, v) ∉ T := fun hm => by
 obtain ⟨j, hj, e⟩ := List.getElem_of_mem hm
 have := of_decide_eq_false (h j hj)
 exact this (by simp [List.getD, hj, e, cat])
theorem avoid_grown {w w' : World} {g hi : Nat} {D : Option Addr} {dn dc : Nat} {xss : List (List Int)} {Z : Nat → Prop} (ho : Owns w (g + 1) hi D dn dc xss) (hg : w.grownBy w' (some g)) (h : Avoid Z w D dn) : Avoid Z w' D dn :=
 h.keep fun b j e => by
  obtain ⟨⟨cs, hr⟩, h2, h3⟩ := topRow ho b (by rw [e]; rfl)
  exact World.cell?_of_block (hg.block b h3 (fun e => by injection e; omega))
theorem nx_push {w wa w8 : World} {g : Nat} {A : Option Addr} {n c : Nat} {sg : List Int} {P : Option Addr} {m mc : Nat} {a : List Int} {i : Nat} {Q : Option Addr} {k kc : Nat} {b : List Int} {j : Nat} {D : Option Addr} {dn dc : Nat} {T : Tb} {p q : Nat} {u v : List Int} {O : Option Addr} {on oc : Nat} {c' g' : Nat}
  (how : Owns w (g + 1) w.heap.size D dn dc (T.map cat)) (GA : Gn wa g w.heap.size A n c sg P m mc a (i + p) Q k kc b (j + q) D dn dc (T.map cat)) (hgA : w.grownBy wa (some g)) (hsa : w.heap.size ≤ wa.heap.size) (hf : Fine2 sg T) (hp : scan sg 1 (a.drop i) = some p) (hq : scan sg 1 (b.drop j) = some q) (hns : ¬ (0 ≤ a.getD i 0 ∧ a.getD i 0 = b.getD j 0)) (hnew : (subL sg a i, subL sg b j) ∉ T)
  (hu1 : subL sg a i = u) (hv1 : subL sg b j = v) (hu2 : (subL sg a i).length = p) (hv2 : (subL sg b j).length = q) (hdl : dn = T.length) (hip : i + p ≤ m) (hjq : j + q ≤ k) (hm : m ≤ 60) (hk : k ≤ 60) (hO : ∀ y, blk O = some y → w.heap.size ≤ y) (hDg : ∀ y, blk D = some y → g + 1 ≤ y ∧ y < w.heap.size)
  (ho8 : Owns w8 (g + 1) w8.heap.size (some ⟨g', 0, none⟩) (dn + 1) c' (T.map cat ++ [u ++ v])) (hg8 : wa.grownBy w8 (blk D)) (hat8 : blk D = some g' ∨ g' = wa.heap.size) (_ : Below (g + 1) wa w8)
  (hc8 : ∀ y z, y < dn + 1 → w8.cell? ⟨g', y, none⟩ = some z → (∃ b, y < dn ∧ D = some ⟨b, 0, none⟩ ∧ wa.cell? ⟨b, y, none⟩ = some z) ∨ (y = dn ∧ z = .slice O on oc)) :
  AnsNx w g A n c sg P m mc a i Q k kc b j D dn T (.returned (.int .i64 (-1 - (dn : Int)))) (w8.setCell ⟨g, 6, none⟩ (.slice (some ⟨g', 0, none⟩) (dn + 1) c')) := by
 have hgl := GA.lt
 have r8 : Row w8 g 81 (gcs A n c P m mc (i + p) Q k kc (j + q) D dn dc) := Row.away GA.row hg8 (fun e => by have := (hDg g e).1; omega)
 have g9 : w8.grownBy (w8.setCell ⟨g, 6, none⟩ (.slice (some ⟨g', 0, none⟩) (dn + 1) c')) (some g) := grown_put (World.grownBy.refl _ _) _ _
 have Bg : Below g wa w8 := (Below.refl g wa).grown hg8 (by omega) (fun y hy => by have := (hDg y hy).1; omega)
 have B9 : Below g w8 (w8.setCell ⟨g, 6, none⟩ (.slice (some ⟨g', 0, none⟩) (dn + 1) c')) := (Below.refl g w8).setCell (p := ⟨g, 6, none⟩) (Nat.le_refl _) _
 have hmap : T.map cat ++ [u ++ v] = (T ++ [(subL sg a i, subL sg b j)]).map cat := by simp [cat, hu1, hv1]
 have row9 : Row (w8.setCell ⟨g, 6, none⟩ (.slice (some ⟨g', 0, none⟩) (dn + 1) c')) g 81 (gcs A n c P m mc (i + p) Q k kc (j + q) (some ⟨g', 0, none⟩) (dn + 1) c') := by
  have r := r8.put 6 (.slice (some ⟨g', 0, none⟩) (dn + 1) c')
  simpa [gcs] using r
 have o9 := owns_put ho8 r8 (show g < g + 1 by omega) 6 (.slice (some ⟨g', 0, none⟩) (dn + 1) c')
 rw [hmap] at o9
 have tw : Two w (w8.setCell ⟨g, 6, none⟩ (.slice (some ⟨g', 0, none⟩) (dn + 1) c')) (some ⟨g, 0, none⟩) D :=
  Two.trans (Two.trans (L := some ⟨g, 0, none⟩) (R := D) (Two.left hgA) (Two.right hg8) (fun _ h _ => h) (fun _ h _ => h)) (Two.left (L := some ⟨g, 0, none⟩) (R := D) g9) (fun _ h _ => h) (fun _ h _ => h)
 refine ⟨_, i + p, j + q, some ⟨g', 0, none⟩, dn + 1, c', T ++ [(subL sg a i, subL sg b j)], rfl, ⟨row9, (GA.s.below Bg).below B9, (GA.pa.below Bg).below B9, (GA.qb.below Bg).below B9, o9.wider (Nat.le_refl _) (by simp), Nat.le_refl _, GA.li, GA.lj, GA.hn, GA.hm, GA.hk, GA.ars⟩,
  hf.snoc (genPos.sub_trm hp) (genPos.sub_trm hq) (by omega) (by omega), tw, fun z hz hlt => ?_, fun Z hZ hA => ?_, .inr ⟨by rw [hu2], by rw [hv2], by rw [hdl]; exact gp_new hp hq hns hnew⟩⟩
 ·injection hz with hz
  subst hz
  rcases hat8 with h | h
  ·exact h
  ·have hlt2 : g' < w.heap.size := hlt
   omega
 ·have hA2 := avoid_grown how hgA hA
  intro y b' z hy e hc x hx e2
  injection e with e
  injection e with e
  subst e
  have hne : g ≠ g' := fun e => by
   have := (topRow ho8 g' rfl).2.1
   omega
  have hcw : w8.cell? ⟨g', y, none⟩ = some z := by rw [← World.cell?_setCell_far w8 ⟨g, 6, none⟩ ⟨g', y, none⟩ _ hne]; exact hc
  rcases hc8 y z hy hcw with ⟨b3, h1, h2, h3⟩ | ⟨_, rfl⟩
  ·exact hA2 y b3 z h1 h2 h3 x hx e2
  ·have h1 := hO x (by rw [← blk_own O on oc]; exact e2)
   have h2 := hZ x hx
   omega
theorem nx_sym {w : World} {g : Nat} {A : Option Addr} {n c : Nat} {sg : List Int} {P : Option Addr} {m mc : Nat} {a : List Int} {i : Nat} {Q : Option Addr} {k kc : Nat} {b : List Int} {j : Nat} {D : Option Addr} {dn dc : Nat} {T : Tb} {x : Int} (h : Gn w g w.heap.size A n c sg P m mc a i Q k kc b j D dn dc (T.map cat)) (hf : Fine2 sg T) (hi : i < m) (hj : j < k) (hx0 : 0 ≤ x) (ex : a.getD i 0 = x) (ey : b.getD j 0 = x) (d : Nat) :
  AnsNx w g A n c sg P m mc a i Q k kc b j D dn T (.returned (.int .i64 x)) (((w.drewN d).setCell ⟨g, 2, none⟩ (.int .i64 ((i : Int) + 1))).setCell ⟨g, 5, none⟩ (.int .i64 ((j : Int) + 1))) := by
 have g0 : w.grownBy (((w.drewN d).setCell ⟨g, 2, none⟩ (.int .i64 ((i : Int) + 1))).setCell ⟨g, 5, none⟩ (.int .i64 ((j : Int) + 1))) (some g) := grown_put (grown_put (grown_drewN (World.grownBy.refl w (some g)) d) 2 _) 5 _
 have r := (((h.drewN d).row.put 2 (.int .i64 ((i : Int) + 1))).put 5 (.int .i64 ((j : Int) + 1)))
 have e1 : ((i + 1 : Nat) : Int) = (i : Int) + 1 := by simp
 have e2 : ((j + 1 : Nat) : Int) = (j : Int) + 1 := by simp
 have G := h.move (i' := i + 1) (j' := j + 1) g0 (by unfold gcs; rw [e1, e2]; simpa [gcs] using r) hi hj
 exact ⟨x, i + 1, j + 1, D, dn, dc, T, rfl, ⟨G.row, G.s, G.pa, G.qb, G.o.wider (Nat.le_refl _) g0.size, Nat.le_refl _, G.li, G.lj, G.hn, G.hm, G.hk, G.ars⟩, hf, Two.left g0, fun z hz _ => hz, fun Z _ hA => avoid_grown h.o g0 hA, .inl ⟨hx0, ex, ey, rfl, rfl, rfl⟩⟩
set_option maxHeartbeats 4000000 in
theorem next (g : Nat) (A : Option Addr) (n c : Nat) (sg : List Int) (P : Option Addr) (m mc : Nat) (a : List Int) (i : Nat) (Q : Option Addr) (k kc : Nat) (b : List Int) (j : Nat) (D : Option Addr) (dn dc : Nat) (T : Tb) (w : World) (h : Gn w g w.heap.size A n c sg P m mc a i Q k kc b j D dn dc (T.map cat)) (hf : Fine2 sg T) (hi : i < m) (hj : j < k) (p q : Nat) (hp : scan sg 1 (a.drop i) = some p) (hq : scan sg 1 (b.drop j) = some q) (hip : i + p ≤ m) (hjq : j + q ≤ k) (hp1 : 1 ≤ p) (hq1 : 1 ≤ q) (hm60 : m ≤ 60) (hk60 : k ≤ 60) (hmc : m ≤ mc) (hmc2 : mc ≤ 9223372036854775807) (hkc : k ≤ kc) (hkc2 : kc ≤ 9223372036854775807) (hdn : T.length ≤ 60) :
  Calls Try.prog 71 #[.pointer (some ⟨g, 0, none⟩)] w (AnsNx w g A n c sg P m mc a i Q k kc b j D dn T) := by
 obtain ⟨b1, o1, x, rfl, hb1, hx, ex⟩ := h.pa.spot hi
 obtain ⟨b2, o2, y, rfl, hb2, hy, ey⟩ := h.qb.spot hj
 have hgl := h.lt
 have c1 : w.cell? ⟨g, 1, none⟩ = some (.slice (some ⟨b1, o1, none⟩) m mc) := h.cell 1
 have c2 : w.cell? ⟨g, 2, none⟩ = some (.int .i64 (i : Int)) := h.cell 2
 have c4 : w.cell? ⟨g, 4, none⟩ = some (.slice (some ⟨b2, o2, none⟩) k kc) := h.cell 4
 have c5 : w.cell? ⟨g, 5, none⟩ = some (.int .i64 (j : Int)) := h.cell 5
 have f2 : w.frozen? ⟨g, 2, none⟩ = false := h.row.free 2
 have f5 : w.frozen? ⟨g, 5, none⟩ = false := h.row.free 5
 have i0 : (0 : Int) ≤ (i : Int) := by omega
 have i1 : (i : Int) < (m : Int) := by omega
 have j0 : (0 : Int) ≤ (j : Int) := by omega
 have j1 : (j : Int) < (k : Int) := by omega
 have EX := hid ex.out
 have EY := hid ey.out
 have HF := hid hf
 have HP := hid hp
 have HQ := hid hq
 have hmf : ∀ (fn : Fn) (first cap : Array Value) (w : World), (Instr.makeFunc fn first cap).run Try.prog w = .ok (.func fn first cap) w := fun _ _ _ _ => rfl
 clear ex ey hf hp hq
 by_cases hsym : 0 ≤ x ∧ x = y
 ·obtain ⟨hx0, rfl⟩ := hsym
  have d0 : decide (0 ≤ x) = true := decide_eq_true hx0
  have HS := hid (fun d => nx_sym h HF.out hi hj hx0 EX.out EY.out d)
  clear h HF
  go_enter Try.func71, Try.ntmps71
  go_wp2
  go_quiet (fail)
  go_wp2_with fail
  go_quiet (fail)
  rw [World.drewN_drewN]
  have HS1 := HS.out
  clear HS
  go_wp2
  go_ret
  exact HS1 _
 ·have HNS := hid (show ¬ (0 ≤ a.getD i 0 ∧ a.getD i 0 = b.getD j 0) by rw [EX.out, EY.out]; exact hsym)
  clear f2 f5
  by_cases hx0 : 0 ≤ x
  ·have d0 : decide (0 ≤ x) = true := decide_eq_true hx0
   have d1 : (x == y) = false := by simp; exact fun e => hsym ⟨hx0, e⟩
   clear hsym
   go_enter Try.func71, Try.ntmps71
   go_wp2
   go_quiet (fail)
   go_wp2_with fail
   go_quiet (fail)
   rw [World.drewN_drewN]
   go_wp2_with fail
   have G1 := hid (fun d => h.drewN d)
   have BW := hid (fun d => genNext.drew_below w d)
   have HOW := hid h.o
   obtain ⟨w1, hw1, GW, BW1, hs1⟩ : ∃ w1, w1 = w.drewN (_) ∧ Gn w1 g w.heap.size A n c sg (some ⟨b1, o1, none⟩) m mc a i (some ⟨b2, o2, none⟩) k kc b j D dn dc (T.map cat) ∧ Below w.heap.size w w1 ∧ w1.heap.size = w.heap.size := ⟨_, rfl, G1.out _, BW.out _, rfl⟩
   rw [← hw1]
   clear hw1 G1 BW c1 c2 c4 c5 hx hy d0 h
   have hgl1 : g < w1.heap.size := by omega
   have hsz : w.heap.size ≤ w1.heap.size := by omega
   clear hs1
   have hu1 : subL sg a i = (a.drop i).take p := by unfold subL; rw [len1_eq HP.out]
   have hu2 : (subL sg a i).length = p := by rw [hu1, List.length_take, List.length_drop, GW.pa.1]; omega
   have hv1 : subL sg b j = (b.drop j).take q := by unfold subL; rw [len1_eq HQ.out]
   have hv2 : (subL sg b j).length = q := by rw [hv1, List.length_take, List.length_drop, GW.qb.1]; omega
   have cutA := hid (fun (w2 : World) (i2 : Nat) (G : Gn w2 g w.heap.size A n c sg (some ⟨b1, o1, none⟩) m mc a i2 (some ⟨b2, o2, none⟩) k kc b (j + q) D dn dc (T.map cat)) => (Seg.cut (a := i) (j := p) G.pa hip).more (Nat.le_of_lt G.lt))
   have cutB := hid (fun (w2 : World) (i2 : Nat) (G : Gn w2 g w.heap.size A n c sg (some ⟨b1, o1, none⟩) m mc a i2 (some ⟨b2, o2, none⟩) k kc b (j + q) D dn dc (T.map cat)) => (Seg.cut (a := j) (j := q) G.qb hjq).more (Nat.le_of_lt G.lt))
   obtain ⟨u, hu⟩ : ∃ u, (a.drop i).take p = u := ⟨_, rfl⟩
   obtain ⟨v, hv⟩ : ∃ v, (b.drop j).take q = v := ⟨_, rfl⟩
   rw [hu] at cutA hu1
   rw [hv] at cutB hv1
   have HU1 := hid hu1
   have HU2 := hid hu2
   have HV1 := hid hv1
   have HV2 := hid hv2
   have luv : (u ++ v).length = p + q := by rw [List.length_append, ← hu1, ← hv1, hu2, hv2]
   have LPA := hid (fun (w2 : World) (B : Below w1.heap.size w1 w2) => (partA (GW.next B) HP.out hip hp1 hmc hmc2).mono fun e w' (r : _ ∧ _ ∧ _) => (⟨r.1, r.2.1, r.2.2, grown_trans (grown_below B _) r.2.2⟩ : e = .returned (.slice (some ⟨b1, o1 + i, none⟩) p (mc - i)) ∧ Gn w' g w.heap.size A n c sg (some ⟨b1, o1, none⟩) m mc a (i + p) (some ⟨b2, o2, none⟩) k kc b j D dn dc (T.map cat) ∧ w2.grownBy w' (some g) ∧ w1.grownBy w' (some g)))
   have LPB := hid (fun (w2 : World) (G : Gn w2 g w.heap.size A n c sg (some ⟨b1, o1, none⟩) m mc a (i + p) (some ⟨b2, o2, none⟩) k kc b j D dn dc (T.map cat)) (B : w1.grownBy w2 (some g)) => (partB G HQ.out hjq hq1 hkc hkc2).mono fun e w' (r : _ ∧ _ ∧ _) => (⟨r.1, r.2.1, r.2.2, grown_trans B r.2.2⟩ : e = .returned (.slice (some ⟨b2, o2 + j, none⟩) q (kc - j)) ∧ Gn w' g w.heap.size A n c sg (some ⟨b1, o1, none⟩) m mc a (i + p) (some ⟨b2, o2, none⟩) k kc b (j + q) D dn dc (T.map cat) ∧ w2.grownBy w' (some g) ∧ w1.grownBy w' (some g)))
   have kA : Cap (some ⟨b1, o1 + i, none⟩) p (mc - i) := ⟨by omega, by omega, fun e => by cases e⟩
   have kB : Cap (some ⟨b2, o2 + j, none⟩) q (kc - j) := ⟨by omega, by omega, fun e => by cases e⟩
   have LC := hid (fun (wx : World) (gb : Nat) (R : Row wx gb 24 #[.slice (some ⟨b1, o1 + i, none⟩) p (mc - i), .slice (some ⟨b2, o2 + j, none⟩) q (kc - j)]) (G : Gn wx g w.heap.size A n c sg (some ⟨b1, o1, none⟩) m mc a (i + p) (some ⟨b2, o2, none⟩) k kc b (j + q) D dn dc (T.map cat)) (B : w1.grownBy wx (some g)) =>
    (catTwo R (cutA.out wx _ G) (cutB.out wx _ G) kA kB (by omega) (by omega)).mono fun e w' (r : AnsList wx (u ++ v) e w') => (let ⟨O, on, oc, e1, e2, e3⟩ := r; ⟨O, on, oc, e1, e2, e3, G.next e3, grown_trans B (grown_below e3 _), B.size⟩ : ∃ O on oc, e = .returned (.slice O on oc) ∧ Own w' wx.heap.size (.slice O on oc) (u ++ v) ∧ Below wx.heap.size wx w' ∧ Gn w' g w.heap.size A n c sg (some ⟨b1, o1, none⟩) m mc a (i + p) (some ⟨b2, o2, none⟩) k kc b (j + q) D dn dc (T.map cat) ∧ w1.grownBy w' (some g) ∧ w1.heap.size ≤ wx.heap.size))
   clear kA kB cutA cutB hu1 hu2 hv1 hv2 hu hv
   go_cut [4] (fun p4 wx => PB w1 g w.heap.size A n c sg (some ⟨b1, o1, none⟩) m mc a (i + p) (some ⟨b2, o2, none⟩) k kc b (j + q) D dn dc (T.map cat) (u ++ v) p4 wx)
   case first =>
    clear GW BW1
    go_region_held3 (fun _ => True) (trivial)
     (first
      | (go_at_call 94; (with_reducible refine (LPA.out _ ?_).mono ?_); (focus (repeat (first | (with_reducible exact Below.refl _ _) | (with_reducible refine Below.drew ?_) | (with_reducible refine Below.alloc ?_ (by first | omega | (simp only [compImpl.sz_alloc, compImpl.sz_drew]; omega)) _)))); rintro e w3 ⟨rfl, hG3, g3, t3⟩; have s31 := g3.size; (try simp only [compImpl.sz_alloc, compImpl.sz_drew] at s31); (try (obtain ⟨q4, -⟩ : Row w3 w1.heap.size 24 #[.slice none 0 0] ∧ True; (focus ((refine ⟨Row.away ?_ g3 (fun e => by injection e; omega), trivial⟩); (repeat (first | ((with_reducible refine compImpl.row_top ?_); (simp only [compImpl.sz_alloc, compImpl.sz_drew]; done)) | (with_reducible refine compImpl.row_drew ?_) | (with_reducible refine compImpl.row_alloc ?_))); done)))))
      | (go_at_call 94; (with_reducible refine (LPB.out _ ?_ ?_).mono ?_); (focus (first | exact hG3 | exact hG3.alloc _)); (focus (first | exact t3 | exact grown_trans t3 (World.grownBy_alloc _ _ _))); rintro e w4 ⟨rfl, hG4, g4, t4⟩; have s3 := t3.size; have s41 := g4.size; (try simp only [compImpl.sz_alloc, compImpl.sz_drew] at s41); (try (have q4 := Row.away q4 g4 (fun e => by injection e; omega))); (try (obtain ⟨q4, -⟩ : Row w4 w3.heap.size 24 #[.slice none 0 0] ∧ True; (focus ((refine ⟨Row.away ?_ g4 (fun e => by injection e; omega), trivial⟩); (repeat (first | ((with_reducible refine compImpl.row_top ?_); (simp only [compImpl.sz_alloc, compImpl.sz_drew]; done)) | (with_reducible refine compImpl.row_drew ?_) | (with_reducible refine compImpl.row_alloc ?_))); done)))))
      | (go_at_call 93; (with_reducible refine (LC.out _ _ ?_ ?_ ?_).mono ?_); (focus ((repeat (first | ((with_reducible refine compImpl.row_top ?_); (simp only [compImpl.sz_alloc, compImpl.sz_drew]; done)) | (with_reducible refine compImpl.row_drew ?_) | (with_reducible refine compImpl.row_alloc ?_))); done)); (focus (first | exact hG4.alloc _ | exact (hG4.alloc _).alloc _)); (focus (first | exact grown_trans t4 (World.grownBy_alloc _ _ _) | exact grown_trans t4 (grown_trans (World.grownBy_alloc _ _ _) (World.grownBy_alloc _ _ _)))); rintro e w5 ⟨O, on, oc, rfl, ho, b5, hG5, t5, s5⟩; have s4 := t4.size; (try (have q4 := Go.Proofs.Ytgfgaeagbipobaa.base.Row.next (compImpl.row_alloc q4) b5)); (try (obtain ⟨q4, -⟩ : Row w5 w4.heap.size 24 #[.slice none 0 0] ∧ True; (focus ((refine ⟨Go.Proofs.Ytgfgaeagbipobaa.base.Row.next ?_ b5, trivial⟩); (repeat (first | ((with_reducible refine compImpl.row_top ?_); (simp only [compImpl.sz_alloc, compImpl.sz_drew]; done)) | (with_reducible refine compImpl.row_drew ?_) | (with_reducible refine compImpl.row_alloc ?_))); done)))); (try (obtain ⟨q4, -⟩ : Row w5 (w4.heap.size + 1) 24 #[.slice none 0 0] ∧ True; (focus ((refine ⟨Go.Proofs.Ytgfgaeagbipobaa.base.Row.next ?_ b5, trivial⟩); (repeat (first | ((with_reducible refine compImpl.row_top ?_); (simp only [compImpl.sz_alloc, compImpl.sz_drew]; done)) | (with_reducible refine compImpl.row_drew ?_) | (with_reducible refine compImpl.row_alloc ?_))); done)))); (try (have y3 : w5.cell? ⟨_, 0, none⟩ = some (.slice none 0 0) := q4.cell 0; have y4 : w5.frozen? ⟨_, 0, none⟩ = false := q4.free 0))))
    all_goals
     go_wp2_with fail
     go_meet
     first
      | exact pb_after ho s5 hG5 t5
      | exact pb_ahead q4 (by omega) (by simp only [compImpl.sz_alloc, compImpl.sz_drew]; omega) (by omega) (by omega) ho s5 hG5 t5
   case rest =>
    rename World => wc
    obtain ⟨bp, O, on, oc, rfl, rb, ho, hG, hwb, hg⟩ := hcut
    have hdl : dn = T.length := by have := hG.o.len; simpa using this.symm
    have hon : on ≤ 1048576 := by rw [Own.len ho, luv]; omega
    have hgw : w.grownBy wc (some g) := grown_trans (grown_below BW1 _) hg
    have LI := hid (indexAt 95 #[.pointer (some ⟨bp, 0, none⟩)] (enters_of Try.func95 (by kernel_rfl) rfl) (fun ys => decide (ys = u ++ v)) D dn dc (T.map cat) wc (testPair bp O on oc (u ++ v) wc rb (Own.seg ho) hon) hG.o.segs (by omega) (fun z => Nat.le_trans (HF.out.each z) (by omega)))
    have c6 : wc.cell? ⟨g, 6, none⟩ = some (.slice D dn dc) := hG.cell 6
    have HDL := hid hdl
    have hdn60 : dn ≤ 60 := by omega
    clear LPA LPB LC luv hdl
    go_wp2_with fail
    refine LI.out.mono ?_
    rintro e w2 ⟨bI, ⟨z, hz, rfl, hzz⟩ | ⟨rfl, hno⟩⟩
    ·have hgw2 := grown_trans hgw (grown_below bI (some g))
     have G2 := hG.next bI
     have hT := nx_old (u := subL sg a i) (v := subL sg b j) (HDL.out ▸ hz) HF.out (genPos.sub_trm HP.out) ((of_decide_eq_true hzz).trans (by rw [HU1.out, HV1.out]))
     have F := hid (show AnsNx w g A n c sg (some ⟨b1, o1, none⟩) m mc a i (some ⟨b2, o2, none⟩) k kc b j D dn T (.returned (.int .i64 (-1 - (z : Int)))) w2 from
      ⟨_, i + p, j + q, D, dn, dc, T, rfl, ⟨G2.row, G2.s, G2.pa, G2.qb, G2.o.wider (Nat.le_refl _) G2.le, Nat.le_refl _, G2.li, G2.lj, G2.hn, G2.hm, G2.hk, G2.ars⟩, HF.out, Two.left hgw2, fun y hy _ => hy, fun Z _ hA => avoid_grown HOW.out hgw2 hA, .inr ⟨by rw [HU2.out], by rw [HV2.out], gp_old HP.out HQ.out HNS.out hT⟩⟩)
     have hz0 : (0 : Int) ≤ (z : Int) := by omega
     clear hG rb ho hg hgw hgw2 G2 hT bI LI c6 hzz HOW
     go_wp2
     go_ret
     exact F.out
    ·have hnew := nx_new (u := subL sg a i) (v := subL sg b j) (T := T) (fun z hz => by have := hno z (by have := HDL.out; omega); rw [HU1.out, HV1.out]; exact this)
     have G2 := hG.next bI
     have r2 := rb.next bI
     have o2' := Own.next ho bI
     have hgw2 := grown_trans hgw (grown_below bI (some g))
     have c6 : w2.cell? ⟨g, 6, none⟩ = some (.slice D dn dc) := G2.cell 6
     have cp : w2.cell? ⟨bp, 0, none⟩ = some (.slice O on oc) := r2.cell 0
     obtain ⟨wa, hwa⟩ : ∃ wa, wa = (w2.alloc (.cells #[.slice O on oc] 24)).drew := ⟨_, rfl⟩
     have bA : Below w2.heap.size w2 wa := by rw [hwa]; exact ((Below.refl _ _).alloc (Nat.le_refl _) _).drew
     have GA := G2.next bA
     have oA := Own.next o2' bA
     have hgA := grown_trans hgw2 (grown_below bA (some g))
     have HOA := hid (show Owns (w2.alloc (.cells #[.slice O on oc] 24)).drew (g + 1) w.heap.size D dn dc (T.map cat) by rw [← hwa]; exact GA.o)
     have HIN := hid (show Inn (w2.alloc (.cells #[.slice O on oc] 24)).drew w.heap.size (w2.alloc (.cells #[.slice O on oc] 24)).drew.heap.size (.slice O on oc) (u ++ v) by rw [← hwa]; exact inn_own (Own.lower oA hsz))
     have hDg : ∀ y, blk D = some y → g + 1 ≤ y ∧ y < w.heap.size := fun y hy => by
      obtain ⟨_, h2, _⟩ := topRow HOW.out y hy
      exact ⟨h2, (topRow HOW.out y hy).2.2⟩
     have HRA := hid (fun (w8 : World) (hg8 : (w2.alloc (.cells #[.slice O on oc] 24)).drew.grownBy w8 (blk D)) => (show Row w8 g 81 (gcs A n c (some ⟨b1, o1, none⟩) m mc (i + p) (some ⟨b2, o2, none⟩) k kc (j + q) D dn dc) from Row.away (by rw [← hwa]; exact GA.row) hg8 (fun e => by have := (hDg g e).1; omega)))
     have HRP := hid (show Row (w2.alloc (.cells #[.slice O on oc] 24)).drew bp 24 #[.slice O on oc] by rw [← hwa]; exact r2.next bA)
     have HNP : Hid (blk D ≠ some bp) := hid (fun e => by have := (hDg bp e).2; omega)
     have HPU := hid (show AnsNx w g A n c sg (some ⟨b1, o1, none⟩) m mc a i (some ⟨b2, o2, none⟩) k kc b j D dn T = AnsNx w g A n c sg (some ⟨b1, o1, none⟩) m mc a i (some ⟨b2, o2, none⟩) k kc b j D dn T from rfl)
     have FIN := hid (fun (g' c' : Nat) (w8 : World) ho8 hg8 hat8 hb8 hc8 => nx_push (O := O) (on := on) (oc := oc) (c' := c') (w8 := w8) HOW.out GA hgA (hwa ▸ hgA.size) HF.out HP.out HQ.out HNS.out hnew (HU1.out) (HV1.out) HU2.out HV2.out HDL.out hip hjq hm60 hk60 (fun y hy => Nat.le_trans hsz (by have := (ownRow o2' y hy).2.1; omega)) hDg (g' := g') ho8 hg8 hat8 hb8 hc8)
     rw [hwa] at FIN
     have hs2 : w.heap.size ≤ w2.heap.size := hgw2.size
     clear hG rb ho hg hgw hgw2 G2 r2 o2' bI LI hno hnew bA GA oA hgA hwa HPU wa
     go_wp2_with fail
     refine AnyT.start (S := (fun w' => w'.cell? ⟨g, 6, none⟩ = some (.slice D dn dc) ∧ w'.cell? ⟨bp, 0, none⟩ = some (.slice O on oc))) (fun i => decide (8 ≤ i)) (by kernel_rfl) ⟨c6, cp⟩ (fun hHeld => ?_)
     refine AnyT.takeA (i := 0) (v := ?_) rfl (by kernel_rfl) (by kernel_rfl) (by kernel_rfl) (fun _ _ _ h => h) (Or.inl ⟨by rfl, ?_⟩) ?_
     rotate_left 1
     ·(intro w0 _; go_simp; try with_reducible rfl)
     try simp only [Act.put, setIfInBounds_toArray, set_cons_zero, set_cons_succ, getElem_toArray, getElem_cons_zero, getElem_cons_succ]
     refine AnyT.takeA (i := 1) (v := ?_) rfl (by kernel_rfl) (by kernel_rfl) (by kernel_rfl) (fun _ _ _ h => h) (Or.inl ⟨by rfl, ?_⟩) ?_
     rotate_left 1
     ·(intro w0 _; go_simp; try with_reducible rfl)
     try simp only [Act.put, setIfInBounds_toArray, set_cons_zero, set_cons_succ, getElem_toArray, getElem_cons_zero, getElem_cons_succ]
     refine AnyT.takeA (i := 2) (v := ?_) rfl (by kernel_rfl) (by kernel_rfl) (by kernel_rfl) (fun _ _ _ h => h) (Or.inl ⟨by rfl, ?_⟩) ?_
     rotate_left 1
     ·(intro w0 _; go_simp; try with_reducible rfl)
     try simp only [Act.put, setIfInBounds_toArray, set_cons_zero, set_cons_succ, getElem_toArray, getElem_cons_zero, getElem_cons_succ]
     refine AnyT.takeA (i := 3) (v := ?_) rfl (by kernel_rfl) (by kernel_rfl) (by kernel_rfl) (fun _ _ _ h => h) (Or.inl ⟨by rfl, ?_⟩) ?_
     rotate_left 1
     ·(intro w0 _; go_simp; try with_reducible rfl)
     try simp only [Act.put, setIfInBounds_toArray, set_cons_zero, set_cons_succ, getElem_toArray, getElem_cons_zero, getElem_cons_succ]
     refine AnyT.take (i := 4) (v := ?_) rfl (by kernel_rfl) (by kernel_rfl) (by kernel_rfl) (by kernel_rfl) (fun _ _ _ h => h) (Or.inl ⟨by rfl, ?_⟩) (by assumption) ?_
     rotate_left 1
     ·(intro w0 hSw; (try dsimp only at hSw); go_simp; try with_reducible rfl)
     try simp only [Act.put, setIfInBounds_toArray, set_cons_zero, set_cons_succ, getElem_toArray, getElem_cons_zero, getElem_cons_succ]
     refine AnyT.take (i := 5) (v := ?_) rfl (by kernel_rfl) (by kernel_rfl) (by kernel_rfl) (by kernel_rfl) (fun _ _ _ h => h) (Or.inl ⟨by rfl, ?_⟩) (by assumption) ?_
     rotate_left 1
     ·(intro w0 hSw; (try dsimp only at hSw); go_simp; try with_reducible rfl)
     try simp only [Act.put, setIfInBounds_toArray, set_cons_zero, set_cons_succ, getElem_toArray, getElem_cons_zero, getElem_cons_succ]
     refine AnyT.call (i := 6) (by kernel_rfl) rfl (fun K hK => ?_)
     try simp only [Act.put, setIfInBounds_toArray, set_cons_zero, set_cons_succ, getElem_toArray, getElem_cons_zero, getElem_cons_succ]
     rw [if_pos (by rfl)]
     go_simp
     refine hK.out _ _ (fun _ _ => ?_) (fun hKeep => ?_)
     ·exact ⟨compImpl.keep_alloc hHeld.1, compImpl.keep_alloc hHeld.2⟩
     replace hHeld := hKeep (by rfl) hHeld
     clear hK K hKeep
     try simp only [Act.put, setIfInBounds_toArray, set_cons_zero, set_cons_succ, getElem_toArray, getElem_cons_zero, getElem_cons_succ]
     refine AnyT.call (i := 7) (by kernel_rfl) rfl (fun K hK => ?_)
     refine stepS1Z rfl _ _ rfl (g + 1) w.heap.size D dn dc (T.map cat) (by simp [Act.eval]) HOA.out w2.heap.size 1 (.slice O on oc) (u ++ v) (by simp [Act.eval]) (show (w2.alloc (.cells #[.slice O on oc] 24)).drew.cell? ⟨w2.heap.size, 0, none⟩ = _ from compImpl.cell_top rfl) HIN.out (by omega) (by omega) (by simp; omega) _ rfl ?_
     intro g' c' w8 ho8 hg8 hat8 hb8 hc8
     have r8 := HRA.out w8 hg8
     have e6 : w8.cell? ⟨g, 6, none⟩ = some (.slice D dn dc) := r8.cell 6
     have fr6 : w8.frozen? ⟨g, 6, none⟩ = false := r8.free 6
     refine hK.out _ _ (fun _ _ => ?_) (fun hKeep => ?_)
     ·exact ⟨e6, Row.cell (Row.away HRP.out hg8 HNP.out) 0⟩
     clear hK K hKeep hHeld
     try simp only [Act.put, setIfInBounds_toArray, set_cons_zero, set_cons_succ, getElem_toArray, getElem_cons_zero, getElem_cons_succ]
     refine AnyT.call (i := 8) (by kernel_rfl) rfl (fun K hK => ?_)
     try simp only [Act.put, setIfInBounds_toArray, set_cons_zero, set_cons_succ, getElem_toArray, getElem_cons_zero, getElem_cons_succ]
     rw [if_pos (by rfl)]
     go_simp
     refine hK.out _ _ (fun h => by cases h) (fun _ => ?_)
     clear hK K
     try simp only [Act.put, setIfInBounds_toArray, set_cons_zero, set_cons_succ, getElem_toArray, getElem_cons_zero, getElem_cons_succ]
     refine AnyT.call (i := 9) (by kernel_rfl) rfl (fun K hK => ?_)
     try simp only [Act.put, setIfInBounds_toArray, set_cons_zero, set_cons_succ, getElem_toArray, getElem_cons_zero, getElem_cons_succ]
     rw [if_pos (by rfl)]
     go_simp
     refine hK.out _ _ (fun h => by cases h) (fun _ => ?_)
     clear hK K
     try simp only [Act.put, setIfInBounds_toArray, set_cons_zero, set_cons_succ, getElem_toArray, getElem_cons_zero, getElem_cons_succ]
     refine AnyT.call (i := 10) (by kernel_rfl) rfl (fun K hK => ?_)
     try simp only [Act.put, setIfInBounds_toArray, set_cons_zero, set_cons_succ, getElem_toArray, getElem_cons_zero, getElem_cons_succ]
     rw [if_pos (by rfl)]
     go_simp
     refine hK.out _ _ (fun h => by cases h) (fun _ => ?_)
     clear hK K
     try simp only [Act.put, setIfInBounds_toArray, set_cons_zero, set_cons_succ, getElem_toArray, getElem_cons_zero, getElem_cons_succ]
     refine AnyT.done (by kernel_rfl) ?_ _
     go_wp2
     go_ret
     exact FIN.out _ _ _ ho8 hg8 hat8 hb8 hc8
  ·have d0 : decide (0 ≤ x) = false := decide_eq_false hx0
   clear hsym
   go_enter Try.func71, Try.ntmps71
   go_wp2
   go_quiet (fail)
   go_wp2_with fail
   go_quiet (fail)
   rw [World.drewN_drewN]
   go_wp2_with fail
   have G1 := hid (fun d => h.drewN d)
   have BW := hid (fun d => genNext.drew_below w d)
   have HOW := hid h.o
   obtain ⟨w1, hw1, GW, BW1, hs1⟩ : ∃ w1, w1 = w.drewN (_) ∧ Gn w1 g w.heap.size A n c sg (some ⟨b1, o1, none⟩) m mc a i (some ⟨b2, o2, none⟩) k kc b j D dn dc (T.map cat) ∧ Below w.heap.size w w1 ∧ w1.heap.size = w.heap.size := ⟨_, rfl, G1.out _, BW.out _, rfl⟩
   rw [← hw1]
   clear hw1 G1 BW c1 c2 c4 c5 hx hy d0 h
   have hgl1 : g < w1.heap.size := by omega
   have hsz : w.heap.size ≤ w1.heap.size := by omega
   clear hs1
   have hu1 : subL sg a i = (a.drop i).take p := by unfold subL; rw [len1_eq HP.out]
   have hu2 : (subL sg a i).length = p := by rw [hu1, List.length_take, List.length_drop, GW.pa.1]; omega
   have hv1 : subL sg b j = (b.drop j).take q := by unfold subL; rw [len1_eq HQ.out]
   have hv2 : (subL sg b j).length = q := by rw [hv1, List.length_take, List.length_drop, GW.qb.1]; omega
   have cutA := hid (fun (w2 : World) (i2 : Nat) (G : Gn w2 g w.heap.size A n c sg (some ⟨b1, o1, none⟩) m mc a i2 (some ⟨b2, o2, none⟩) k kc b (j + q) D dn dc (T.map cat)) => (Seg.cut (a := i) (j := p) G.pa hip).more (Nat.le_of_lt G.lt))
   have cutB := hid (fun (w2 : World) (i2 : Nat) (G : Gn w2 g w.heap.size A n c sg (some ⟨b1, o1, none⟩) m mc a i2 (some ⟨b2, o2, none⟩) k kc b (j + q) D dn dc (T.map cat)) => (Seg.cut (a := j) (j := q) G.qb hjq).more (Nat.le_of_lt G.lt))
   obtain ⟨u, hu⟩ : ∃ u, (a.drop i).take p = u := ⟨_, rfl⟩
   obtain ⟨v, hv⟩ : ∃ v, (b.drop j).take q = v := ⟨_, rfl⟩
   rw [hu] at cutA hu1
   rw [hv] at cutB hv1
   have HU1 := hid hu1
   have HU2 := hid hu2
   have HV1 := hid hv1
   have HV2 := hid hv2
   have luv : (u ++ v).length = p + q := by rw [List.length_append, ← hu1, ← hv1, hu2, hv2]
   have LPA := hid (fun (w2 : World) (B : Below w1.heap.size w1 w2) => (partA (GW.next B) HP.out hip hp1 hmc hmc2).mono fun e w' (r : _ ∧ _ ∧ _) => (⟨r.1, r.2.1, r.2.2, grown_trans (grown_below B _) r.2.2⟩ : e = .returned (.slice (some ⟨b1, o1 + i, none⟩) p (mc - i)) ∧ Gn w' g w.heap.size A n c sg (some ⟨b1, o1, none⟩) m mc a (i + p) (some ⟨b2, o2, none⟩) k kc b j D dn dc (T.map cat) ∧ w2.grownBy w' (some g) ∧ w1.grownBy w' (some g)))
   have LPB := hid (fun (w2 : World) (G : Gn w2 g w.heap.size A n c sg (some ⟨b1, o1, none⟩) m mc a (i + p) (some ⟨b2, o2, none⟩) k kc b j D dn dc (T.map cat)) (B : w1.grownBy w2 (some g)) => (partB G HQ.out hjq hq1 hkc hkc2).mono fun e w' (r : _ ∧ _ ∧ _) => (⟨r.1, r.2.1, r.2.2, grown_trans B r.2.2⟩ : e = .returned (.slice (some ⟨b2, o2 + j, none⟩) q (kc - j)) ∧ Gn w' g w.heap.size A n c sg (some ⟨b1, o1, none⟩) m mc a (i + p) (some ⟨b2, o2, none⟩) k kc b (j + q) D dn dc (T.map cat) ∧ w2.grownBy w' (some g) ∧ w1.grownBy w' (some g)))
   have kA : Cap (some ⟨b1, o1 + i, none⟩) p (mc - i) := ⟨by omega, by omega, fun e => by cases e⟩
   have kB : Cap (some ⟨b2, o2 + j, none⟩) q (kc - j) := ⟨by omega, by omega, fun e => by cases e⟩
   have LC := hid (fun (wx : World) (gb : Nat) (R : Row wx gb 24 #[.slice (some ⟨b1, o1 + i, none⟩) p (mc - i), .slice (some ⟨b2, o2 + j, none⟩) q (kc - j)]) (G : Gn wx g w.heap.size A n c sg (some ⟨b1, o1, none⟩) m mc a (i + p) (some ⟨b2, o2, none⟩) k kc b (j + q) D dn dc (T.map cat)) (B : w1.grownBy wx (some g)) =>
    (catTwo R (cutA.out wx _ G) (cutB.out wx _ G) kA kB (by omega) (by omega)).mono fun e w' (r : AnsList wx (u ++ v) e w') => (let ⟨O, on, oc, e1, e2, e3⟩ := r; ⟨O, on, oc, e1, e2, e3, G.next e3, grown_trans B (grown_below e3 _), B.size⟩ : ∃ O on oc, e = .returned (.slice O on oc) ∧ Own w' wx.heap.size (.slice O on oc) (u ++ v) ∧ Below wx.heap.size wx w' ∧ Gn w' g w.heap.size A n c sg (some ⟨b1, o1, none⟩) m mc a (i + p) (some ⟨b2, o2, none⟩) k kc b (j + q) D dn dc (T.map cat) ∧ w1.grownBy w' (some g) ∧ w1.heap.size ≤ wx.heap.size))
   clear kA kB cutA cutB hu1 hu2 hv1 hv2 hu hv
   go_cut [4] (fun p4 wx => PB w1 g w.heap.size A n c sg (some ⟨b1, o1, none⟩) m mc a (i + p) (some ⟨b2, o2, none⟩) k kc b (j + q) D dn dc (T.map cat) (u ++ v) p4 wx)
   case first =>
    clear GW BW1
    go_region_held3 (fun _ => True) (trivial)
     (first
      | (go_at_call 94; (with_reducible refine (LPA.out _ ?_).mono ?_); (focus (repeat (first | (with_reducible exact Below.refl _ _) | (with_reducible refine Below.drew ?_) | (with_reducible refine Below.alloc ?_ (by first | omega | (simp only [compImpl.sz_alloc, compImpl.sz_drew]; omega)) _)))); rintro e w3 ⟨rfl, hG3, g3, t3⟩; have s31 := g3.size; (try simp only [compImpl.sz_alloc, compImpl.sz_drew] at s31); (try (obtain ⟨q4, -⟩ : Row w3 w1.heap.size 24 #[.slice none 0 0] ∧ True; (focus ((refine ⟨Row.away ?_ g3 (fun e => by injection e; omega), trivial⟩); (repeat (first | ((with_reducible refine compImpl.row_top ?_); (simp only [compImpl.sz_alloc, compImpl.sz_drew]; done)) | (with_reducible refine compImpl.row_drew ?_) | (with_reducible refine compImpl.row_alloc ?_))); done)))))
      | (go_at_call 94; (with_reducible refine (LPB.out _ ?_ ?_).mono ?_); (focus (first | exact hG3 | exact hG3.alloc _)); (focus (first | exact t3 | exact grown_trans t3 (World.grownBy_alloc _ _ _))); rintro e w4 ⟨rfl, hG4, g4, t4⟩; have s3 := t3.size; have s41 := g4.size; (try simp only [compImpl.sz_alloc, compImpl.sz_drew] at s41); (try (have q4 := Row.away q4 g4 (fun e => by injection e; omega))); (try (obtain ⟨q4, -⟩ : Row w4 w3.heap.size 24 #[.slice none 0 0] ∧ True; (focus ((refine ⟨Row.away ?_ g4 (fun e => by injection e; omega), trivial⟩); (repeat (first | ((with_reducible refine compImpl.row_top ?_); (simp only [compImpl.sz_alloc, compImpl.sz_drew]; done)) | (with_reducible refine compImpl.row_drew ?_) | (with_reducible refine compImpl.row_alloc ?_))); done)))))
      | (go_at_call 93; (with_reducible refine (LC.out _ _ ?_ ?_ ?_).mono ?_); (focus ((repeat (first | ((with_reducible refine compImpl.row_top ?_); (simp only [compImpl.sz_alloc, compImpl.sz_drew]; done)) | (with_reducible refine compImpl.row_drew ?_) | (with_reducible refine compImpl.row_alloc ?_))); done)); (focus (first | exact hG4.alloc _ | exact (hG4.alloc _).alloc _)); (focus (first | exact grown_trans t4 (World.grownBy_alloc _ _ _) | exact grown_trans t4 (grown_trans (World.grownBy_alloc _ _ _) (World.grownBy_alloc _ _ _)))); rintro e w5 ⟨O, on, oc, rfl, ho, b5, hG5, t5, s5⟩; have s4 := t4.size; (try (have q4 := Go.Proofs.Ytgfgaeagbipobaa.base.Row.next (compImpl.row_alloc q4) b5)); (try (obtain ⟨q4, -⟩ : Row w5 w4.heap.size 24 #[.slice none 0 0] ∧ True; (focus ((refine ⟨Go.Proofs.Ytgfgaeagbipobaa.base.Row.next ?_ b5, trivial⟩); (repeat (first | ((with_reducible refine compImpl.row_top ?_); (simp only [compImpl.sz_alloc, compImpl.sz_drew]; done)) | (with_reducible refine compImpl.row_drew ?_) | (with_reducible refine compImpl.row_alloc ?_))); done)))); (try (obtain ⟨q4, -⟩ : Row w5 (w4.heap.size + 1) 24 #[.slice none 0 0] ∧ True; (focus ((refine ⟨Go.Proofs.Ytgfgaeagbipobaa.base.Row.next ?_ b5, trivial⟩); (repeat (first | ((with_reducible refine compImpl.row_top ?_); (simp only [compImpl.sz_alloc, compImpl.sz_drew]; done)) | (with_reducible refine compImpl.row_drew ?_) | (with_reducible refine compImpl.row_alloc ?_))); done)))); (try (have y3 : w5.cell? ⟨_, 0, none⟩ = some (.slice none 0 0) := q4.cell 0; have y4 : w5.frozen? ⟨_, 0, none⟩ = false := q4.free 0))))
    all_goals
     go_wp2_with fail
     go_meet
     first
      | exact pb_after ho s5 hG5 t5
      | exact pb_ahead q4 (by omega) (by simp only [compImpl.sz_alloc, compImpl.sz_drew]; omega) (by omega) (by omega) ho s5 hG5 t5
   case rest =>
    rename World => wc
    obtain ⟨bp, O, on, oc, rfl, rb, ho, hG, hwb, hg⟩ := hcut
    have hdl : dn = T.length := by have := hG.o.len; simpa using this.symm
    have hon : on ≤ 1048576 := by rw [Own.len ho, luv]; omega
    have hgw : w.grownBy wc (some g) := grown_trans (grown_below BW1 _) hg
    have LI := hid (indexAt 95 #[.pointer (some ⟨bp, 0, none⟩)] (enters_of Try.func95 (by kernel_rfl) rfl) (fun ys => decide (ys = u ++ v)) D dn dc (T.map cat) wc (testPair bp O on oc (u ++ v) wc rb (Own.seg ho) hon) hG.o.segs (by omega) (fun z => Nat.le_trans (HF.out.each z) (by omega)))
    have c6 : wc.cell? ⟨g, 6, none⟩ = some (.slice D dn dc) := hG.cell 6
    have HDL := hid hdl
    have hdn60 : dn ≤ 60 := by omega
    clear LPA LPB LC luv hdl
    go_wp2_with fail
    refine LI.out.mono ?_
    rintro e w2 ⟨bI, ⟨z, hz, rfl, hzz⟩ | ⟨rfl, hno⟩⟩
    ·have hgw2 := grown_trans hgw (grown_below bI (some g))
     have G2 := hG.next bI
     have hT := nx_old (u := subL sg a i) (v := subL sg b j) (HDL.out ▸ hz) HF.out (genPos.sub_trm HP.out) ((of_decide_eq_true hzz).trans (by rw [HU1.out, HV1.out]))
     have F := hid (show AnsNx w g A n c sg (some ⟨b1, o1, none⟩) m mc a i (some ⟨b2, o2, none⟩) k kc b j D dn T (.returned (.int .i64 (-1 - (z : Int)))) w2 from
      ⟨_, i + p, j + q, D, dn, dc, T, rfl, ⟨G2.row, G2.s, G2.pa, G2.qb, G2.o.wider (Nat.le_refl _) G2.le, Nat.le_refl _, G2.li, G2.lj, G2.hn, G2.hm, G2.hk, G2.ars⟩, HF.out, Two.left hgw2, fun y hy _ => hy, fun Z _ hA => avoid_grown HOW.out hgw2 hA, .inr ⟨by rw [HU2.out], by rw [HV2.out], gp_old HP.out HQ.out HNS.out hT⟩⟩)
     have hz0 : (0 : Int) ≤ (z : Int) := by omega
     clear hG rb ho hg hgw hgw2 G2 hT bI LI c6 hzz HOW
     go_wp2
     go_ret
     exact F.out
    ·have hnew := nx_new (u := subL sg a i) (v := subL sg b j) (T := T) (fun z hz => by have := hno z (by have := HDL.out; omega); rw [HU1.out, HV1.out]; exact this)
     have G2 := hG.next bI
     have r2 := rb.next bI
     have o2' := Own.next ho bI
     have hgw2 := grown_trans hgw (grown_below bI (some g))
     have c6 : w2.cell? ⟨g, 6, none⟩ = some (.slice D dn dc) := G2.cell 6
     have cp : w2.cell? ⟨bp, 0, none⟩ = some (.slice O on oc) := r2.cell 0
     obtain ⟨wa, hwa⟩ : ∃ wa, wa = (w2.alloc (.cells #[.slice O on oc] 24)).drew := ⟨_, rfl⟩
     have bA : Below w2.heap.size w2 wa := by rw [hwa]; exact ((Below.refl _ _).alloc (Nat.le_refl _) _).drew
     have GA := G2.next bA
     have oA := Own.next o2' bA
     have hgA := grown_trans hgw2 (grown_below bA (some g))
     have HOA := hid (show Owns (w2.alloc (.cells #[.slice O on oc] 24)).drew (g + 1) w.heap.size D dn dc (T.map cat) by rw [← hwa]; exact GA.o)
     have HIN := hid (show Inn (w2.alloc (.cells #[.slice O on oc] 24)).drew w.heap.size (w2.alloc (.cells #[.slice O on oc] 24)).drew.heap.size (.slice O on oc) (u ++ v) by rw [← hwa]; exact inn_own (Own.lower oA hsz))
     have hDg : ∀ y, blk D = some y → g + 1 ≤ y ∧ y < w.heap.size := fun y hy => by
      obtain ⟨_, h2, _⟩ := topRow HOW.out y hy
      exact ⟨h2, (topRow HOW.out y hy).2.2⟩
     have HRA := hid (fun (w8 : World) (hg8 : (w2.alloc (.cells #[.slice O on oc] 24)).drew.grownBy w8 (blk D)) => (show Row w8 g 81 (gcs A n c (some ⟨b1, o1, none⟩) m mc (i + p) (some ⟨b2, o2, none⟩) k kc (j + q) D dn dc) from Row.away (by rw [← hwa]; exact GA.row) hg8 (fun e => by have := (hDg g e).1; omega)))
     have HRP := hid (show Row (w2.alloc (.cells #[.slice O on oc] 24)).drew bp 24 #[.slice O on oc] by rw [← hwa]; exact r2.next bA)
     have HNP : Hid (blk D ≠ some bp) := hid (fun e => by have := (hDg bp e).2; omega)
     have HPU := hid (show AnsNx w g A n c sg (some ⟨b1, o1, none⟩) m mc a i (some ⟨b2, o2, none⟩) k kc b j D dn T = AnsNx w g A n c sg (some ⟨b1, o1, none⟩) m mc a i (some ⟨b2, o2, none⟩) k kc b j D dn T from rfl)
     have FIN := hid (fun (g' c' : Nat) (w8 : World) ho8 hg8 hat8 hb8 hc8 => nx_push (O := O) (on := on) (oc := oc) (c' := c') (w8 := w8) HOW.out GA hgA (hwa ▸ hgA.size) HF.out HP.out HQ.out HNS.out hnew (HU1.out) (HV1.out) HU2.out HV2.out HDL.out hip hjq hm60 hk60 (fun y hy => Nat.le_trans hsz (by have := (ownRow o2' y hy).2.1; omega)) hDg (g' := g') ho8 hg8 hat8 hb8 hc8)
     rw [hwa] at FIN
     have hs2 : w.heap.size ≤ w2.heap.size := hgw2.size
     clear hG rb ho hg hgw hgw2 G2 r2 o2' bI LI hno hnew bA GA oA hgA hwa HPU wa
     go_wp2_with fail
     refine AnyT.start (S := (fun w' => w'.cell? ⟨g, 6, none⟩ = some (.slice D dn dc) ∧ w'.cell? ⟨bp, 0, none⟩ = some (.slice O on oc))) (fun i => decide (8 ≤ i)) (by kernel_rfl) ⟨c6, cp⟩ (fun hHeld => ?_)
     refine AnyT.takeA (i := 0) (v := ?_) rfl (by kernel_rfl) (by kernel_rfl) (by kernel_rfl) (fun _ _ _ h => h) (Or.inl ⟨by rfl, ?_⟩) ?_
     rotate_left 1
     ·(intro w0 _; go_simp; try with_reducible rfl)
     try simp only [Act.put, setIfInBounds_toArray, set_cons_zero, set_cons_succ, getElem_toArray, getElem_cons_zero, getElem_cons_succ]
     refine AnyT.takeA (i := 1) (v := ?_) rfl (by kernel_rfl) (by kernel_rfl) (by kernel_rfl) (fun _ _ _ h => h) (Or.inl ⟨by rfl, ?_⟩) ?_
     rotate_left 1
     ·(intro w0 _; go_simp; try with_reducible rfl)
     try simp only [Act.put, setIfInBounds_toArray, set_cons_zero, set_cons_succ, getElem_toArray, getElem_cons_zero, getElem_cons_succ]
     refine AnyT.takeA (i := 2) (v := ?_) rfl (by kernel_rfl) (by kernel_rfl) (by kernel_rfl) (fun _ _ _ h => h) (Or.inl ⟨by rfl, ?_⟩) ?_
     rotate_left 1
     ·(intro w0 _; go_simp; try with_reducible rfl)
     try simp only [Act.put, setIfInBounds_toArray, set_cons_zero, set_cons_succ, getElem_toArray, getElem_cons_zero, getElem_cons_succ]
     refine AnyT.takeA (i := 3) (v := ?_) rfl (by kernel_rfl) (by kernel_rfl) (by kernel_rfl) (fun _ _ _ h => h) (Or.inl ⟨by rfl, ?_⟩) ?_
     rotate_left 1
     ·(intro w0 _; go_simp; try with_reducible rfl)
     try simp only [Act.put, setIfInBounds_toArray, set_cons_zero, set_cons_succ, getElem_toArray, getElem_cons_zero, getElem_cons_succ]
     refine AnyT.take (i := 4) (v := ?_) rfl (by kernel_rfl) (by kernel_rfl) (by kernel_rfl) (by kernel_rfl) (fun _ _ _ h => h) (Or.inl ⟨by rfl, ?_⟩) (by assumption) ?_
     rotate_left 1
     ·(intro w0 hSw; (try dsimp only at hSw); go_simp; try with_reducible rfl)
     try simp only [Act.put, setIfInBounds_toArray, set_cons_zero, set_cons_succ, getElem_toArray, getElem_cons_zero, getElem_cons_succ]
     refine AnyT.take (i := 5) (v := ?_) rfl (by kernel_rfl) (by kernel_rfl) (by kernel_rfl) (by kernel_rfl) (fun _ _ _ h => h) (Or.inl ⟨by rfl, ?_⟩) (by assumption) ?_
     rotate_left 1
     ·(intro w0 hSw; (try dsimp only at hSw); go_simp; try with_reducible rfl)
     try simp only [Act.put, setIfInBounds_toArray, set_cons_zero, set_cons_succ, getElem_toArray, getElem_cons_zero, getElem_cons_succ]
     refine AnyT.call (i := 6) (by kernel_rfl) rfl (fun K hK => ?_)
     try simp only [Act.put, setIfInBounds_toArray, set_cons_zero, set_cons_succ, getElem_toArray, getElem_cons_zero, getElem_cons_succ]
     rw [if_pos (by rfl)]
     go_simp
     refine hK.out _ _ (fun _ _ => ?_) (fun hKeep => ?_)
     ·exact ⟨compImpl.keep_alloc hHeld.1, compImpl.keep_alloc hHeld.2⟩
     replace hHeld := hKeep (by rfl) hHeld
     clear hK K hKeep
     try simp only [Act.put, setIfInBounds_toArray, set_cons_zero, set_cons_succ, getElem_toArray, getElem_cons_zero, getElem_cons_succ]
     refine AnyT.call (i := 7) (by kernel_rfl) rfl (fun K hK => ?_)
     refine stepS1Z rfl _ _ rfl (g + 1) w.heap.size D dn dc (T.map cat) (by simp [Act.eval]) HOA.out w2.heap.size 1 (.slice O on oc) (u ++ v) (by simp [Act.eval]) (show (w2.alloc (.cells #[.slice O on oc] 24)).drew.cell? ⟨w2.heap.size, 0, none⟩ = _ from compImpl.cell_top rfl) HIN.out (by omega) (by omega) (by simp; omega) _ rfl ?_
     intro g' c' w8 ho8 hg8 hat8 hb8 hc8
     have r8 := HRA.out w8 hg8
     have e6 : w8.cell? ⟨g, 6, none⟩ = some (.slice D dn dc) := r8.cell 6
     have fr6 : w8.frozen? ⟨g, 6, none⟩ = false := r8.free 6
     refine hK.out _ _ (fun _ _ => ?_) (fun hKeep => ?_)
     ·exact ⟨e6, Row.cell (Row.away HRP.out hg8 HNP.out) 0⟩
     clear hK K hKeep hHeld
     try simp only [Act.put, setIfInBounds_toArray, set_cons_zero, set_cons_succ, getElem_toArray, getElem_cons_zero, getElem_cons_succ]
     refine AnyT.call (i := 8) (by kernel_rfl) rfl (fun K hK => ?_)
     try simp only [Act.put, setIfInBounds_toArray, set_cons_zero, set_cons_succ, getElem_toArray, getElem_cons_zero, getElem_cons_succ]
     rw [if_pos (by rfl)]
     go_simp
     refine hK.out _ _ (fun h => by cases h) (fun _ => ?_)
     clear hK K
     try simp only [Act.put, setIfInBounds_toArray, set_cons_zero, set_cons_succ, getElem_toArray, getElem_cons_zero, getElem_cons_succ]
     refine AnyT.call (i := 9) (by kernel_rfl) rfl (fun K hK => ?_)
     try simp only [Act.put, setIfInBounds_toArray, set_cons_zero, set_cons_succ, getElem_toArray, getElem_cons_zero, getElem_cons_succ]
     rw [if_pos (by rfl)]
     go_simp
     refine hK.out _ _ (fun h => by cases h) (fun _ => ?_)
     clear hK K
     try simp only [Act.put, setIfInBounds_toArray, set_cons_zero, set_cons_succ, getElem_toArray, getElem_cons_zero, getElem_cons_succ]
     refine AnyT.call (i := 10) (by kernel_rfl) rfl (fun K hK => ?_)
     try simp only [Act.put, setIfInBounds_toArray, set_cons_zero, set_cons_succ, getElem_toArray, getElem_cons_zero, getElem_cons_succ]
     rw [if_pos (by rfl)]
     go_simp
     refine hK.out _ _ (fun h => by cases h) (fun _ => ?_)
     clear hK K
     try simp only [Act.put, setIfInBounds_toArray, set_cons_zero, set_cons_succ, getElem_toArray, getElem_cons_zero, getElem_cons_succ]
     refine AnyT.done (by kernel_rfl) ?_ _
     go_wp2
     go_ret
     exact FIN.out _ _ _ ho8 hg8 hat8 hb8 hc8
end genNext
end
section
open Go.Lib (hid)
namespace genMain
open Go.RowKit base ints sig cursor marks app appAt sym segs segsHelp term args sub Go.Proofs.Ytgfgaeagbipobaa.look plain same posMath unifMath genMath genPos genTab appZ genSpec genRec
set_option maxRecDepth 100000
section
variable {w wr w5 : World} {lo : Nat} {A : Option Addr} {n c : Nat} {sg : List Int} {P : Option Addr} {m : Nat} {a : List Int} {Q : Option Addr} {k : Nat} {b : List Int} {L R : Option Addr} {ln p q : Nat} {T : Tb} {x : Int} {X : Option Addr} {xn xc : Nat} {Y : Option Addr} {yn yc i : Nat} {L' R' : Option Addr} {ln' lc' rc' : Nat} {O : Option Addr} {on oc : Nat} {g : List Int} {T' : Tb}
theorem two_drew (h : Two wr.drew w5 L' R') : Two wr w5 L' R' := ⟨h.os, h.tape, h.output, h.size, h.block⟩
theorem cells (h : Hr w wr lo A n c sg P m a Q k b L R ln p q T x X xn xc Y yn yc i L' R' ln' lc' rc' O on oc g T') (htwo : Two wr w5 L' R') : w5.cell? ⟨w.heap.size, 0, none⟩ = some (.slice A n c) ∧ (∀ b o j, X = some ⟨b, o, none⟩ → w5.cell? ⟨b, j, none⟩ = wr.cell? ⟨b, j, none⟩) ∧ (∀ b o j, Y = some ⟨b, o, none⟩ → w5.cell? ⟨b, j, none⟩ = wr.cell? ⟨b, j, none⟩) := by
 have key : ∀ z t cs, Row wr z t cs → t ≠ 24 → Row w5 z t cs := fun z t cs hr ht => htwo.row hr (fun e => by obtain ⟨cs2, h1⟩ := h.t.rowL _ e; exact Row.ne_ hr h1 ht rfl) (fun e => by obtain ⟨cs2, h1⟩ := h.t.rowR _ e; exact Row.ne_ hr h1 ht rfl)
 refine ⟨(key _ _ _ h.r0 (by decide)).cell 0, fun b o j e => ?_, fun b o j e => ?_⟩
 ·obtain ⟨⟨cs, h1⟩, _⟩ := ownRow h.ox b (by rw [e]; rfl)
  rw [(key _ _ _ h1 (by decide)).cell j, h1.cell j]
 ·obtain ⟨⟨cs, h1⟩, _⟩ := ownRow h.oy b (by rw [e]; rfl)
  rw [(key _ _ _ h1 (by decide)).cell j, h1.cell j]
theorem upto_len {sg t : List Int} {p k : Nat} : (upto sg t p k).length ≤ argP sg t k (p + 1) - (p + 1) ∧ (upto sg t p k).length ≤ t.length := by
 unfold upto
 rw [List.length_take, List.length_drop]
 omega
end
def HeadR (w : World) (lo : Nat) (A : Option Addr) (n c : Nat) (sg : List Int) (P : Option Addr) (m : Nat) (a : List Int) (Q : Option Addr) (k : Nat) (b : List Int) (L R : Option Addr) (ln p q : Nat) (T : Tb) (x : Int) (X : Option Addr) (xn xc : Nat) (Y : Option Addr) (yn yc : Nat) (l r o iv : Value) (wr : World) : Prop :=
 ∃ (i : Nat) (L' R' : Option Addr) (ln' lc' rc' : Nat) (O : Option Addr) (on oc : Nat) (g : List Int) (T' : Tb), i ≤ xn ∧ l = .slice L' ln' lc' ∧ r = .slice R' ln' rc' ∧ o = .slice O on oc ∧ iv = .int .i64 i ∧ Hr w wr lo A n c sg P m a Q k b L R ln p q T x X xn xc Y yn yc i L' R' ln' lc' rc' O on oc g T'
set_option maxHeartbeats 4000000 in
theorem l5General (A P Q : Option Addr) (n c m mc k kc lo : Nat) (sg a b : List Int) (hn : n ≤ 1048576) (hm : m ≤ 1048576) (hk : k ≤ 1048576) (hcm : m ≤ mc ∧ mc ≤ 9223372036854775807) (hck : k ≤ kc ∧ kc ≤ 9223372036854775807) (hs : Arities sg) :
  ∀ (N : Nat) (L R : Option Addr) (ln lc rc p q j j' : Nat) (T : Tb) (w : World), Seg w lo A n sg → Seg w lo P m a → Seg w lo Q k b → Tabs w lo L ln lc R rc T → lo ≤ w.heap.size → (∀ x ∈ T, x.1.length ≤ 1048576 ∧ x.2.length ≤ 1048576) → T.length + j ≤ 1048576 → scan sg 1 (a.drop p) = some j → scan sg 1 (b.drop q) = some j' → j ≤ N →
  Calls Try.prog 96 #[.agg #[.slice A n c], .slice P m mc, .int .i64 (p : Int), .slice Q k kc, .int .i64 (q : Int), .slice L ln lc, .slice R ln rc] w (AnsGen sg w lo L R ln T (subL sg a p) (subL sg b q)) := by
 intro N
 induction N with
 | zero =>
  intro L R ln lc rc p q j j' T w h hp hq ht hlo hT hTj hj hj' hN
  obtain ⟨_, e, _⟩ := scan_args hj
  omega
 | succ N IH =>
 intro L R ln lc rc p q j j' T w h hp hq ht hlo hT hTj hj hj' hN
 by_cases hsame : 0 ≤ a.getD p 0 ∧ a.getD p 0 = b.getD q 0
 case neg =>
  have hl := ht.len
  exact apart A P Q L R n c m mc k kc ln lc rc lo p q j j' sg a b T w h hp hq ht hlo hn hm hk hcm hck (by omega) hs hj hj' hT hsame
 obtain ⟨h0, hxy⟩ := hsame
 have la := hp.1
 have lb := hq.1
 obtain ⟨ja, ea, hpm, _, _⟩ := scan_args hj
 obtain ⟨jb, eb, hqk, _, _⟩ := scan_args hj'
 have s2 := scan_le hj
 have s3 := scan_le hj'
 rw [List.length_drop] at s2 s3
 rw [la] at hpm s2
 rw [lb] at hqk s3
 have eN : arN sg b q = arN sg a p := by unfold arN; rw [hxy]
 have GD := hid (fun g T' (e : Ga sg a b p q T (arN sg a p) g T') => ga_done hj hj' h0 hxy e)
 obtain ⟨W, hW⟩ : ∃ W, W = w.alloc (.cells #[.slice A n c] 26) := ⟨_, rfl⟩
 have G0 : Gw w W lo A n c sg P m a Q k b L ln lc R rc T := by rw [hW]; exact Gw.start h hp hq ht hlo
 have T0 := hid ht
 have LP := hid (fun w' (G : Gw w w' lo A n c sg P m a Q k b L ln lc R rc T) => l1Args A P n c m mc sg a p _ w' (G.s.more G.low) (G.pa.more G.low) hn hm hs hpm hj (by omega))
 have LQ := hid (fun w' (G : Gw w w' lo A n c sg P m a Q k b L ln lc R rc T) => l1Args A Q n c k kc sg b q _ w' (G.s.more G.low) (G.qb.more G.low) hn hk hs hqk hj' (by omega))
 obtain ⟨b1, o1, x, hPe, hb1, hx, ex⟩ := G0.pa.spot hpm
 obtain ⟨b2, o2, y, hQe, hb2, hy, ey⟩ := G0.qb.spot hqk
 have hxy2 : x = y := by rw [← ex.out, ← ey.out]; exact hxy
 rw [ex.out] at h0
 have EX := hid ex.out
 subst hxy2
 have hlx : (argsL sg a p).length = arN sg a p := by unfold argsL arN; rw [places_len]
 have hly : (argsL sg b q).length = arN sg a p := by rw [← eN]; unfold argsL arN; rw [places_len]
 have h3 := argsL_len (t := a) hs p
 have HC := hid (fun (X Y : Option Addr) (xn xc yn yc i : Nat) (L' R' : Option Addr) (ln' lc' rc' : Nat) (O : Option Addr) (on oc : Nat) (g : List Int) (T' : Tb) wr (H : Hr w wr lo A n c sg P m a Q k b L R ln p q T x X xn xc Y yn yc i L' R' ln' lc' rc' O on oc g T') (hi : i < arN sg a p) => by
  obtain ⟨j1, q1, q2, q3⟩ := arg_sub hj hi
  obtain ⟨j2, q4, q5, q6⟩ := arg_sub hj' (by rw [eN]; exact hi)
  have u1 := upto_len (sg := sg) (t := a) (p := p) (k := i)
  have u2 := upto_len (sg := sg) (t := b) (p := q) (k := i)
  have u3 := gs_len H.ga
  have u4 := argP_ge (sg := sg) (t := a) i (p + 1)
  exact IH L' R' ln' lc' rc' (argP sg a i (p + 1)) (argP sg b i (q + 1)) j1 j2 T' wr.drew H.s.drew H.pa.drew H.qb.drew (H.t.next (drewN_below wr 1)) (Nat.le_trans H.le H.two.size) (gs_bnd H.ga hT (by omega) (by omega)) (by omega) q1 q4 (by omega))
 have HPX := hid (fun i (hi : i < arN sg a p) => (show (argsL sg a p).getD i 0 = (argP sg a i (p + 1) : Int) from places_get hi))
 have HPY := hid (fun i (hi : i < arN sg a p) => (show (argsL sg b q).getD i 0 = (argP sg b i (q + 1) : Int) from places_get (by rw [← eN] at hi; exact hi)))
 have HPB := hid (fun i (hi : i < arN sg a p) => (show argP sg a i (p + 1) ≤ 1048576 ∧ argP sg b i (q + 1) ≤ 1048576 from by
  obtain ⟨j1, q1, q2, q3⟩ := arg_sub hj hi
  obtain ⟨j2, q4, q5, q6⟩ := arg_sub hj' (by rw [eN]; exact hi)
  exact ⟨by omega, by omega⟩))
 subst hPe hQe
 have i0 : (0 : Int) ≤ (p : Int) := by omega
 have i1 : (p : Int) < (m : Int) := by omega
 have j0 : (0 : Int) ≤ (q : Int) := by omega
 have j1 : (q : Int) < (k : Int) := by omega
 have HW := hid hW
 have HTM := hid (show T.length ≤ 1048576 by omega)
 have har : arN sg a p ≤ 3 := by omega
 generalize hu : subL sg a p = u at *
 generalize hv : subL sg b q = v at *
 have HLA := hid la
 have HLU : Hid (∀ i, (subL sg a i).length ≤ a.length) := hid (fun i => by unfold subL; rw [List.length_take, List.length_drop]; omega)
 clear hW h hp hq ht ex ey hT hj hj' s2 s3 hu hv la lb hs IH hxy ea eb hTj hN h3
 have HLX := hid hlx
 have HLY := hid hly
 clear hlx hly eN
 generalize arN sg a p = aN at *
 go_enter Try.func96, Try.ntmps96
 go_wp2_with fail
 rw [← HW.out]
 go_quiet (fail)
 have bd := drewN_below W nq
 have G1 := G0.next bd
 have hx1 : (W.drewN nq).cell? ⟨b1, o1 + p, none⟩ = some (.int .i64 x) := hx
 clear G0 hx hy HW bd
 generalize W.drewN nq = w1 at *
 have G1z := hid G1.bel.size
 have B2 : Below w1.heap.size w1 (w1.alloc (.cells #[.int .i64 x] 2)) := (Below.refl _ _).alloc (Nat.le_refl _) _
 have G2 := G1.next B2
 have O2 := one_own w1 w.heap.size x G1.bel.size
 have c2 : (w1.alloc (.cells #[.int .i64 x] 2)).cell? ⟨w.heap.size, 0, none⟩ = some (.slice A n c) := G2.c0
 have z2 : (w1.alloc (.cells #[.int .i64 x] 2)).heap.size = w1.heap.size + 1 := by simp
 have L2 := hid (LP.out _ G2)
 clear LP
 go_wp2_with fail
 refine L2.out.mono ?_
 rintro e w3 ⟨X, xn, xc, rfl, ox, bb⟩
 have G3 := G2.next bb
 have O3 := Own.next O2 bb
 have z3 := bb.size
 clear G1 G2 O2 c2 bb L2 hx1 B2
 have c3 := G3.c0
 go_wp2_with fail
 refine (LQ.out w3 G3).mono ?_
 rintro e w4 ⟨Y, yn, yc, rfl, oy, bb⟩
 have G4 := G3.next bb
 have O4 := Own.next O3 bb
 have ox4 := Own.next ox bb
 have hxn : xn = aN := by rw [Own.len ox, HLX.out]
 have hyn : yn = aN := by rw [Own.len oy, HLY.out]
 have gx := (ownRow ox)
 have gy := (ownRow oy)
 have zw := G1z.out
 have z4 := bb.size
 have H0 : Hr w w4 lo A n c sg (some ⟨b1, o1, none⟩) m a (some ⟨b2, o2, none⟩) k b L R ln p q T x X xn xc Y yn yc 0 L R ln lc rc (some ⟨w1.heap.size, 0, none⟩) 1 1 [] T := by
  refine ⟨G4.r0, G4.s, G4.pa, G4.qb, G4.t, G4.le, Two.of_below G4.bel, fun k h _ => h, fun k h _ => h, Own.lower ox4 (by omega), Own.lower oy (by omega), O4, fun z hz e => ?_, fun z hz e => ?_, ga_zero, fun Z hZ a1 a2 => ⟨avSame G4.bel T0.out.l.top a1, avSame G4.bel T0.out.r.top a2⟩, Avoid.fresh (T0.out.l.next G4.bel) (fun z hz => ?_), Avoid.fresh (T0.out.r.next G4.bel) (fun z hz => ?_)⟩
  ·have hz : w1.heap.size = z := Option.some.inj hz
   have := (gx z e).2.1
   omega
  ·have hz : w1.heap.size = z := Option.some.inj hz
   have := (gy z e).2.1
   omega
  ·have hz : w1.heap.size = z := Option.some.inj hz
   omega
  ·have hz : w1.heap.size = z := Option.some.inj hz
   omega
 have HS := hid (show HeadR w lo A n c sg (some ⟨b1, o1, none⟩) m a (some ⟨b2, o2, none⟩) k b L R ln p q T x X xn xc Y yn yc (.slice L ln lc) (.slice R ln rc) (.slice (some ⟨w1.heap.size, 0, none⟩) 1 1) (.int .i64 0) w4 from ⟨0, L, R, ln, lc, rc, _, 1, 1, [], T, Nat.zero_le _, rfl, rfl, rfl, rfl, H0⟩)
 clear H0 G3 G4 O3 O4 ox ox4 oy gx gy bb c3 z2 z3 z4 zw LQ T0 G1z
 go_wp2_with fail
 go_loopw [5, 6, 17, 20] (fun l r o i wr => HeadR w lo A n c sg (some ⟨b1, o1, none⟩) m a (some ⟨b2, o2, none⟩) k b L R ln p q T x X xn xc Y yn yc l r o i wr) (fun _ _ _ i _ => xn - (intOf i).toNat)
 case atStart => exact HS.out
 case round =>
  obtain ⟨i, L', R', ln', lc', rc', O, on, oc, g, T', hi, rfl, rfl, rfl, rfl, H⟩ := hrel
  clear HS
  by_cases hlt : i < xn
  ·have i3 : (0 : Int) ≤ (i : Int) := by omega
   have i4 : (i : Int) < (xn : Int) := by omega
   have i5 : (i : Int) < (yn : Int) := by omega
   obtain ⟨bX, oX, vX, hXe, hbX, cX, eX⟩ := (Own.seg H.ox).spot hlt
   obtain ⟨bY, oY, vY, hYe, hbY, cY, eY⟩ := (Own.seg H.oy).spot (k := i) (by omega)
   rw [show vX = (argP sg a i (p + 1) : Int) by rw [← eX.out]; exact HPX.out i (by omega)] at cX
   rw [show vY = (argP sg b i (q + 1) : Int) by rw [← eY.out]; exact HPY.out i (by omega)] at cY
   have CL := hid (HC.out X Y xn xc yn yc i L' R' ln' lc' rc' O on oc g T' wr H (by omega))
   have c0 : wr.cell? ⟨w.heap.size, 0, none⟩ = some (.slice A n c) := H.r0.cell 0
   have hon : on ≤ 1048577 := by
    have e1 := Own.len H.oo
    have e2 := gs_glen H.ga
    have e3 := (upto_len (sg := sg) (t := a) (p := p) (k := i)).2
    have e4 := HLA.out
    simp only [List.length_cons] at e1
    omega
   have KC := hid (fun w5 (h : Two wr.drew w5 L' R') => cells H (two_drew h))
   have KO := hid (fun w5 (h : Two wr.drew w5 L' R') => (two_drew h).own H.oo H.t.rowL H.t.rowR)
   have hzz := H.two.size
   have HH := hid H
   have hb := HPB.out i (by omega)
   subst hXe hYe
   clear H eX eY
   generalize hpx : argP sg a i (p + 1) = px at *
   generalize hpy : argP sg b i (q + 1) = py at *
   have HPX' := hid hpx
   have HPY' := hid hpy
   clear hpx hpy
   go_wp2_with fail
   go_region_held3 (fun w' => w'.cell? ⟨w.heap.size, 0, none⟩ = some (.slice A n c) ∧ w'.cell? ⟨bX, oX + i, none⟩ = some (.int .i64 (px : Int)) ∧ w'.cell? ⟨bY, oY + i, none⟩ = some (.int .i64 (py : Int)))
    (go_keep)
    (first
     | (go_at_call 96; refine CL.out.mono ?_; rintro e w5 ⟨g', T2, O2, L2, R2, on2, oc2, n2, lc2, rc2, rfl, ho2, hgs2, ht2, htwo, hl2, hr2, hav2⟩; have c0' : w5.cell? ⟨w.heap.size, 0, none⟩ = some (.slice A n c) := (KC.out _ htwo).1; have cX' : w5.cell? ⟨bX, oX + i, none⟩ = some (.int .i64 (px : Int)) := ((KC.out _ htwo).2.1 _ _ _ rfl).trans cX; have cY' : w5.cell? ⟨bY, oY + i, none⟩ = some (.int .i64 (py : Int)) := ((KC.out _ htwo).2.2 _ _ _ rfl).trans cY))
   have hgp := gs_pos hgs2
   have hgl := gs_glen hgs2
   have hul := HLU.out px
   have hla := HLA.out
   have e2 := Own.len ho2
   have oo5 := KO.out _ htwo
   have z5 := htwo.size
   have hbase : w.heap.size ≤ w5.heap.size := by
    have e5 : wr.heap.size ≤ w5.heap.size := z5
    omega
   have STEP := hid (fun (O' : Option Addr) (on' oc' : Nat) w6 (ho6 : Own w6 w.heap.size (.slice O' on' oc') ((x :: g) ++ g')) (hg6 : w5.grownBy w6 (blk O)) (hat6 : blk O' = blk O ∨ blk O' = some w5.heap.size) => HH.out.step (by rw [HPX'.out, HPY'.out]; exact hgs2) ht2 (two_drew htwo) hl2 hr2 hav2 ho6 hg6 hat6)
   clear hgs2 hl2 hr2 hav2 ht2 htwo KC KO HH CL HC c0 c0' cX cX' cY cY'
   go_wp2_with (at_builtin; go_must (refine appAllAt rfl _ _ rfl w.heap.size O on oc (x :: g) rfl oo5 O2 on2 oc2 w5.heap.size g' rfl (Own.seg ho2) (by omega) (by omega) (by omega) hbase ?_; intro O' oc' w6 ho6 hg6 hat6))
   have S := hid (show HeadR w lo A n c sg (some ⟨b1, o1, none⟩) m a (some ⟨b2, o2, none⟩) k b L R ln p q T x (some ⟨bX, oX, none⟩) xn xc (some ⟨bY, oY, none⟩) yn yc (.slice L2 n2 lc2) (.slice R2 n2 rc2) (.slice O' (on + on2) oc') (.int .i64 ((i : Int) + 1)) w6 from ⟨i + 1, L2, R2, n2, lc2, rc2, O', on + on2, oc', g ++ g', T2, hlt, rfl, rfl, rfl, by simp, STEP.out _ _ _ _ ho6 hg6 hat6⟩)
   clear STEP ho6 hg6 hat6 oo5 ho2
   go_wp2
   go_roundw
   case rel => rw [← e2]; exact S.out
   case measure => simp [intOf]; omega
  ·obtain rfl : i = xn := by omega
   have hga := H.ga
   rw [hxn] at hga
   have hgs := GD.out g T' hga
   rw [EX.out] at hgs
   have F := hid (show AnsGen sg w lo L R ln T u v (.returned (.tuple #[.slice O on oc, .slice L' ln' lc', .slice R' ln' rc'])) wr from ⟨x :: g, T', O, L', R', on, oc, ln', lc', rc', rfl, H.oo, hgs, H.t, H.two, H.hl, H.hr, H.av⟩)
   clear hga hgs H GD HC
   go_wp2
   go_ret3
   exact F.out
end genMain
end
section
namespace sameSubst
open Go.RowKit base ints sig same marks sym segs segsHelp kinds varsOf fillMath Go.Proofs.Ytgfgaeagbipobaa.look substOk gives
set_option maxRecDepth 100000
end sameSubst
end
section
namespace plainFacts
open Go.RowKit base ints sig term termOk termFacts fillMath plainMath plainOf substOk gives sameSubst compMath filled
end plainFacts
end
section
namespace renPure
open sig term termOk termFacts varsMath fillMath renMath
theorem pigeon : ∀ (n : Nat) (l : List Nat), l.Nodup → (∀ x ∈ l, x < n) → l.length ≤ n
 | 0, l, _, h => by
  cases l with
  | nil => simp
  | cons a r => exact absurd (h a (List.mem_cons_self ..)) (Nat.not_lt_zero _)
 | n + 1, l, hd, h => by
  have h1 := pigeon n (l.erase n) (hd.erase n) (fun x hx => by
   have h2 := (hd.mem_erase_iff).1 hx
   have := h x h2.2
   omega)
  have h3 : l.length ≤ (l.erase n).length + 1 := by
   rw [List.length_erase]
   split <;> omega
  omega
theorem map_nodup {α β : Type} {f : α → β} : ∀ {l : List α}, l.Nodup → (∀ a ∈ l, ∀ b ∈ l, f a = f b → a = b) → (l.map f).Nodup
 | [], _, _ => List.nodup_nil
 | a :: r, h, hf => by
  have h1 := List.nodup_cons.1 h
  rw [List.map_cons, List.nodup_cons]
  refine ⟨fun hm => ?_, map_nodup h1.2 (fun x hx y hy => hf x (List.mem_cons_of_mem _ hx) y (List.mem_cons_of_mem _ hy))⟩
  obtain ⟨b, hb, e⟩ := List.mem_map.1 hm
  have := hf b (List.mem_cons_of_mem _ hb) a (List.mem_cons_self ..) e
  subst this
  exact h1.1 hb
theorem order_24 {sg t : List Int} (h : termOkB sg t = true) : (orderL t).length ≤ 24 := by
 have h1 := pigeon 24 ((orderL t).map fun x => (-1 - x).toNat) (map_nodup (order_nodup t) (fun a ha b hb e => by
  have := (order_mem.1 ha).2
  have := (order_mem.1 hb).2
  omega)) (fun x hx => by
   obtain ⟨y, hy, rfl⟩ := List.mem_map.1 hx
   have h2 := order_mem.1 hy
   have h3 := term_mem h h2.1
   omega)
 simpa using h1
theorem ren_fill (t : List Int) (o : List Int) : fillL (fun i => vt (idx o (-1 - (i : Int)))) t = t.map (ren o) := by
 induction t with
 | nil => rfl
 | cons x r ih =>
  rw [fill_cons, ih, List.map_cons]
  unfold rep ren
  by_cases h : 0 ≤ x
  ·rw [if_pos h, if_neg (by omega)]; rfl
  ·rw [if_neg h, if_pos (by omega)]
   show vt (idx o (-1 - (((-1 - x).toNat : Nat) : Int))) ++ _ = _
   rw [show (-1 - (((-1 - x).toNat : Nat) : Int) : Int) = x by omega]
   rfl
theorem ren_ok {sg t : List Int} (h : termOkB sg t = true) : termOkB sg (renL t) = true := by
 have e : renL t = fillL (fun i => vt (idx (orderL t) (-1 - (i : Int)))) t := (ren_fill t (orderL t)).symm
 rw [e]
 refine fill_term h (fun x hx h0 => ?_) (by rw [← e, ren_len]; exact (term_len h).2)
 show termOkB sg (vt (idx (orderL t) (-1 - (((-1 - x).toNat : Nat) : Int)))) = true
 rw [show (-1 - (((-1 - x).toNat : Nat) : Int) : Int) = x by omega]
 refine var_term (term_parts h).1 ?_
 have h1 := idx_lt (order_mem.2 ⟨hx, h0⟩)
 have h2 := order_24 h
 omega
end renPure
end
section
namespace unifLaw
open sig term termOk termFacts endAt sub termMath fillMath posMath renMath renPure segsHelp substOk gives plainMath plainOf plainFacts filled sameSubst compMath matchMath unifMath genMath
def IsG (sg a b g : List Int) : Prop :=
 (termOkB sg a = true ∧ termOkB sg b = true ∧ ∃ G T', Gs sg [] 1 a b G T' ∧ g = if T'.length ≤ 24 then G else []) ∨ ((termOkB sg a = false ∨ termOkB sg b = false) ∧ g = [])
theorem isG_ex (sg a b : List Int) : ∃ g, IsG sg a b g := by
 cases h1 : termOkB sg a with
 | false => exact ⟨[], .inr ⟨.inl h1, rfl⟩⟩
 | true =>
  cases h2 : termOkB sg b with
  | false => exact ⟨[], .inr ⟨.inr h2, rfl⟩⟩
  | true =>
   obtain ⟨G, T', h⟩ := gs_ex (sg := sg) a.length (T := []) (Nat.le_refl _) (term_parts h1).2.2 (term_parts h2).2.2
   exact ⟨_, .inl ⟨h1, h2, G, T', h, rfl⟩⟩
theorem isG_one {sg a b g g' : List Int} (h : IsG sg a b g) (h' : IsG sg a b g') : g = g' := by
 rcases h with ⟨h1, h2, G, T', h, rfl⟩ | ⟨h, rfl⟩
 ·rcases h' with ⟨_, _, G2, T2, h', rfl⟩ | ⟨h', _⟩
  ·obtain ⟨rfl, rfl⟩ := gs_one h List.nodup_nil h'
   rfl
  ·rcases h' with h' | h'
   ·rw [h1] at h'; cases h'
   ·rw [h2] at h'; cases h'
 ·rcases h' with ⟨h1, h2, _⟩ | ⟨_, rfl⟩
  ·rcases h with h | h
   ·rw [h1] at h; cases h
   ·rw [h2] at h; cases h
  ·rfl
theorem isG_symm {sg a b g : List Int} (h : IsG sg a b g) : IsG sg b a g := by
 rcases h with ⟨h1, h2, G, T', h, e⟩ | ⟨h, e⟩
 ·exact .inl ⟨h2, h1, G, _, gs_swap h, by rw [List.length_map]; exact e⟩
 ·exact .inr ⟨h.symm, e⟩
theorem isG_len {sg a b g : List Int} (h : IsG sg a b g) : g.length ≤ 60 := by
 rcases h with ⟨h1, h2, G, T', h, rfl⟩ | ⟨_, rfl⟩
 ·split
  ·have ht := gs_gt h []
   rw [List.append_nil] at ht
   obtain ⟨f, _, hv⟩ := gt_fill ht
   have h3 : ∀ {l : List Int}, (∀ x ∈ l, x < 0 → 1 ≤ (f1 T' (vr x)).length) → l.length ≤ (fillL (f1 T') l).length := by
    intro l
    induction l with
    | nil => intro _; simp
    | cons x r ih =>
     intro hx
     have := ih (fun y hy => hx y (List.mem_cons_of_mem _ hy))
     rw [fill_cons, List.length_append, List.length_cons]
     by_cases h0 : 0 ≤ x
     ·rw [rep_sym h0, List.length_singleton]; omega
     ·rw [rep_vr (by omega)]
      have := hx x (List.mem_cons_self ..) (by omega)
      omega
   have h4 := h3 (fun x hx h0 => (hv x hx h0).2.1.pos)
   rw [f] at h4
   exact Nat.le_trans h4 (term_len h1).2
  ·simp
 ·simp
theorem isG_facts {sg a b g : List Int} (h : IsG sg a b g) (hg : g ≠ []) : termOkB sg g = true ∧ instB sg g a = true ∧ instB sg g b = true ∧ ∀ p, instB sg p a = true → instB sg p b = true → instB sg p g = true := by
 have hl := isG_len h
 rcases h with ⟨h1, h2, G, T', h, e⟩ | ⟨_, e⟩
 ·by_cases h24 : T'.length ≤ 24
  ·rw [if_pos h24] at e
   subst e
   have ht := gs_gt h []
   rw [List.append_nil] at ht
   have tg : termOkB sg g = true := term_mk (term_parts h1).1 hl (gt_scan h24 ht)
   obtain ⟨fa, fb, hv⟩ := gt_fill ht
   refine ⟨tg, (inst_iff tg h1).2 ⟨f1 T', fa, fun x hx h0 => (hv x hx h0).2.1⟩, (inst_iff tg h2).2 ⟨f2 T', fb, fun x hx h0 => (hv x hx h0).2.2⟩, fun p p1 p2 => ?_⟩
   obtain ⟨hp, _⟩ := inst_ok p1
   obtain ⟨A, eA, hA⟩ := (inst_iff hp h1).1 p1
   obtain ⟨B, eB, hB⟩ := (inst_iff hp h2).1 p2
   -- look-ups that are terms everywhere
   have mk : ∀ C : Nat → List Int, (∀ x ∈ p, x < 0 → scan sg 1 (C (vr x)) = some (C (vr x)).length) → ∃ D, Sub sg D ∧ fillL D p = fillL C p := by
    intro C hC
    have hch : ∀ i, ∃ d, (i < 24 → Trm sg d) ∧ (24 ≤ i → d = vt i) ∧ (Trm sg (C i) → i < 24 → d = C i) := fun i => by
     by_cases hi : i < 24
     ·by_cases ht : Trm sg (C i)
      ·exact ⟨C i, fun _ => ht, fun h => absurd hi (by omega), fun _ _ => rfl⟩
      ·exact ⟨vt i, fun _ => Trm.vt hi, fun _ => rfl, fun h _ => absurd h ht⟩
     ·exact ⟨vt i, fun h => absurd h hi, fun _ => rfl, fun _ h => absurd h hi⟩
    refine ⟨fun i => (hch i).choose, ⟨fun i hi => (hch i).choose_spec.1 hi, fun i hi => (hch i).choose_spec.2.1 hi⟩, ?_⟩
    refine fill_ext (fun x hx h0 => ?_)
    have := term_mem hp hx
    exact (hch (vr x)).choose_spec.2.2 (hC x hx h0) (by unfold vr; omega)
   obtain ⟨A', sA, qA⟩ := mk A hA
   obtain ⟨B', sB, qB⟩ := mk B hB
   obtain ⟨M, hM⟩ := gt_least (gs_nodup h List.nodup_nil) sA sB
   obtain ⟨m1, m2⟩ := hM (p := p) (n := 1) (g := g) (term_parts hp).2.2 (by rw [qA, qB, eA, eB]; exact ht)
   exact (inst_iff hp tg).2 ⟨M, m1, fun x hx h0 => gt_scan h24 (m2 x hx h0)⟩
  ·rw [if_neg h24] at e
   exact absurd e hg
 ·exact absurd e hg
end unifLaw
end
section
open Go.Lib (hid)
namespace general
open Go.RowKit base ints sig cursor marks app appAt sym segs segsHelp term args sub Go.Proofs.Ytgfgaeagbipobaa.look plain unifMath genMath genPos genTab genSpec genMain termOk termFacts termMath endAt unifLaw
set_option maxRecDepth 100000
theorem owns_empty {w : World} {lo hi g : Nat} (hr : Row w g 24 #[]) (h1 : lo ≤ g) (h2 : g < hi) : Owns w lo hi (some ⟨g, 0, none⟩) 0 0 [] :=
 ⟨rfl, ⟨[], by have := rowsOf (n := 0) (c := 0) hr rfl (Nat.le_refl _) (by omega) h1; simpa using this, fun j hj => absurd hj (Nat.not_lt_zero _), fun i j k _ hj => absurd hj (Nat.not_lt_zero _)⟩, fun k hk => by
  have hk : g = k := Option.some.inj hk
  omega⟩
theorem sub_all {sg t : List Int} (h : Trm sg t) : subL sg t 0 = t := by
 unfold subL
 rw [List.drop_zero, len1_eq (j := t.length) (by rw [List.drop_zero]; exact h), List.take_length]
set_option maxHeartbeats 2000000 in
theorem l5Least (A P Q : Option Addr) (n c m mc k kc : Nat) (sg a b : List Int) (w : World) (h : Seg w w.heap.size A n sg) (hp : Seg w w.heap.size P m a) (hq : Seg w w.heap.size Q k b) (hn : n ≤ 1048576) (hm : m ≤ 1048576) (hk : k ≤ 1048576) (hcm : m ≤ mc ∧ mc ≤ 9223372036854775807) (hck : k ≤ kc ∧ kc ≤ 9223372036854775807) (hs : Arities sg)
  (ha : Trm sg a) (hb : Trm sg b) (G : List Int) (T' : Tb) (hG : Gs sg [] 1 a b G T') :
  Calls Try.prog 72 #[.agg #[.slice A n c], .slice P m mc, .slice Q k kc] w (AnsList w (if T'.length ≤ 24 then G else [])) := by
 obtain ⟨W, hW⟩ : ∃ W, W = ((w.alloc (.cells #[.slice A n c] 26)).alloc (.cells #[] 24)).alloc (.cells #[] 24) := ⟨_, rfl⟩
 have z : W.heap.size = w.heap.size + 1 + 1 + 1 := by rw [hW]; simp
 have bW : Below w.heap.size w W := by rw [hW]; exact (((Below.refl _ _).alloc (Nat.le_refl _) _).alloc (by simp) _).alloc (by simp; omega) _
 have r1 : Row W (w.heap.size + 1) 24 #[] := by
  rw [hW]
  have := (Row.new (w.alloc (.cells #[.slice A n c] 26)) 24 #[]).alloc (.cells #[] 24)
  simpa using this
 have r2 : Row W (w.heap.size + 1 + 1) 24 #[] := by
  rw [hW]
  have := Row.new ((w.alloc (.cells #[.slice A n c] 26)).alloc (.cells #[] 24)) 24 #[]
  simpa using this
 have tabs : Tabs W (w.heap.size + 1) (some ⟨w.heap.size + 1, 0, none⟩) 0 0 (some ⟨w.heap.size + 1 + 1, 0, none⟩) 0 [] := by
  refine ⟨owns_empty r1 (Nat.le_refl _) (by omega), owns_empty r2 (by omega) (by omega), fun k hk e => ?_⟩
  have h1 : w.heap.size + 1 = k := Option.some.inj hk
  have h2 : w.heap.size + 1 + 1 = k := Option.some.inj e
  omega
 have la := hp.1
 have C := hid (l5General A P Q n c m mc k kc (w.heap.size + 1) sg a b hn hm hk hcm hck hs a.length (some ⟨w.heap.size + 1, 0, none⟩) (some ⟨w.heap.size + 1 + 1, 0, none⟩) 0 0 0 0 0 a.length b.length [] W ((h.below bW).more (Nat.le_succ _)) ((hp.below bW).more (Nat.le_succ _)) ((hq.below bW).more (Nat.le_succ _)) tabs (by omega) (fun x hx => absurd hx (List.not_mem_nil)) (by simp only [List.length_nil]; omega) (by rw [List.drop_zero]; exact ha) (by rw [List.drop_zero]; exact hb) (Nat.le_refl _))
 rw [sub_all ha, sub_all hb] at C
 have HG := hid hG
 obtain ⟨ys, hys⟩ : ∃ ys, (if T'.length ≤ 24 then G else []) = ys := ⟨_, rfl⟩
 rw [hys]
 have HY := hid hys
 clear hys
 have HW := hid hW
 have HB := hid bW
 have HZ := hid z
 clear h hp hq ha hb hG hW bW tabs r1 r2 la hs z
 go_enter Try.func72, Try.ntmps72
 go_wp2_with fail
 rw [← HW.out]
 refine C.out.mono ?_
 rintro e w1 ⟨g, T2, O, L2, R2, on, oc, n2, lc2, rc2, rfl, ho, hgs, ht, htwo, -, -, -⟩
 obtain ⟨e1, e2⟩ := gs_one hgs List.nodup_nil HG.out
 subst e1 e2
 have hn2 : T2.length = n2 := ht.len
 have b1 : Below w.heap.size w w1 := HB.out.trans (htwo.below (fun k hk => by have : w.heap.size + 1 = k := Option.some.inj hk; omega) (fun k hk => by have : w.heap.size + 1 + 1 = k := Option.some.inj hk; omega) HB.out.size)
 by_cases h24 : T2.length ≤ 24
 ·have hy := HY.out
  rw [if_pos h24] at hy
  subst hy
  have F := hid (show AnsList w g (.returned (.slice O on oc)) w1 from ⟨O, on, oc, rfl, Own.lower ho HB.out.size, b1⟩)
  clear ho hgs ht htwo b1 C
  go_wp2
  go_ret
  exact F.out
 ·have hy := HY.out
  rw [if_neg h24] at hy
  subst hy
  have F := hid (show AnsList w [] (.returned (.slice (some ⟨w1.heap.size, 0, none⟩) 0 0)) (w1.alloc (.cells #[] 2)) from ⟨_, 0, 0, rfl, own_empty w1 _ b1.size, b1.alloc b1.size _⟩)
  clear ho hgs ht htwo b1 C
  go_wp2
  go_ret
  exact F.out
structure Gr (w wr : World) (A : Option Addr) (n c : Nat) (sg : List Int) (P : Option Addr) (m : Nat) (a : List Int) (Q : Option Addr) (k : Nat) (b : List Int) : Prop where
 r0 : Row wr w.heap.size 26 #[.slice A n c]
 s : Seg wr wr.heap.size A n sg
 pa : Seg wr wr.heap.size P m a
 qb : Seg wr wr.heap.size Q k b
 b : Below w.heap.size w wr
theorem Gr.next {w wr w' : World} {A : Option Addr} {n c : Nat} {sg : List Int} {P : Option Addr} {m : Nat} {a : List Int} {Q : Option Addr} {k : Nat} {b : List Int} (h : Gr w wr A n c sg P m a Q k b) (hb : Below wr.heap.size wr w') : Gr w w' A n c sg P m a Q k b :=
 ⟨h.r0.next hb, h.s.next hb, h.pa.next hb, h.qb.next hb, next_trans h.b hb⟩
theorem isG_off {sg a b g : List Int} (h : IsG sg a b g) (ho : termOkB sg a = false ∨ termOkB sg b = false) : g = [] := by
 rcases h with ⟨h1, h2, _⟩ | ⟨_, e⟩
 ·rcases ho with h | h
  ·rw [h1] at h; cases h
  ·rw [h2] at h; cases h
 ·exact e
set_option maxHeartbeats 2000000 in
theorem specGeneralised (A P Q : Option Addr) (n c m mc k kc : Nat) (sg a b : List Int) (w : World) (ys : List Int) (hG : IsG sg a b ys) (h : Seg w w.heap.size A n sg) (hp : Seg w w.heap.size P m a) (hq : Seg w w.heap.size Q k b) (hn : n ≤ 1048576) (hm : m ≤ 1048576) (hk : k ≤ 1048576) (hcm : m ≤ mc ∧ mc ≤ 9223372036854775807) (hck : k ≤ kc ∧ kc ≤ 9223372036854775807) :
  Calls Try.prog 29 #[.agg #[.slice A n c], .slice P m mc, .slice Q k kc] w (AnsList w ys) := by
 obtain ⟨W, hW⟩ : ∃ W, W = w.alloc (.cells #[.slice A n c] 26) := ⟨_, rfl⟩
 have b0 : Below w.heap.size w W := by rw [hW]; exact (Below.refl _ _).alloc (Nat.le_refl _) _
 have M : Gr w W A n c sg P m a Q k b := ⟨by rw [hW]; exact Row.new _ _ _, h.next b0, hp.next b0, hq.next b0, b0⟩
 have HW := hid hW
 have HG := hid hG
 have L1 := hid (specTermOk A P n c m mc sg a W M.s M.pa hn hm)
 have L2 := hid (fun w' (M : Gr w w' A n c sg P m a Q k b) => specTermOk A Q n c k kc sg b w' M.s M.qb hn hk)
 have c0 : (w.alloc (.cells #[.slice A n c] 26)).cell? ⟨w.heap.size, 0, none⟩ = some (.slice A n c) := by rw [← hW]; exact M.r0.cell 0
 clear hG hW h hp hq b0
 obtain ⟨va, hva⟩ : ∃ v, termOkB sg a = v := ⟨_, rfl⟩
 obtain ⟨vb, hvb⟩ : ∃ v, termOkB sg b = v := ⟨_, rfl⟩
 have HA := hid hva
 have HB := hid hvb
 clear hva hvb
 cases va with
 | false =>
  go_enter Try.func29, Try.ntmps29
  go_wp2_with fail
  rw [← HW.out]
  refine L1.out.mono ?_
  rintro e w1 ⟨he, bb⟩
  rw [HA.out] at he
  subst he
  replace M := M.next bb
  obtain rfl := isG_off HG.out (.inl HA.out)
  have F := hid (show AnsList w [] (.returned (.slice (some ⟨w1.heap.size, 0, none⟩) 0 0)) (w1.alloc (.cells #[] 2)) from ⟨_, 0, 0, rfl, own_empty w1 _ M.b.size, M.b.alloc M.b.size _⟩)
  clear M bb L1 L2
  go_wp2
  go_ret
  exact F.out
 | true =>
  cases vb with
  | false =>
   go_enter Try.func29, Try.ntmps29
   go_wp2_with fail
   rw [← HW.out]
   refine L1.out.mono ?_
   rintro e w1 ⟨he, bb⟩
   rw [HA.out] at he
   subst he
   replace M := M.next bb
   have c1 := M.r0.cell 0
   clear bb c0
   go_wp2_with fail
   refine (L2.out w1 M).mono ?_
   rintro e w2 ⟨he, bb⟩
   rw [HB.out] at he
   subst he
   replace M := M.next bb
   obtain rfl := isG_off HG.out (.inr HB.out)
   have F := hid (show AnsList w [] (.returned (.slice (some ⟨w2.heap.size, 0, none⟩) 0 0)) (w2.alloc (.cells #[] 2)) from ⟨_, 0, 0, rfl, own_empty w2 _ M.b.size, M.b.alloc M.b.size _⟩)
   clear M bb L1 L2 c1
   go_wp2
   go_ret
   exact F.out
  | true =>
   have hars := (sig_arities (termOk_parts HA.out).1).1
   obtain ⟨G, T', hgs, hys⟩ : ∃ G T', Gs sg [] 1 a b G T' ∧ ys = if T'.length ≤ 24 then G else [] := by
    rcases HG.out with ⟨_, _, h⟩ | ⟨h, _⟩
    ·exact h
    ·rw [HA.out, HB.out] at h
     rcases h with h | h <;> cases h
   have LL := hid (fun w' (M : Gr w w' A n c sg P m a Q k b) => l5Least A P Q n c m mc k kc sg a b w' M.s M.pa M.qb hn hm hk hcm hck hars (term_parts HA.out).2.2 (term_parts HB.out).2.2 G T' hgs)
   rw [← hys] at LL
   clear hys hgs hars
   go_enter Try.func29, Try.ntmps29
   go_wp2_with fail
   rw [← HW.out]
   refine L1.out.mono ?_
   rintro e w1 ⟨he, bb⟩
   rw [HA.out] at he
   subst he
   replace M := M.next bb
   have c1 : w1.cell? ⟨w.heap.size, 0, none⟩ = some (.slice A n c) := M.r0.cell 0
   clear bb c0
   go_wp2_with fail
   refine (L2.out w1 M).mono ?_
   rintro e w2 ⟨he, bb⟩
   rw [HB.out] at he
   subst he
   replace M := M.next bb
   have c2 : w2.cell? ⟨w.heap.size, 0, none⟩ = some (.slice A n c) := M.r0.cell 0
   clear bb c1
   go_wp2_with fail
   refine (LL.out w2 M).mono ?_
   rintro e w3 ⟨D, dn, dc, rfl, od, bb⟩
   have F := hid (show AnsList w ys (.returned (.slice D dn dc)) w3 from ⟨D, dn, dc, rfl, Own.lower od M.b.size, next_trans M.b bb⟩)
   clear M bb L1 L2 LL c2 od
   go_wp2
   go_ret
   exact F.out
end general
end
section
open Go.Lib (hid)
namespace genImpl
open Go.RowKit base ints same sig cursor marks app appAt sym segs segsHelp kinds term termOk termFacts termMath endAt sub Go.Proofs.Ytgfgaeagbipobaa.look plain curO unifMath genMath genPos genTab genRec appZ unifLaw general genSt genNext
set_option maxRecDepth 100000
theorem own_two {w w' : World} {g base : Nat} {D O : Option Addr} {on oc : Nat} {xs : List Int} {cs : Array Value} (ho : Own w base (.slice O on oc) xs) (hr : Row w g 81 cs) (hD : ∀ k, blk D = some k → ∃ cs, Row w k 24 cs) (h : Two w w' (some ⟨g, 0, none⟩) D) : Own w' base (.slice O on oc) xs := by
 obtain ⟨h1, h2⟩ := ho
 refine ⟨h1, ?_⟩
 rcases h2 with h2 | ⟨z, cap, cur, e, hb, hg, hn, hm, hs, ht⟩
 ·exact .inl h2
 ·refine .inr ⟨z, cap, cur, e, hb, Two.row h hg (fun e => ?_) (fun e => ?_), hn, hm, hs, ht⟩
  ·injection e with e
   rw [← e] at hg
   exact Row.ne_ hg hr (by decide) rfl
  ·obtain ⟨cs, hc⟩ := hD z e
   exact Row.ne_ hg hc (by decide) rfl
theorem front {sg l : List Int} {q : Nat} (h : scan sg q l = some l.length) (hl : 0 < l.length) : ∃ q1 p, q = q1 + 1 ∧ scan sg 1 l = some p ∧ 1 ≤ p ∧ p ≤ l.length ∧ scan sg q1 (l.drop p) = some (l.drop p).length := by
 cases q with
 | zero => rw [scan_zero] at h; injection h with h; omega
 | succ q1 =>
  obtain ⟨s, r, e, hs, hr⟩ := seq_front h
  subst e
  refine ⟨q1, s.length, rfl, scan_append hs, hs.pos, by simp, ?_⟩
  rw [List.drop_left]
  exact hr
theorem none_left {sg l : List Int} {q : Nat} (h : scan sg q l = some l.length) (hl : l.length = 0) : q = 0 := by
 cases q with
 | zero => rfl
 | succ q =>
  rw [List.eq_nil_of_length_eq_zero hl] at h
  rw [scan_nil] at h
  cases h
structure Run (sg a b : List Int) (i j q : Nat) (T : Tb) (R : List Int) : Prop where
 sa : scan sg q (a.drop i) = some (a.drop i).length
 sb : scan sg q (b.drop j) = some (b.drop j).length
 li : i ≤ a.length
 lj : j ≤ b.length
 fin : ∀ G2 T2, Gs sg T q (a.drop i) (b.drop j) G2 T2 → Gs sg [] 1 a b (R ++ G2) T2
 fine : Fine2 sg T
 tl : T.length ≤ i
 rl : R.length ≤ i
theorem Run.start {sg a b : List Int} (ha : Trm sg a) (hb : Trm sg b) : Run sg a b 0 0 1 [] [] :=
 ⟨by rw [List.drop_zero]; exact ha, by rw [List.drop_zero]; exact hb, Nat.zero_le _, Nat.zero_le _, fun G2 T2 h => by simpa using h, fun x hx => absurd hx (List.not_mem_nil), by simp, by simp⟩
theorem drop_at {a : List Int} {i : Nat} {x : Int} (hi : i < a.length) (hx : a.getD i 0 = x) : a.drop i = x :: a.drop (i + 1) := by rw [drop_cons hi, hx]
theorem Run.sym {sg a b : List Int} {i j q : Nat} {T : Tb} {R : List Int} {x : Int} (h : Run sg a b i j (q + 1) T R) (hi : i < a.length) (hj : j < b.length) (h0 : 0 ≤ x) (ea : a.getD i 0 = x) (eb : b.getD j 0 = x) : Run sg a b (i + 1) (j + 1) (q + (ar sg x).toNat) T (R ++ [x]) := by
 have da := drop_at hi ea
 have db := drop_at hj eb
 have ha := h.sa
 have hb := h.sb
 rw [da] at ha
 rw [db] at hb
 have har : ¬ ar sg x < 0 := fun e => by rw [scan_bad e] at ha; cases ha
 rw [scan_step har, Option.map_eq_some_iff] at ha hb
 obtain ⟨za, ha1, ha2⟩ := ha
 obtain ⟨zb, hb1, hb2⟩ := hb
 simp only [List.length_cons] at ha2 hb2
 refine ⟨by rw [ha1]; congr 1; omega, by rw [hb1]; congr 1; omega, hi, hj, fun G2 T2 hG => ?_, h.fine, Nat.le_succ_of_le h.tl, by rw [List.length_append]; have := h.rl; simp; omega⟩
 rw [List.append_assoc]
 refine h.fin _ _ ?_
 rw [da, db]
 exact Gs.sym h0 har hG
theorem Run.pair {sg a b : List Int} {i j q p p' : Nat} {T T' : Tb} {R : List Int} {x : Int} (h : Run sg a b i j (q + 1) T R) (hp : scan sg 1 (a.drop i) = some p) (hp' : scan sg 1 (b.drop j) = some p') (h1 : 1 ≤ p) (hpa : p ≤ (a.drop i).length) (hpb : p' ≤ (b.drop j).length) (ha : scan sg q ((a.drop i).drop p) = some ((a.drop i).drop p).length) (hb : scan sg q ((b.drop j).drop p') = some ((b.drop j).drop p').length) (hf : Fine2 sg T') (ht : T'.length ≤ T.length + 1)
  (hG : Gs sg T 1 (subL sg a i) (subL sg b j) [x] T') : Run sg a b (i + p) (j + p') q T' (R ++ [x]) := by
 have la := h.li
 have lb := h.lj
 rw [List.length_drop] at hpa hpb
 have ea : subL sg a i = (a.drop i).take p := by unfold subL; rw [len1_eq hp]
 have eb : subL sg b j = (b.drop j).take p' := by unfold subL; rw [len1_eq hp']
 rw [List.drop_drop] at ha hb
 refine ⟨ha, hb, by omega, by omega, fun G2 T2 hG2 => ?_, hf, by have := h.tl; omega, by rw [List.length_append]; have := h.rl; simp; omega⟩
 rw [List.append_assoc]
 refine h.fin _ _ ?_
 have := gs_comp hG hG2
 rw [ea, eb] at this
 rw [← List.drop_drop, ← List.drop_drop] at this
 rw [List.take_append_drop, List.take_append_drop, Nat.add_comm] at this
 exact this
theorem Run.end {sg a b : List Int} {i j q : Nat} {T : Tb} {R : List Int} (h : Run sg a b i j q T R) (hi : i = a.length) : Gs sg [] 1 a b R T := by
 have hq := none_left h.sa (by rw [List.length_drop]; omega)
 subst hq
 have hb := h.sb
 rw [scan_zero] at hb
 injection hb with hb
 have e1 : a.drop i = [] := List.drop_eq_nil_of_le (by omega)
 have e2 : b.drop j = [] := List.eq_nil_of_length_eq_zero hb.symm
 have := h.fin [] T (by rw [e1, e2]; exact Gs.nil T)
 rwa [List.append_nil] at this
theorem gs_len1 {sg : List Int} {T T' : Tb} {u w : List Int} {x : Int} (h : Gs sg T 1 u w [x] T') : T'.length ≤ T.length + 1 := by
 have key : ∀ {n : Nat} {T T' : Tb} {u w g : List Int}, Gs sg T n u w g T' → T'.length ≤ T.length + g.length := by
  intro n T T' u w g h
  induction h with
  | nil T => simp
  | sym _ _ _ ih => simp only [List.length_cons]; omega
  | old _ _ _ _ _ ih => simp only [List.length_cons]; omega
  | new _ _ _ _ _ ih => simp only [List.length_append, List.length_cons, List.length_nil] at ih ⊢; omega
 have := key h
 simpa using this
def HeadG (w : World) (g : Nat) (A : Option Addr) (n c : Nat) (sg : List Int) (P : Option Addr) (m mc : Nat) (a : List Int) (Q : Option Addr) (k kc : Nat) (b : List Int) (f : Nat) (r : Value) (wr : World) : Prop :=
 ∃ (i j q dn dc : Nat) (D : Option Addr) (T : Tb) (R : List Int) (O : Option Addr) (on oc : Nat), r = .slice O on oc ∧ Gn wr g wr.heap.size A n c sg P m mc a i Q k kc b j D dn dc (T.map cat) ∧ Run sg a b i j q T R ∧ Own wr (g + 1) (.slice O on oc) R ∧ Avoid (fun z => blk O = some z) wr D dn ∧ i + f = m ∧ Below w.heap.size w wr
set_option maxHeartbeats 2000000 in
theorem head_step {w w3 w4 w5 : World} {g : Nat} {A : Option Addr} {n c : Nat} {sg : List Int} {P : Option Addr} {m mc : Nat} {a : List Int} {Q : Option Addr} {k kc : Nat} {b : List Int} {i i' j j' q' dn dn' dc' : Nat} {D D' : Option Addr} {T' : Tb} {R : List Int} {O O' : Option Addr} {on oc on' oc' : Nat} {x : Int} {xss : List (List Int)} {hi dc : Nat}
  (hw3 : w.heap.size ≤ g) (G3 : Gn w3 g hi A n c sg P m mc a i Q k kc b j D dn dc xss) (o3 : Own w3 (g + 1) (.slice O on oc) R) (a3 : Avoid (fun z => blk O = some z) w3 D dn) (b3 : Below w.heap.size w w3)
  (G4 : Gn w4 g w4.heap.size A n c sg P m mc a i' Q k kc b j' D' dn' dc' (T'.map cat)) (t4 : Two w3 w4 (some ⟨g, 0, none⟩) D) (hD : ∀ z, blk D' = some z → z < w3.heap.size → blk D = some z) (av : ∀ Z : Nat → Prop, (∀ z, Z z → z < w3.heap.size) → Avoid Z w3 D dn → Avoid Z w4 D' dn') (hR : Run sg a b i' j' q' T' (R ++ [x]))
  (o5 : Own w5 (g + 1) (.slice O' on' oc') (R ++ [x])) (g5 : (w4.alloc (.cells #[.int .i64 x] 2)).grownBy w5 (blk O)) (at5 : blk O' = blk O ∨ blk O' = some (w4.alloc (.cells #[.int .i64 x] 2)).heap.size) :
  HeadG w g A n c sg P m mc a Q k kc b (m - i') (.slice O' on' oc') w5 := by
 obtain ⟨W, hW⟩ : ∃ W, W = w4.alloc (.cells #[.int .i64 x] 2) := ⟨_, rfl⟩
 rw [← hW] at g5 at5
 have bW : Below w4.heap.size w4 W := by rw [hW]; exact (Below.refl _ _).alloc (Nat.le_refl _) _
 have rowD : ∀ z, blk D = some z → ∃ cs, Row w3 z 24 cs := fun z hz => (topRow G3.o z hz).1
 have o4 : Own w4 (g + 1) (.slice O on oc) R := own_two o3 G3.row rowD t4
 have a4 := av _ (fun z hz => (ownRow o3 z hz).2.2) a3
 have GW := G4.next bW
 have oW : Own W (g + 1) (.slice O on oc) R := Own.next o4 bW
 have aW : Avoid (fun z => blk O = some z) W D' dn' := a4.keep fun b' y e => bW.cell (p := ⟨b', y, none⟩) (topRow G4.o b' (by rw [e]; rfl)).2.2
 have hOg : ∀ z, blk O = some z → g + 1 ≤ z ∧ z < W.heap.size := fun z hz => (ownRow oW z hz).2
 have hne : ∀ z, blk D' = some z → blk O ≠ some z := fun z hz e => by
  obtain ⟨cs, h1⟩ := (topRow GW.o z hz).1
  obtain ⟨⟨cs2, h2⟩, _⟩ := ownRow oW z e
  exact Row.ne_ h2 h1 (by decide) rfl
 have B5 : Below (g + 1) W w5 := (Below.refl (g + 1) W).grown g5 (by have := GW.lt; omega) (fun z hz => (hOg z hz).1)
 have o5' : Owns w5 (g + 1) w4.heap.size D' dn' dc' (T'.map cat) := Avoid.owns GW.o aW (fun z hz => hne z hz) g5
 have G5 : Gn w5 g w5.heap.size A n c sg P m mc a i' Q k kc b j' D' dn' dc' (T'.map cat) :=
  ⟨Row.away GW.row g5 (fun e => by have := (hOg g e).1; omega), GW.s.below (B5.mono (Nat.le_succ _)), GW.pa.below (B5.mono (Nat.le_succ _)), GW.qb.below (B5.mono (Nat.le_succ _)), o5'.wider (Nat.le_refl _) (by have := g5.size; have := bW.size; omega), Nat.le_refl _, GW.li, GW.lj, GW.hn, GW.hm, GW.hk, GW.ars⟩
 have hgz : ∀ z, blk (some (⟨g, 0, none⟩ : Addr)) = some z → w.heap.size ≤ z := fun z hz => by
  have e : g = z := by simpa [blk] using hz
  omega
 have b4 : Below w.heap.size w3 w4 := Two.below t4 hgz (fun z hz => by have := (topRow G3.o z hz).2.1; omega) (by have := b3.size; omega)
 refine ⟨i', j', q', dn', dc', D', T', R ++ [x], O', on', oc', rfl, G5, hR, o5, ?_, by have := G5.li; omega, (b3.trans b4).trans ((bW.mono (by have := b3.size; have := b4.size; omega)).trans (B5.mono (by omega)))⟩
 rcases at5 with e | e
 ·rw [e]
  exact aW.keep fun b' y eD => World.cell?_of_block (g5.block b' (topRow GW.o b' (by rw [eD]; rfl)).2.2 (fun e2 => hne b' (by rw [eD]; rfl) e2.symm))
 ·refine Avoid.fresh o5' (fun z hz => ?_)
  rw [e] at hz
  injection hz with hz
  have := bW.size
  omega
theorem gn_next (g : Nat) (A : Option Addr) (n c : Nat) (sg : List Int) (P : Option Addr) (m mc : Nat) (a : List Int) (Q : Option Addr) (k kc : Nat) (b : List Int) (w wr : World) (i j q dn dc : Nat) (D : Option Addr) (T : Tb) (R : List Int) (hG : Gn wr g wr.heap.size A n c sg P m mc a i Q k kc b j D dn dc (T.map cat)) (hR : Run sg a b i j q T R) (hi : i < m) (hm60 : m ≤ 60) (hk60 : k ≤ 60) (hmc : m ≤ mc) (hmc2 : mc ≤ 9223372036854775807) (hkc : k ≤ kc) (hkc2 : kc ≤ 9223372036854775807) :
  Calls Try.prog 71 #[.pointer (some ⟨g, 0, none⟩)] wr fun e w' =>
   ∃ (x : Int) (i' j' q' : Nat) (D' : Option Addr) (dn' dc' : Nat) (T' : Tb), e = .returned (.int .i64 x) ∧ Gn w' g w'.heap.size A n c sg P m mc a i' Q k kc b j' D' dn' dc' (T'.map cat) ∧ Two wr w' (some ⟨g, 0, none⟩) D ∧ (∀ z, blk D' = some z → z < wr.heap.size → blk D = some z) ∧
    (∀ Z : Nat → Prop, (∀ z, Z z → z < wr.heap.size) → Avoid Z wr D dn → Avoid Z w' D' dn') ∧ Run sg a b i' j' q' T' (R ++ [x]) ∧ i < i' := by
 have la := hG.pa.1
 have lb := hG.qb.1
 have l1 : 0 < (a.drop i).length := by rw [List.length_drop]; omega
 obtain ⟨q1, p, hq, hp, hp1, hpl, hpr⟩ := front hR.sa l1
 subst hq
 have l2 : 0 < (b.drop j).length := by
  cases hb : b.drop j with
  | nil => have h := hR.sb; rw [hb, scan_nil] at h; cases h
  | cons _ _ => simp
 obtain ⟨q2, p', hq2, hp', hp1', hpl', hpr'⟩ := front hR.sb l2
 obtain rfl : q1 = q2 := by omega
 have hj : j < k := by rw [List.length_drop] at l2; omega
 rw [List.length_drop] at hpl hpl'
 refine (next g A n c sg P m mc a i Q k kc b j D dn dc T wr hG hR.fine hi hj p p' hp hp' (by omega) (by omega) hp1 hp1' hm60 hk60 hmc hmc2 hkc hkc2 (by have := hR.tl; omega)).mono ?_
 rintro e w' ⟨x, i', j', D', dn', dc', T', he, hG', hf, ht, hD, hav, ⟨h0, ea, eb, rfl, rfl, rfl⟩ | ⟨ei, ej, hg⟩⟩
 ·exact ⟨x, _, _, _, D', dn', dc', T', he, hG', ht, hD, hav, hR.sym (by omega) (by omega) h0 ea eb, Nat.lt_succ_self _⟩
 ·have e1 : (subL sg a i).length = p := by unfold subL; rw [len1_eq hp, List.length_take, List.length_drop]; omega
  have e2 : (subL sg b j).length = p' := by unfold subL; rw [len1_eq hp', List.length_take, List.length_drop]; omega
  rw [e1] at ei
  rw [e2] at ej
  subst ei
  subst ej
  have hlen : T'.length ≤ T.length + 1 := by
   have := gs_len1 hg
   omega
  exact ⟨x, _, _, _, D', dn', dc', T', he, hG', ht, hD, hav, hR.pair hp hp' hp1 (by rw [List.length_drop]; omega) (by rw [List.length_drop]; omega) hpr hpr' hf hlen hg, by omega⟩
theorem one_seg (w : World) (y : Int) : Seg (w.alloc (.cells #[.int .i64 y] 2)) (w.alloc (.cells #[.int .i64 y] 2)).heap.size (some ⟨w.heap.size, 0, none⟩) 1 [y] :=
 (Row.new w 2 #[.int .i64 y]).seg (n := 1) rfl (Row.new w 2 #[.int .i64 y]).lt (fun j hj => by
  match j, hj with
  | 0, _ => rfl)
theorem isG_run {sg a b ys R : List Int} {T : Tb} (h : IsG sg a b ys) (ha : termOkB sg a = true) (hb : termOkB sg b = true) (hR : Gs sg [] 1 a b R T) : ys = if T.length ≤ 24 then R else [] :=
 isG_one h (.inl ⟨ha, hb, R, T, hR, rfl⟩)
set_option maxHeartbeats 4000000 in
theorem implGeneralised (A P Q : Option Addr) (n c m mc k kc : Nat) (sg a b : List Int) (w : World) (ys : List Int) (hG : IsG sg a b ys) (h : Seg w w.heap.size A n sg) (hp : Seg w w.heap.size P m a) (hq : Seg w w.heap.size Q k b) (hn : n ≤ 1048576) (hm : m ≤ 1048576) (hk : k ≤ 1048576) (hcm : m ≤ mc ∧ mc ≤ 9223372036854775807) (hck : k ≤ kc ∧ kc ≤ 9223372036854775807) :
  Calls Try.prog 28 #[.agg #[.slice A n c], .slice P m mc, .slice Q k kc] w (AnsList w ys) := by
 obtain ⟨W, hW⟩ : ∃ W, W = w.alloc (.cells #[.slice A n c] 26) := ⟨_, rfl⟩
 have b0 : Below w.heap.size w W := by rw [hW]; exact (Below.refl _ _).alloc (Nat.le_refl _) _
 have M : Gr w W A n c sg P m a Q k b := ⟨by rw [hW]; exact Row.new _ _ _, h.next b0, hp.next b0, hq.next b0, b0⟩
 have HW := hid hW
 have HG := hid hG
 have L1 := hid (implTermOk A P n c m mc sg a W M.s M.pa hn hm)
 have L2 := hid (fun w' (M : Gr w w' A n c sg P m a Q k b) => implTermOk A Q n c k kc sg b w' M.s M.qb hn hk)
 have c0 : (w.alloc (.cells #[.slice A n c] 26)).cell? ⟨w.heap.size, 0, none⟩ = some (.slice A n c) := by rw [← hW]; exact M.r0.cell 0
 clear hG hW h hp hq b0
 obtain ⟨va, hva⟩ : ∃ v, termOkB sg a = v := ⟨_, rfl⟩
 obtain ⟨vb, hvb⟩ : ∃ v, termOkB sg b = v := ⟨_, rfl⟩
 have HA := hid hva
 have HB := hid hvb
 clear hva hvb
 cases va with
 | false =>
  go_enter Try.func28, Try.ntmps28
  go_wp2_with fail
  rw [← HW.out]
  refine L1.out.mono ?_
  rintro e w1 ⟨he, bb⟩
  rw [HA.out] at he
  subst he
  replace M := M.next bb
  obtain rfl := isG_off HG.out (.inl HA.out)
  have F := hid (show AnsList w [] (.returned (.slice none 0 0)) w1 from ⟨_, 0, 0, rfl, Own.nil _ _, M.b⟩)
  clear M bb L1 L2
  go_wp2
  go_ret
  exact F.out
 | true =>
  cases vb with
  | false =>
   go_enter Try.func28, Try.ntmps28
   go_wp2_with fail
   rw [← HW.out]
   refine L1.out.mono ?_
   rintro e w1 ⟨he, bb⟩
   rw [HA.out] at he
   subst he
   replace M := M.next bb
   have c1 := M.r0.cell 0
   clear bb c0
   go_wp2_with fail
   refine (L2.out w1 M).mono ?_
   rintro e w2 ⟨he, bb⟩
   rw [HB.out] at he
   subst he
   replace M := M.next bb
   obtain rfl := isG_off HG.out (.inr HB.out)
   have F := hid (show AnsList w [] (.returned (.slice none 0 0)) w2 from ⟨_, 0, 0, rfl, Own.nil _ _, M.b⟩)
   clear M bb L1 L2 c1
   go_wp2
   go_ret
   exact F.out
  | true =>
   go_enter Try.func28, Try.ntmps28
   go_wp2_with fail
   rw [← HW.out]
   refine L1.out.mono ?_
   rintro e w1 ⟨he, bb⟩
   rw [HA.out] at he
   subst he
   replace M := M.next bb
   have c1 := M.r0.cell 0
   clear bb c0 L1
   go_wp2_with fail
   refine (L2.out w1 M).mono ?_
   rintro e w2 ⟨he, bb⟩
   rw [HB.out] at he
   subst he
   replace M := M.next bb
   have c2 : w2.cell? ⟨w.heap.size, 0, none⟩ = some (.slice A n c) := M.r0.cell 0
   clear bb L2 c1
   have hm60 : m ≤ 60 := by rw [← M.pa.1]; exact (term_len HA.out).2
   have hk60 : k ≤ 60 := by rw [← M.qb.1]; exact (term_len HB.out).2
   obtain ⟨W3, hW3⟩ : ∃ W3, W3 = w2.alloc (.cells (gcs A n c P m mc 0 Q k kc 0 none 0 0) 81) := ⟨_, rfl⟩
   have b3 : Below w2.heap.size w2 W3 := by rw [hW3]; exact (Below.refl _ _).alloc (Nat.le_refl _) _
   have hs3 : w2.heap.size < W3.heap.size := by rw [hW3]; simp
   have G3 : Gn W3 w2.heap.size W3.heap.size A n c sg P m mc a 0 Q k kc b 0 none 0 0 ([].map cat) :=
    ⟨by rw [hW3]; exact Row.new _ _ _, M.s.below b3, M.pa.below b3, M.qb.below b3, Owns.nil _ _ _, Nat.le_refl _, Nat.zero_le _, Nat.zero_le _, hn, hm, hk, (sig_arities (termOk_parts HA.out).1).1⟩
   have HH := hid (show HeadG w w2.heap.size A n c sg P m mc a Q k kc b m (.slice none 0 0) W3 from
    ⟨0, 0, 1, 0, 0, none, [], [], none, 0, 0, rfl, G3, Run.start (term_parts HA.out).2.2 (term_parts HB.out).2.2, Own.nil _ _, Avoid.nil, by omega, next_trans M.b b3⟩)
   have hw2 : w.heap.size ≤ w2.heap.size := M.b.size
   have HW3 := hid (show W3 = w2.alloc (.cells #[.slice A n c, .slice P m mc, .int .i64 0, .slice A n c, .slice Q k kc, .int .i64 0, .slice none 0 0] 81) from hW3)
   have HLA := hid M.pa.1
   clear M G3 b3 hs3 hW3
   go_wp2_with fail
   rw [← HW3.out]
   obtain ⟨g, hg⟩ : ∃ g, g = w2.heap.size := ⟨_, rfl⟩
   rw [← hg] at HH hw2 ⊢
   clear hg HW3
   go_loopg [8] m (fun f_ r wr => HeadG w g A n c sg P m mc a Q k kc b f_ r wr)
   case atStart => exact HH.out
   case round =>
    obtain ⟨i, j, q, dn, dc, D, T, R, O, on, oc, rfl, G, hR, ho, hav, hf, hb⟩ := hrel
    clear HH
    have hil := G.li
    have e2 : wr.cell? ⟨g, 2, none⟩ = some (.int .i64 (i : Int)) := G.cell 2
    have e6 : wr.cell? ⟨g, 6, none⟩ = some (.slice D dn dc) := G.cell 6
    have hon : on ≤ 60 := by rw [Own.len ho]; have := hR.rl; omega
    have HF := hid hf
    by_cases hlt : i < m
    ·have i1 : (i : Int) < (m : Int) := by omega
     have LN := hid (gn_next g A n c sg P m mc a Q k kc b w wr i j q dn dc D T R G hR hlt hm60 hk60 hcm.1 hcm.2 hck.1 hck.2)
     have HGR := hid G
     have HO := hid ho
     have HAV := hid hav
     have HBB := hid hb
     clear G hR ho hav hb hf e6
     go_wp2_with (first
      | (go_at_call 71; refine LN.out.mono ?_; rintro e w4 ⟨x, i', j', q', D', dn', dc', T', rfl, G4, t4, hD, av, hR', hi'⟩; have o4 := own_two HO.out HGR.out.row (fun z hz => (topRow HGR.out.o z hz).1) t4; have g4 := G4.lt)
      | (at_builtin; refine appAllAt rfl _ _ rfl (g + 1) O on oc R rfl (Own.next o4 ((Below.refl _ _).alloc (Nat.le_refl _) _)) (some ⟨w4.heap.size, 0, none⟩) 1 1 (w4.alloc (.cells #[.int .i64 x] 2)).heap.size [x] rfl (one_seg w4 x) (by omega) (by omega) (by omega) (by simp; omega) ?_; intro O' oc' w5 ho5 hg5 hat5))
     have S := head_step hw2 HGR.out HO.out HAV.out HBB.out G4 t4 hD av hR' ho5 hg5 hat5
     have HS := hid S
     have HM := hid (show m - i' < gk by have := HF.out; have := G4.li; omega)
     clear S G4 t4 hD av hR' ho5 hg5 hat5 o4 LN HGR HO HAV HBB
     go_wp2
     go_roundg (m - i')
     case measure => exact HM.out
     case rel => exact HS.out
    ·have him : i = a.length := by rw [HLA.out]; omega
     have hys := isG_run HG.out HA.out HB.out (hR.end him)
     have hdl : dn = T.length := by have := G.o.len; simpa using this.symm
     have HY := hid hys
     have HDL := hid hdl
     have hgb : w.heap.size ≤ g + 1 := by omega
     have HO := hid (Own.lower ho hgb)
     have HBB := hid hb
     have hdn : dn ≤ 60 := by have := hR.tl; omega
     have i1 : ¬ (i : Int) < (m : Int) := by omega
     clear G hR ho hav hb hf him hys hdl HG HLA
     by_cases h24 : 24 < dn
     ·have F := hid (show AnsList w ys (.returned (.slice none 0 0)) wr from ⟨none, 0, 0, rfl, by rw [HY.out, if_neg (by rw [← HDL.out]; omega)]; exact Own.nil _ _, HBB.out⟩)
      have d1 : (24 : Int) < (dn : Int) := by omega
      clear HO HBB
      go_wp2
      go_ret
      exact F.out
     ·have F := hid (show AnsList w ys (.returned (.slice O on oc)) wr from ⟨O, on, oc, rfl, by rw [HY.out, if_pos (by rw [← HDL.out]; omega)]; exact HO.out, HBB.out⟩)
      have d1 : ¬ (24 : Int) < (dn : Int) := by omega
      clear HO HBB
      go_wp2
      go_ret
      exact F.out
end genImpl
end
section
namespace whole
open Go.RowKit base segs matchMath
set_option maxRecDepth 100000
def z24 : Array Value := Array.replicate 24 (.slice none 0 0)
theorem z24_size : z24.size = 24 := by simp [z24]
section
variable {w w' : World} {B B' g : Nat} {cs : Array Value} {s : List (List Int)} {t : TypeId}
def TabR (w : World) (B : Nat) (cs : Array Value) (s : List (List Int)) : Prop :=
 cs.size = 24 ∧ s.length = 24 ∧ ∀ j, j < 24 → ∃ A n c, cs[j]? = some (.slice A n c) ∧ Seg w B A n (s.getD j []) ∧ Cap A n c
theorem TabR.new (w : World) (B : Nat) : TabR w B z24 s0 :=
 ⟨z24_size, rfl, fun j hj => ⟨none, 0, 0, by simp [z24, hj], by rw [s0_get]; exact Seg.empty, ⟨Nat.le_refl _, by omega, fun _ => rfl⟩⟩⟩
theorem TabR.keep (h : TabR w B cs s) (hk : ∀ p : Addr, p.block < B → w'.cell? p = w.cell? p) : TabR w' B cs s :=
 ⟨h.1, h.2.1, fun j hj => by obtain ⟨A, n, c, e, hs, hc⟩ := h.2.2 j hj; exact ⟨A, n, c, e, hs.keep hk, hc⟩⟩
theorem TabR.more (h : TabR w B cs s) (hB : B ≤ B') : TabR w B' cs s :=
 ⟨h.1, h.2.1, fun j hj => by obtain ⟨A, n, c, e, hs, hc⟩ := h.2.2 j hj; exact ⟨A, n, c, e, hs.more hB, hc⟩⟩
theorem TabR.below (h : TabR w B cs s) (hb : Below B w w') : TabR w' B cs s := h.keep fun _ hp => hb.cell hp
theorem TabR.put (h : TabR w B cs s) {j : Nat} (hj : j < 24) {A : Option Addr} {n c : Nat} {ys : List Int} (hs : Seg w B A n ys) (hc : Cap A n c) : TabR w B (cs.setIfInBounds j (.slice A n c)) (s.set j ys) := by
 refine ⟨by rw [Array.size_setIfInBounds]; exact h.1, by rw [List.length_set]; exact h.2.1, fun i hi => ?_⟩
 by_cases e : j = i
 ·subst e
  exact ⟨A, n, c, by rw [Array.getElem?_setIfInBounds_self_of_lt (by rw [h.1]; exact hj)], by rw [set_get, if_pos ⟨rfl, by rw [h.2.1]; exact hj⟩]; exact hs, hc⟩
 ·obtain ⟨A', n', c', e', hs', hc'⟩ := h.2.2 i hi
  exact ⟨A', n', c', by rw [Array.getElem?_setIfInBounds_ne e]; exact e', by rw [set_get, if_neg (fun hh => e hh.1)]; exact hs', hc'⟩
theorem TabR.one (h : TabR w B cs s) : cs.all (·.oneCell') = true := by
 rw [Array.all_eq_true]
 intro i hi
 obtain ⟨A, n, c, e, _⟩ := h.2.2 i (by rw [← h.1]; exact hi)
 rw [Array.getElem?_eq_getElem hi] at e
 injection e with e
 rw [e]; rfl
theorem TabR.segs (h : TabR w B cs s) (hr : Row w g t cs) (hB : B ≤ w.heap.size) : Segs w w.heap.size (some ⟨g, 0, none⟩) 24 s := by
 refine ⟨h.2.1, fun _ => ⟨g, 0, rfl, hr.lt, fun j hj => ?_⟩⟩
 obtain ⟨A, n, c, e, hs, hc⟩ := h.2.2 j hj
 exact ⟨A, n, c, by rw [Nat.zero_add, hr.cell j, e], hs.more hB, hc⟩
end
end whole
end
end Go.Proofs.Ytgfgaeagbipobaa
