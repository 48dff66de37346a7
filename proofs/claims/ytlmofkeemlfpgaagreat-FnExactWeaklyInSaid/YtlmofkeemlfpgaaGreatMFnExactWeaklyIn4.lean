/-
  MERGED: my texts Occurs, MeetSpec, Look, FullSpec, PutMath, SubstOk, Gives, StepMath, WalkMath, Inside, Plain, PlainOf, MatchSpec, Concat, Put, Shifted, Filled, SameSubst, CompMath, PlainFacts, MatchTot, MatchFacts, Shape3, KindsW, StepSpec, TabR, Whole, TakeMath, Take, Extended, one behind the other, as they are. By an AI agent.
-/
import Derived.Test.YtlmofkeemlfpgaaGreatMFnExactWeaklyIn3
import Derived.Deep.RegionLaw
import Derived.Deep.Cut
import Derived.Shelf.Abstract
import Derived.Deep.RegionHeld3
import Derived.Deep.QuietTactic
import Derived.BigQuiet
import Derived.Deep.DeepMust
import Derived.Deep.LoopGhost
import Derived.Lib.AppendZeros
import Derived.Deep.AppendLies
import Derived.Deep.DeepCutAuto
import Derived.Laws.Rows
import Derived.Laws.ResultCell
namespace Go.Proofs.YtlmofkeemlfpgaaGreat
section
open Go.Lib (hid)
namespace occurs
open Go.RowKit base ints sig term varsOf marks app appAt segs kinds shape drawX fillMath matchMath unifMath forest triMath stk bnd occMath
set_option maxRecDepth 100000
theorem info_bool : (Tryz.prog.info? 4).map (fun i => (i.zero, i.size, i.bytes)) = some (some (.bool false), 1, 1) := by kernel_rfl
theorem run_make_bools (n : Nat) (hn : n ≤ 1048576) (W : World) : (Instr.makeSlice 197 (.int .i64 (n : Int)) (.int .i64 (n : Int))).run Tryz.prog W =
  .ok (.slice (some ⟨W.heap.size, 0, none⟩) n n) (W.alloc (.cells (madeCells #[.bool false] n) 4)) := by
 obtain ⟨i0, hi, hz0, hz1, hz2⟩ := info_parts info_bool
 have hr := run_make (P := Tryz.prog) W 197 4 i0 _ Tryz.underlying197 hi hz0 .i64 .i64 n n (by omega) (by omega) (by rw [hz2]; omega) (by omega)
 simpa [hz1, Value.cells] using hr
def bools (S : List Bool) : Array Value := (S.map Value.bool).toArray
theorem bools_new (n : Nat) : madeCells #[.bool false] n = bools (List.replicate n false) := by
 unfold bools
 apply Array.ext
 ·simp [madeCells]
 ·intro i h1 h2
  simp [madeCells, Nat.mod_one]
theorem bools_at {S : List Bool} {i : Nat} (h : i < S.length) : (bools S)[i]? = some (.bool (S.getD i false)) := by simp [bools, List.getD, h]
theorem bools_set (S : List Bool) (i : Nat) : (bools S).setIfInBounds i (.bool true) = bools (S.set i true) := by
 unfold bools
 rw [List.map_set]
 simp
structure OM (w : World) (Q : Nat → Prop) (g R : Nat) (B : List (List Int)) (S : List Bool) (q n c : Nat) (D : List (List Int)) (wr : World) : Prop where
 bnd : Bnd wr Q g R B
 seen : Row wr w.heap.size 4 (bools S)
 stk : Stk wr Q (w.heap.size + 1) (some ⟨q, 0, none⟩) n c D
 bel : Below w.heap.size w wr
 hQ : ∀ b, Q b → b < w.heap.size
section
variable {w : World} {Q : Nat → Prop} {g R : Nat} {B : List (List Int)} {S : List Bool} {q n c : Nat} {D : List (List Int)} {wr : World}
theorem OM.drewN (h : OM w Q g R B S q n c D wr) (k : Nat) : OM w Q g R B S q n c D (wr.drewN k) := ⟨h.bnd.drewN k, h.seen.drewN k, h.stk.drewN k, base.below_drewN h.bel k, h.hQ⟩
theorem OM.drew (h : OM w Q g R B S q n c D wr) : OM w Q g R B S q n c D wr.drew := ⟨h.bnd.keep rfl rfl fun _ _ => rfl, h.seen.drew, h.stk.drew, h.bel.drew, h.hQ⟩
theorem OM.lo (h : OM w Q g R B S q n c D wr) : w.heap.size + 1 ≤ wr.heap.size := h.seen.lt
theorem OM.alloc (h : OM w Q g R B S q n c D wr) (o : Obj) : OM w Q g R B S q n c D (wr.alloc o) := by
 have hb : Below wr.heap.size wr (wr.alloc o) := (Below.refl _ _).alloc (Nat.le_refl _) _
 have hq : ∀ b, Q b → b < wr.heap.size := fun b hb => Nat.lt_of_lt_of_le (h.hQ b hb) h.bel.size
 exact ⟨h.bnd.next hb hq, h.seen.alloc _, h.stk.next hb hq, h.bel.alloc h.bel.size _, h.hQ⟩
theorem OM.pop {x : List Int} (h : OM w Q g R B S q (n + 1) c (D ++ [x]) wr) : OM w Q g R B S q n c D wr := ⟨h.bnd, h.seen, h.stk.pop, h.bel, h.hQ⟩
theorem OM.kq (h : OM w Q g R B S q n c D wr) {W : World} (hg : wr.grownBy W (some q)) : Keep Q wr W := Keep.grown hg fun b hb => ⟨Nat.lt_of_lt_of_le (h.hQ b hb) h.bel.size, fun e => by injection e with e; have := (h.stk.ge q rfl).1; have := h.hQ b hb; omega⟩
theorem OM.mark (h : OM w Q g R B S q n c D wr) {i : Nat} (hi : i < S.length) (hg : g < w.heap.size) (hR : R < w.heap.size) : OM w Q g R B (S.set i true) q n c D (wr.setCell ⟨w.heap.size, i, none⟩ (.bool true)) := by
 have hgb : wr.grownBy (wr.setCell ⟨w.heap.size, i, none⟩ (.bool true)) (some w.heap.size) := ⟨rfl, rfl, rfl, by simp, fun k _ hne => Below.heap_setCell wr _ _ k (fun e => hne (by show some k = some w.heap.size; rw [e]))⟩
 have hk : Keep Q wr (wr.setCell ⟨w.heap.size, i, none⟩ (.bool true)) := fun b hb => Below.heap_setCell wr _ _ b (by have := h.hQ b hb; show b ≠ w.heap.size; omega)
 refine ⟨h.bnd.keep (Below.heap_setCell wr _ _ g (by show g ≠ w.heap.size; omega)) (Below.heap_setCell wr _ _ R (by show R ≠ w.heap.size; omega)) hk, ?_, ?_, ?_, h.hQ⟩
 ·rw [← bools_set]; exact h.seen.put i _
 ·exact h.stk.keep hgb (.inr fun e => by have e : some q = some w.heap.size := e; injection e with e; have := (h.stk.ge q rfl).1; omega) hk
 ·exact h.bel.grown hgb h.bel.size (fun k hk => by injection hk with hk; omega)
theorem OM.push {w8 : World} {g8 c8 : Nat} {y : List Int} (h : OM w Q g R B S q n c D wr) (hg : wr.grownBy w8 (some q)) (ho : Stk w8 Q (w.heap.size + 1) (some ⟨g8, 0, none⟩) (n + 1) c8 (D ++ [y])) (h1 : g < w.heap.size) (h2 : R < w.heap.size) : OM w Q g R B S g8 (n + 1) c8 (D ++ [y]) w8 := by
 have hq := (h.stk.ge q rfl).1
 have hne : ∀ k, k ≤ w.heap.size → w8.heap[k]? = wr.heap[k]? := fun k hk => hg.block k (by have := h.lo; omega) (fun e => by injection e with e; omega)
 exact ⟨h.bnd.keep (hne g (by omega)) (hne R (by omega)) (h.kq hg), (hne _ (Nat.le_refl _)).trans h.seen, ho, h.bel.grown hg h.bel.size (fun k hk => by injection hk with hk; omega), h.hQ⟩
end
def Pr (sg : List Int) (B : List (List Int)) (L : Nat → List Int) (x : Int) (t : List Int) (S : List Bool) (D : List (List Int)) : Prop := (∀ D' u, D = D' ++ [u] → Oc sg B L x t S D' u 0) ∧ (D = [] → x ∉ fillL L t) ∧ S.length = 48
def HeadO (w : World) (Q : Nat → Prop) (g R : Nat) (sg : List Int) (B : List (List Int)) (L : Nat → List Int) (x : Int) (t : List Int) (N : Nat) (todo : Value) (wr : World) : Prop :=
 ∃ q n c S D, todo = .slice (some ⟨q, 0, none⟩) n c ∧ Pr sg B L x t S D ∧ uns S + n ≤ N ∧ uns S + n ≤ 49 ∧ OM w Q g R B S q n c D wr
def HeadI (w : World) (Q : Nat → Prop) (g R : Nat) (sg : List Int) (B : List (List Int)) (L : Nat → List Int) (x : Int) (t : List Int) (G : Nat) (cur : List Int) (X : Option Addr) (xn xc : Nat) (todo i : Value) (wr : World) : Prop :=
 RdQ wr Q sI [.slice X xn xc] cur ∧ ∃ (q n c : Nat) (S : List Bool) (D : List (List Int)) (k : Nat), todo = .slice (some ⟨q, 0, none⟩) n c ∧ i = .int .i64 (k : Int) ∧ k ≤ cur.length ∧ Oc sg B L x t S D cur k ∧ uns S + n + 1 ≤ G ∧ uns S + n ≤ 49 ∧ OM w Q g R B S q n c D wr
set_option maxHeartbeats 1000000 in
theorem l11Occurs (Q : Nat → Prop) (g R : Nat) (B : List (List Int)) (A : Option Addr) (n c : Nat) (sg t : List Int) (x : Int) (L : Nat → List Int) (rk : Nat → Nat) (w : World) (hB : Bnd w Q g R B) (hQ : ∀ b, Q b → b < w.heap.size) (hR : Res sg B L rk) (hV : ∀ i, Vb 48 (bd B i))
  (h : RdQ w Q sI [.slice A n c] t) (hf : Fo sg 1 t) (hv : Vb 48 t) (hn : n ≤ 1048576) (hx : x < 0) (hxb : bd B (vr x) = []) :
  Calls Tryz.prog 169 #[.pointer (some ⟨g, 0, none⟩), .int .i64 x, .slice A n c] w (AnsB w (decide (x ∈ fillL L t))) := by
 have hmk : ∀ W : World, (Instr.makeSlice 197 (.int .i64 48) (.int .i64 48)).run Tryz.prog W = .ok (.slice (some ⟨W.heap.size, 0, none⟩) 48 48) (W.alloc (.cells (madeCells #[.bool false] 48) 4)) := fun W => run_make_bools 48 (by omega) W
 have cg : w.cell? ⟨g, 0, none⟩ = some (.slice (some ⟨R, 0, none⟩) 48 48) := hB.top
 have hgR := hB.lt
 obtain ⟨W, hW⟩ : ∃ W, W = (w.alloc (.cells (madeCells #[.bool false] 48) 4)).alloc (.cells #[.slice A n c] 22) := ⟨_, rfl⟩
 have hw1 : (w.alloc (.cells (madeCells #[.bool false] 48) 4)).heap.size = w.heap.size + 1 := by simp
 have bW : Below w.heap.size w W := by rw [hW]; exact ((Below.refl _ _).alloc (Nat.le_refl _) _).alloc (by simp) _
 have M0 : OM w Q g R B (List.replicate 48 false) (w.heap.size + 1) 1 1 [t] W := by
  refine ⟨hB.next bW hQ, ?_, ?_, bW, hQ⟩
  ·rw [hW, bools_new]; exact (Row.new _ _ _).alloc _
  ·have r1 := Row.new (w.alloc (.cells (madeCells #[.bool false] 48) 4)) 22 #[.slice A n c]
   rw [hw1] at r1
   rw [← hW] at r1
   exact Stk.single r1 (Nat.le_refl _) (h.keep (Keep.below bW hQ))
 have P0 : Pr sg B L x t (List.replicate 48 false) [t] := by
  refine ⟨fun D' u e => ?_, fun e => (by cases e), by simp⟩
  have e2 : D' = [] := by
   cases D' with
   | nil => rfl
   | cons a r => have := congrArg List.length e; simp at this
  subst e2
  have e3 : t = u := by simpa using e
  subst e3
  exact Oc.start hf hv
 have S0 := hid (show HeadO w Q g R sg B L x t 49 (.slice (some ⟨w.heap.size + 1, 0, none⟩) 1 1) W from ⟨_, 1, 1, _, _, rfl, P0, by decide, by decide, M0⟩)
 have HW := hid hW
 have HR := hid hR
 have HV := hid hV
 have HXB := hid hxb
 clear hB hQ hR hV h hf hv hxb hW M0 P0 bW
 go_enter Tryz.func169, Tryz.ntmps169
 go_wp2_with fail
 rw [← HW.out]
 clear HW
 go_loopg [8] 49 (fun N todo wr => HeadO w Q g R sg B L x t N todo wr)
 case atStart => exact S0.out
 case round =>
  clear S0
  obtain ⟨q, dn, dc, S, D, rfl, hpr, hN, hN2, hM⟩ := hrel
  have hdl := hM.stk.1
  by_cases h0 : dn = 0
  ·subst h0
   have hD : D = [] := List.length_eq_zero_iff.1 hdl
   have F := hid (show AnsB w (decide (x ∈ fillL L t)) (.returned (.bool false)) wr from ⟨by rw [decide_eq_false (hpr.2.1 hD)], hM.bel⟩)
   clear hpr hM hD hdl
   go_wp2
   go_ret
   exact F.out
  ·obtain ⟨m, rfl⟩ : ∃ m, dn = m + 1 := ⟨dn - 1, by omega⟩
   obtain ⟨D', u, rfl⟩ : ∃ D' u, D = D' ++ [u] := ⟨D.dropLast, D.getLast (by intro e; rw [e] at hdl; simp at hdl), (List.dropLast_concat_getLast _).symm⟩
   have hD' : D'.length = m := by simpa using hdl
   obtain ⟨ea, e0, -, -⟩ | ⟨g2, cur, eg, -, rq, hmc, -, hmcc, hcur⟩ := hM.stk.form
   ·omega
   injection eg with eg
   injection eg with eg
   subst eg
   obtain ⟨X, xn, xc, ecur, hu⟩ := hcur m (by omega)
   have eu : (D' ++ [u]).getD m [] = u := by simp [List.getD, ← hD']
   rw [eu] at hu
   have cq : wr.cell? ⟨q, m, none⟩ = some (.slice X xn xc) := (rq.cell m).trans ecur
   have hoc := hpr.1 D' u rfl
   have hul := (rdq_nums hu).1
   have i0 : (0 : Int) ≤ (m : Int) := by omega
   have i1 : (m : Int) < ((m + 1 : Nat) : Int) := by omega
   have i2 : (m : Int) ≤ (dc : Int) := by omega
   have e1 : ((m + 1 : Nat) : Int) - 1 = (m : Int) := by omega
   have HM := hid hM
   have hm9 : m ≤ 49 := by omega
   have S1 := hid (show ∀ w', w' = wr → HeadI w Q g R sg B L x t gk u X xn xc (.slice (some ⟨q, 0, none⟩) m dc) (.int .i64 0) w' from fun w' e => by rw [e]; exact ⟨hu, q, m, dc, S, D', 0, rfl, rfl, Nat.zero_le _, hoc, by omega, by omega, hM.pop⟩)
   clear hpr hM hoc hN hN2 hcur rq ecur eu hdl hD' hu
   go_wp2_with fail
   go_loopw [8, 10] (fun todo i wr => HeadI w Q g R sg B L x t gk u X xn xc todo i wr) (fun _ i _ => u.length - (intOf i).toNat)
   case atStart => exact S1.out _ rfl
   case round =>
    clear S1 HM cq
    obtain ⟨hu, q, m, dc, S, D, k, rfl, rfl, hk, hoc, hG1, hG2, hM⟩ := hrel
    obtain ⟨-, hcap, hspot⟩ := rdq_nums hu
    have hxn9 : xn ≤ 9223372036854775807 := Nat.le_trans hcap.1 hcap.2.1
    have HUL := hid hul
    by_cases hlt : k < xn
    ·obtain ⟨b, off, rfl, hqb, hc⟩ := hspot (by omega)
     have cz := hc k hlt
     obtain ⟨z, hz⟩ : ∃ z, u.getD k 0 = z := ⟨_, rfl⟩
     rw [hz] at cz
     have hzm : z ∈ u := by
      rw [← hz, List.getD_eq_getElem?_getD, List.getElem?_eq_getElem (by omega)]
      exact List.getElem_mem _
     have hzv := hoc.c.2.1.2 z hzm
     have i0 : (0 : Int) ≤ (k : Int) := by omega
     have i1 : (k : Int) < (xn : Int) := by omega
     have HZ := hid hz
     by_cases hzx : z = x
     ·have e1 : (z == x) = true := by simp [hzx]
      have hin := hoc.found HR.out hx HXB.out (by omega) (hz.trans hzx)
      have F := hid (show AnsB w (decide (x ∈ fillL L t)) (.returned (.bool true)) wr from ⟨by rw [decide_eq_true hin], hM.bel⟩)
      clear hu hoc hM hin hspot hc hzm hzv hz
      go_wp2
      try rw [Exit.noGoto_ret]
      go_ret
      exact F.out
     ·have e1 : (z == x) = false := by simp [hzx]
      by_cases h0 : z < 0
      case neg =>
       have d0 : decide (z < 0) = false := decide_eq_false h0
       have hp := hoc.pass (show Cn B x S (u.getD k 0) from fun h => absurd (by rw [hz] at h; exact h) h0)
       have F := hid (show ∀ dd, HeadI w Q g R sg B L x t gk u (some ⟨b, off, none⟩) xn xc (.slice (some ⟨q, 0, none⟩) m dc) (.int .i64 ((k : Int) + 1)) (wr.drewN dd) from fun dd => ⟨hu.keep fun _ _ => rfl, q, m, dc, S, D, k + 1, rfl, by simp, by omega, hp, hG1, hG2, hM.drewN dd⟩)
       have cz9 := cz
       clear hu hoc hM hp hspot hc hzm hzv hz hG1 hG2 cz9
       go_wp2_with fail
       go_quiet (fail)
       go_wp2
       go_roundw
       case rel => exact F.out _
       case measure => simp [intOf]; have := HUL.out; omega
      obtain ⟨i, rfl⟩ : ∃ i : Nat, z = -1 - (i : Int) := ⟨(-1 - z).toNat, by omega⟩
      have hi : i < 48 := by omega
      have hwrap : IntKind.i64.wrap (-1 - (-1 - (i : Int))) = (i : Int) := by rw [IntKind.wrap_i64]; omega
      have j1 : (0 : Int) ≤ (i : Int) := by omega
      have j2 : (i : Int) < 48 := by omega
      have cs : wr.cell? ⟨w.heap.size, i, none⟩ = some (.bool (S.getD i false)) := (hM.seen.cell i).trans (bools_at (by rw [hoc.len]; exact hi))
      obtain ⟨sb, hsb⟩ : ∃ sb, S.getD i false = sb := ⟨_, rfl⟩
      rw [hsb] at cs
      have hvr : vr (-1 - (i : Int)) = i := vr_at i
      cases sb with
      | true =>
       have hp := hoc.pass (show Cn B x S (u.getD k 0) from fun _ => ⟨by rw [hz]; exact hzx, fun _ => by rw [hz, hvr]; exact hsb⟩)
       have F := hid (show ∀ dd, HeadI w Q g R sg B L x t gk u (some ⟨b, off, none⟩) xn xc (.slice (some ⟨q, 0, none⟩) m dc) (.int .i64 ((k : Int) + 1)) (wr.drewN dd) from fun dd => ⟨hu.keep fun _ _ => rfl, q, m, dc, S, D, k + 1, rfl, by simp, by omega, hp, hG1, hG2, hM.drewN dd⟩)
       clear hu hoc hM hp hspot hc hzm hzv hz hG1 hG2 hvr
       go_wp2_with fail
       go_quiet (fail)
       go_wp2
       go_roundw
       case rel => exact F.out _
       case measure => simp [intOf]; have := HUL.out; omega
      | false =>
       obtain ⟨V, vn, vc, cV, rV⟩ := hM.bnd.at hi
       have hvl : (bd B i).length = vn := (rdq_nums rV).1
       have cg2 : wr.cell? ⟨g, 0, none⟩ = some (.slice (some ⟨R, 0, none⟩) 48 48) := hM.bnd.top
       by_cases hvn : vn = 0
       ·subst hvn
        have hbe : bd B i = [] := List.length_eq_zero_iff.1 hvl
        have hp := hoc.pass (show Cn B x S (u.getD k 0) from fun _ => ⟨by rw [hz]; exact hzx, fun h => absurd (by rw [hz, hvr]; exact hbe) h⟩)
        have F := hid (show ∀ dd, HeadI w Q g R sg B L x t gk u (some ⟨b, off, none⟩) xn xc (.slice (some ⟨q, 0, none⟩) m dc) (.int .i64 ((k : Int) + 1)) (wr.drewN dd) from fun dd => ⟨hu.keep fun _ _ => rfl, q, m, dc, S, D, k + 1, rfl, by simp, by omega, hp, hG1, hG2, hM.drewN dd⟩)
        clear hu hoc hM hp hspot hc hzm hzv hz hG1 hG2 hvr hvl hbe rV
        go_wp2_with fail
        go_quiet (fail)
        go_wp2
        go_roundw
        case rel => exact F.out _
        case measure => simp [intOf]; have := HUL.out; omega
       ·have hbn : bd B i ≠ [] := fun e => hvn (by rw [← hvl, e]; rfl)
        have hv0 : 0 < vn := by omega
        have hns : ¬ sn S i := by unfold sn; rw [hsb]; simp
        have hil : i < S.length := by rw [hoc.len]; exact hi
        have hp := hoc.mark HR.out HV.out hi (by omega) hz hbn (by rw [hz]; exact hzx)
        have hun := uns_set hil hns
        have fs : wr.frozen? ⟨w.heap.size, i, none⟩ = false := hM.seen.free i
        have hM2 := hid (fun dd => (hM.drewN dd).mark hil hgR.1 hgR.2)
        have hu2 := hid (fun dd => RdQ.keep (w := wr) (w' := (wr.drewN dd).setCell ⟨w.heap.size, i, none⟩ (.bool true)) (fun b' hb' => (by have h9 := Below.heap_setCell (wr.drewN dd) ⟨w.heap.size, i, none⟩ (.bool true) b' (by have := hM.hQ b' hb'; show b' ≠ w.heap.size; omega); exact h9)) hu)
        have HP := hid hp
        have HG1 := hid (show uns (S.set i true) + (m + 1) + 1 ≤ gk by omega)
        have HG2 := hid (show uns (S.set i true) + (m + 1) ≤ 49 by omega)
        have hm9 : m ≤ 49 := by omega
        clear hoc hM hp hspot hc hzm hzv hz hG1 hG2 hvr hvl hbn hns hil hun
        go_wp2_with fail
        go_quiet (fail)
        go_wp2_with fail
        obtain ⟨W2, hW2⟩ : ∃ W2, W2 = (wr.drewN nq).setCell ⟨w.heap.size, i, none⟩ (.bool true) := ⟨_, rfl⟩
        have M2 := hM2.out nq
        have U2 := hu2.out nq
        rw [← hW2] at M2 U2 ⊢
        clear hM2 hu2 hW2 cz cs cV rV cg2 fs hu
        obtain ⟨V2, vn2, vc2, cV2, rV2⟩ := M2.bnd.at hi
        have cg2 : W2.cell? ⟨g, 0, none⟩ = some (.slice (some ⟨R, 0, none⟩) 48 48) := M2.bnd.top
        have cz2 : W2.cell? ⟨b, off + k, none⟩ = some (.int .i64 (-1 - (i : Int))) := by
         obtain ⟨-, -, hs2⟩ := rdq_nums U2
         obtain ⟨b', off', e', -, hc'⟩ := hs2 (by omega)
         injection e' with e'
         injection e' with e1' e2'
         subst e1' e2'
         rw [← HZ.out]
         exact hc' k hlt
        have T2 := M2.drew
        go_wp2_with fail
        go_region_law (first
         | (refine stepStk rfl _ _ rfl Q (w.heap.size + 1) (some ⟨q, 0, none⟩) m dc D (by simp [Act.eval, Act.put]) (T2.alloc _).stk W2.heap.size 1 (.slice V2 vn2 vc2) (bd B i) (by simp [Act.eval, Act.put]) ((Row.new _ _ _).cell 0) (rV2.keep (by exact fun b' hb' => Below.heap_alloc _ _ _ (Nat.lt_of_lt_of_le (T2.hQ b' hb') T2.bel.size))) (by omega) (by have := T2.lo; simp at this ⊢; omega) (fun b' hb' => Nat.lt_succ_of_lt (T2.hQ b' hb')) ?_; intro g8 c8 w8 ho8 hg8 hat8 hlt8))
        all_goals
         have M8 := (M2.alloc (.cells #[.slice V2 vn2 vc2] 22)).drew
         have U8 := (RdQ.keep (w' := (W2.alloc (.cells #[.slice V2 vn2 vc2] 22)).drew) (fun b' hb' => Below.heap_alloc W2 (.cells #[.slice V2 vn2 vc2] 22) b' (Nat.lt_of_lt_of_le (T2.hQ b' hb') T2.bel.size)) U2).keep (M8.kq hg8)
         have F := hid (show HeadI w Q g R sg B L x t gk u (some ⟨b, off, none⟩) xn xc (.slice (some ⟨g8, 0, none⟩) (m + 1) c8) (.int .i64 ((k : Int) + 1)) w8 from ⟨U8, g8, m + 1, c8, S.set i true, D ++ [bd B i], k + 1, rfl, by simp, by have := HUL.out; omega, HP.out, HG1.out, HG2.out, M8.push hg8 ho8 hgR.1 hgR.2⟩)
         clear M8 U8 M2 U2 T2 rV2 cV2 cg2 cz2 ho8 hg8 hat8
         go_wp2
         go_roundw
         case rel => exact F.out
         case measure => simp [intOf]; have := HUL.out; omega
    ·have hkx : k = xn := by omega
     have i1 : ¬ (k : Int) < (xn : Int) := by omega
     have hp : Pr sg B L x t S D := ⟨fun D' u' e => by rw [e] at hoc; exact hoc.pop (by omega), fun e => by rw [e] at hoc; exact hoc.done HR.out hx (by omega), hoc.len⟩
     have F := hid (show HeadO w Q g R sg B L x t (uns S + m) (.slice (some ⟨q, 0, none⟩) m dc) wr from ⟨q, m, dc, S, D, rfl, hp, Nat.le_refl _, hG2, hM⟩)
     have HG := hid hG1
     clear hu hoc hM hp hspot hG1 hkx
     go_wp2
     go_roundg (uns S + m)
     case measure => exact HG.out
     case rel => exact F.out
end occurs
end
section
open Go.Lib (hid)
namespace meetSpec
open Go.RowKit base ints sig term varsOf marks app appAt segs kinds shape drawX fillMath matchMath unifMath forest triMath stk partsSpec bnd occurs
set_option maxRecDepth 100000
theorem SS_comm (L : Nat → List Int) (ls rs : List (List Int)) : SS L ls rs = SS L rs ls := Nat.add_comm _ _
theorem neg_nat {x : Int} (h : x < 0) : ∃ i : Nat, x = -1 - (i : Int) := ⟨(-1 - x).toNat, by omega⟩
structure MM (w : World) (Q : Nat → Prop) (g R : Nat) (A : Option Addr) (n c : Nat) (B : List (List Int)) (q1 q2 k k2 c1 c2 : Nat) (ls rs : List (List Int)) (wr : World) : Prop where
 bnd : Bnd wr Q g R B
 box : Row wr w.heap.size 30 #[.slice A n c]
 l : Stk wr Q (w.heap.size + 1) (some ⟨q1, 0, none⟩) k c1 ls
 r : Stk wr Q (w.heap.size + 1) (some ⟨q2, 0, none⟩) k2 c2 rs
 ne : q1 ≠ q2
 gr : w.grownBy wr (some R)
 hQ : ∀ b, Q b → b < w.heap.size ∧ b ≠ R
 hg : g < w.heap.size ∧ R < w.heap.size ∧ g ≠ R
section
variable {w : World} {Q : Nat → Prop} {g R : Nat} {A : Option Addr} {n c : Nat} {B : List (List Int)} {q1 q2 k k2 c1 c2 : Nat} {ls rs : List (List Int)} {wr w' : World}
theorem MM.lo (h : MM w Q g R A n c B q1 q2 k k2 c1 c2 ls rs wr) : w.heap.size + 1 ≤ wr.heap.size := h.box.lt
theorem MM.q (h : MM w Q g R A n c B q1 q2 k k2 c1 c2 ls rs wr) : ∀ b, Q b → b < wr.heap.size := fun b hb => by have := (h.hQ b hb).1; have := h.lo; omega
theorem MM.ge (h : MM w Q g R A n c B q1 q2 k k2 c1 c2 ls rs wr) : w.heap.size + 1 ≤ q1 ∧ q1 < wr.heap.size ∧ w.heap.size + 1 ≤ q2 ∧ q2 < wr.heap.size := ⟨(h.l.ge q1 rfl).1, (h.l.ge q1 rfl).2, (h.r.ge q2 rfl).1, (h.r.ge q2 rfl).2⟩
theorem MM.next (h : MM w Q g R A n c B q1 q2 k k2 c1 c2 ls rs wr) (hb : Below wr.heap.size wr w') : MM w Q g R A n c B q1 q2 k k2 c1 c2 ls rs w' :=
 ⟨h.bnd.next hb h.q, h.box.next hb, h.l.next hb h.q, h.r.next hb h.q, h.ne, h.gr.trans ⟨hb.os, hb.tape, hb.output, hb.size, fun j hj _ => hb.block j hj⟩, h.hQ, h.hg⟩
theorem MM.drewN (h : MM w Q g R A n c B q1 q2 k k2 c1 c2 ls rs wr) (j : Nat) : MM w Q g R A n c B q1 q2 k k2 c1 c2 ls rs (wr.drewN j) := h.next (base.below_drewN (Below.refl _ _) j)
theorem MM.pop {u v : List Int} (h : MM w Q g R A n c B q1 q2 (k + 1) (k2 + 1) c1 c2 (ls ++ [u]) (rs ++ [v]) wr) : MM w Q g R A n c B q1 q2 k k2 c1 c2 ls rs wr := ⟨h.bnd, h.box, h.l.pop, h.r.pop, h.ne, h.gr, h.hQ, h.hg⟩
theorem MM.keep (h : MM w Q g R A n c B q1 q2 k k2 c1 c2 ls rs wr) : Keep Q w wr := Keep.grown h.gr fun b hb => ⟨(h.hQ b hb).1, fun e => (h.hQ b hb).2 (by injection e)⟩
theorem MM.bind (h : MM w Q g R A n c B q1 q2 k k2 c1 c2 ls rs wr) {i : Nat} (hi : i < 48) {V : Option Addr} {vn vc : Nat} {v : List Int} (hv : RdQ wr Q sI [.slice V vn vc] v) : MM w Q g R A n c (B.set i v) q1 q2 k k2 c1 c2 ls rs (wr.setCell ⟨R, i, none⟩ (.slice V vn vc)) := by
 have hgb : wr.grownBy (wr.setCell ⟨R, i, none⟩ (.slice V vn vc)) (some R) := ⟨rfl, rfl, rfl, by simp, fun j _ hne => Below.heap_setCell wr _ _ j (fun e => hne (by show some j = some R; rw [e]))⟩
 have hk : Keep Q wr (wr.setCell ⟨R, i, none⟩ (.slice V vn vc)) := fun b hb => Below.heap_setCell wr _ _ b (h.hQ b hb).2
 obtain ⟨g1, -, g2, -⟩ := h.ge
 have h2 := h.hg
 exact ⟨h.bnd.set hi hv h2.2.2 (fun b hb => (h.hQ b hb).2), h.box.far (by show w.heap.size ≠ R; omega) _, h.l.keep hgb (.inr fun e => by have e : some q1 = some R := e; injection e with e; omega) hk, h.r.keep hgb (.inr fun e => by have e : some q2 = some R := e; injection e with e; omega) hk, h.ne, h.gr.trans hgb, h.hQ, h.hg⟩
theorem MM.topL {u : List Int} (h : MM w Q g R A n c B q1 q2 (k + 1) k2 c1 c2 (ls ++ [u]) rs wr) : ∃ X xn xc, wr.cell? ⟨q1, k, none⟩ = some (.slice X xn xc) ∧ RdQ wr Q sI [.slice X xn xc] u ∧ k ≤ c1 ∧ c1 ≤ 9223372036854775807 := by
 obtain ⟨ea, e0, -, -⟩ | ⟨g2, cur, eg, -, rq, hmc, -, hmcc, hcur⟩ := h.l.form
 ·omega
 injection eg with eg
 injection eg with eg
 subst eg
 have hl : ls.length = k := by have := h.l.1; simpa using this
 obtain ⟨X, xn, xc, e, hu⟩ := hcur k (by omega)
 have eu : (ls ++ [u]).getD k [] = u := by simp [List.getD, ← hl]
 rw [eu] at hu
 exact ⟨X, xn, xc, (rq.cell k).trans e, hu, by omega, hmcc⟩
theorem MM.topR {v : List Int} (h : MM w Q g R A n c B q1 q2 k2 (k + 1) c1 c2 ls (rs ++ [v]) wr) : ∃ X xn xc, wr.cell? ⟨q2, k, none⟩ = some (.slice X xn xc) ∧ RdQ wr Q sI [.slice X xn xc] v ∧ k ≤ c2 ∧ c2 ≤ 9223372036854775807 := by
 obtain ⟨ea, e0, -, -⟩ | ⟨g2, cur, eg, -, rq, hmc, -, hmcc, hcur⟩ := h.r.form
 ·omega
 injection eg with eg
 injection eg with eg
 subst eg
 have hl : rs.length = k := by have := h.r.1; simpa using this
 obtain ⟨X, xn, xc, e, hu⟩ := hcur k (by omega)
 have eu : (rs ++ [v]).getD k [] = v := by simp [List.getD, ← hl]
 rw [eu] at hu
 exact ⟨X, xn, xc, (rq.cell k).trans e, hu, by omega, hmcc⟩
theorem MM.far (h : MM w Q g R A n c B q1 q2 k k2 c1 c2 ls rs wr) {q : Nat} (hg : wr.grownBy w' (some q)) (hq : w.heap.size + 1 ≤ q) : Bnd w' Q g R B ∧ Row w' w.heap.size 30 #[.slice A n c] ∧ w.grownBy w' (some R) ∧ Keep Q wr w' := by
 have hk : Keep Q wr w' := Keep.grown hg fun b hb => ⟨h.q b hb, fun e => by injection e with e; have := (h.hQ b hb).1; omega⟩
 have hlo := h.lo
 have hh := h.hg
 have hs := h.gr.size
 refine ⟨h.bnd.keep (hg.block g (by omega) (fun e => by injection e with e; omega)) (hg.block R (by omega) (fun e => by injection e with e; omega)) hk, (hg.block _ h.box.lt (fun e => by injection e with e; omega)).trans h.box, ⟨hg.os.trans h.gr.os, hg.tape.trans h.gr.tape, hg.output.trans h.gr.output, Nat.le_trans hs hg.size, fun j hj hne => (hg.block j (by omega) (fun e => by injection e with e; omega)).trans (h.gr.block j hj hne)⟩, hk⟩
theorem MM.pushL (h : MM w Q g R A n c B q1 q2 k k2 c1 c2 ls rs wr) {q' k' c' : Nat} {ls' : List (List Int)} (hg : wr.grownBy w' (some q1)) (ho : Stk w' Q (w.heap.size + 1) (some ⟨q', 0, none⟩) k' c' ls') (hat : q' = q1 ∨ q' = wr.heap.size) : MM w Q g R A n c B q' q2 k' k2 c' c2 ls' rs w' := by
 obtain ⟨f1, f2, f3, f4⟩ := h.far hg h.ge.1
 have h1 := h.ge
 have h2 := h.ne
 exact ⟨f1, f2, ho, h.r.keep hg (.inr fun e => h2 (by have e : some q2 = some q1 := e; injection e with e; exact e.symm)) f4, by omega, f3, h.hQ, h.hg⟩
theorem MM.pushR (h : MM w Q g R A n c B q1 q2 k k2 c1 c2 ls rs wr) {q' k' c' : Nat} {rs' : List (List Int)} (hg : wr.grownBy w' (some q2)) (ho : Stk w' Q (w.heap.size + 1) (some ⟨q', 0, none⟩) k' c' rs') (hat : q' = q2 ∨ q' = wr.heap.size) : MM w Q g R A n c B q1 q' k k' c1 c' ls rs' w' := by
 obtain ⟨f1, f2, f3, f4⟩ := h.far hg h.ge.2.2.1
 have h1 := h.ge
 have h2 := h.ne
 exact ⟨f1, f2, h.l.keep hg (.inr fun e => h2 (by have e : some q1 = some q2 := e; injection e with e)) f4, ho, by omega, f3, h.hQ, h.hg⟩
theorem some_of {w : World} {Q : Nat → Prop} {lo n c : Nat} {A : Option Addr} {D : List (List Int)} {q z : Nat} (h : Stk w Q lo A n c D) (hat : blk A = some q ∨ blk A = some z) : ∃ q', A = some ⟨q', 0, none⟩ ∧ (q' = q ∨ q' = z) := by
 obtain ⟨rfl, -, -, -⟩ | ⟨g, cur, rfl, -⟩ := h.form
 ·rcases hat with e | e <;> cases e
 ·refine ⟨g, rfl, ?_⟩
  rcases hat with e | e
  ·have e : some g = some q := e
   injection e with e
   exact .inl e
  ·have e : some g = some z := e
   injection e with e
   exact .inr e
end
def HeadM (w : World) (Q : Nat → Prop) (g R : Nat) (A : Option Addr) (n c : Nat) (sg s t : List Int) (N : Nat) (left right : Value) (wr : World) : Prop :=
 ∃ (q1 q2 k c1 c2 : Nat) (ls rs B : List (List Int)) (L : Nat → List Int) (rk : Nat → Nat) (a : List Int) (dk : Nat), left = .slice (some ⟨q1, 0, none⟩) k c1 ∧ right = .slice (some ⟨q2, 0, none⟩) k c2 ∧ Mid sg s t 48 B ls rs ∧ Res sg B L rk ∧ Chn B a ls dk ∧ gS (unb B) (SS L ls rs) ≤ N ∧ MM w Q g R A n c B q1 q2 k k c1 c2 ls rs wr
def AnsMeet (w : World) (Q : Nat → Prop) (g R : Nat) (sg s t : List Int) (e : Ending) (w' : World) : Prop :=
 ∃ (ok : Bool) (B : List (List Int)), e = .returned (.bool ok) ∧ Bnd w' Q g R B ∧ w.grownBy w' (some R) ∧ (ok = true → Mid sg s t 48 B [] [] ∧ ∃ L rk, Res sg B L rk) ∧ (ok = false → ∀ θ, ¬ Unis sg s t θ)
set_option maxHeartbeats 1000000 in
theorem l11Meet (Q : Nat → Prop) (g R : Nat) (A S T : Option Addr) (n c sn sc tn tc : Nat) (sg s t : List Int) (w : World) (hB : Bnd w Q g R (List.replicate 48 [])) (hQ : ∀ b, Q b → b < w.heap.size ∧ b ≠ R) (hgR : g ≠ R) (hsg : RdQ w Q sI [.slice A n c] sg) (hn : n ≤ 1048576) (hs : Arities sg)
  (h : RdQ w Q sI [.slice S sn sc] s) (h' : RdQ w Q sI [.slice T tn tc] t) (hf : Fo sg 1 s ∧ Vb 48 s) (hf' : Fo sg 1 t ∧ Vb 48 t) :
  Calls Tryz.prog 147 #[.agg #[.slice A n c], .pointer (some ⟨g, 0, none⟩), .slice S sn sc, .slice T tn tc] w (AnsMeet w Q g R sg s t) := by
 have hlt := hB.lt
 obtain ⟨W, hW⟩ : ∃ W, W = ((w.alloc (.cells #[.slice A n c] 30)).alloc (.cells #[.slice S sn sc] 22)).alloc (.cells #[.slice T tn tc] 22) := ⟨_, rfl⟩
 have z1 : (w.alloc (.cells #[.slice A n c] 30)).heap.size = w.heap.size + 1 := by simp
 have z2 : ((w.alloc (.cells #[.slice A n c] 30)).alloc (.cells #[.slice S sn sc] 22)).heap.size = w.heap.size + 1 + 1 := by simp
 have bW : Below w.heap.size w W := by rw [hW]; exact (((Below.refl _ _).alloc (Nat.le_refl _) _).alloc (by simp) _).alloc (by simp; omega) _
 have hQl : ∀ b, Q b → b < w.heap.size := fun b hb => (hQ b hb).1
 have M0 : MM w Q g R A n c (List.replicate 48 []) (w.heap.size + 1) (w.heap.size + 1 + 1) 1 1 1 1 [s] [t] W := by
  refine ⟨hB.next bW hQl, ?_, ?_, ?_, by omega, ⟨bW.os, bW.tape, bW.output, bW.size, fun j hj _ => bW.block j hj⟩, hQ, ⟨hlt.1, hlt.2, hgR⟩⟩
  ·rw [hW]; exact ((Row.new _ _ _).alloc _).alloc _
  ·have r1 := (Row.new (w.alloc (.cells #[.slice A n c] 30)) 22 #[.slice S sn sc]).alloc (.cells #[.slice T tn tc] 22)
   rw [z1, ← hW] at r1
   exact Stk.single r1 (Nat.le_refl _) (h.keep (Keep.below bW hQl))
  ·have r1 := Row.new ((w.alloc (.cells #[.slice A n c] 30)).alloc (.cells #[.slice S sn sc] 22)) 22 #[.slice T tn tc]
   rw [z2, ← hW] at r1
   exact Stk.single r1 (by omega) (h'.keep (Keep.below bW hQl))
 obtain ⟨N0, hN0⟩ : ∃ N0, gS (unb (List.replicate 48 [])) (SS vt [s] [t]) = N0 := ⟨_, rfl⟩
 have S0 := hid (show HeadM w Q g R A n c sg s t N0 (.slice (some ⟨w.heap.size + 1, 0, none⟩) 1 1) (.slice (some ⟨w.heap.size + 1 + 1, 0, none⟩) 1 1) W from
  ⟨_, _, 1, 1, 1, [s], [t], _, vt, fun _ => 0, 0 :: s, 0, rfl, rfl, Mid.start 48 hf hf', Res.start sg 48, .base _ _ (by have := hf.2.1; simp; omega) (by simp) (fun v hv rk _ => by
   rw [List.mem_singleton.1 hv]
   have h9 : mr rk s ≤ mr rk (0 :: s) := mr_sub fun z hz => List.mem_cons_of_mem _ hz
   unfold pot
   rw [List.length_cons]
   omega), Nat.le_of_eq hN0, M0⟩)
 have HW := hid hW
 have HSG := hid hsg
 have HS := hid hs
 clear hB hQ hQl hsg hs h h' hf hf' hW M0 bW hN0
 go_enter Tryz.func147, Tryz.ntmps147
 go_wp2_with fail
 rw [← HW.out]
 clear HW
 go_loopg [9, 10] N0 (fun N left right wr => HeadM w Q g R A n c sg s t N left right wr)
 case atStart => exact S0.out
 case round =>
  clear S0
  obtain ⟨q1, q2, k, c1, c2, ls, rs, B, L, rk, a, dk, rfl, rfl, hMid, hRes, hChn, hN, hM⟩ := hrel
  by_cases h0 : k = 0
  ·subst h0
   have hl : ls = [] := List.length_eq_zero_iff.1 hM.l.1
   have hr : rs = [] := List.length_eq_zero_iff.1 hM.r.1
   subst hl hr
   have F := hid (show AnsMeet w Q g R sg s t (.returned (.bool true)) wr from ⟨true, B, rfl, hM.bnd, hM.gr, fun _ => ⟨hMid, L, rk, hRes⟩, fun h => by cases h⟩)
   clear hMid hRes hChn hN hM
   go_wp2
   go_ret
   exact F.out
  ·obtain ⟨m, rfl⟩ : ∃ m, k = m + 1 := ⟨k - 1, by omega⟩
   obtain ⟨ls, u0, rfl⟩ : ∃ D' u, ls = D' ++ [u] := ⟨ls.dropLast, ls.getLast (by intro e; have := hM.l.1; rw [e] at this; simp at this), (List.dropLast_concat_getLast _).symm⟩
   obtain ⟨rs, v0, rfl⟩ : ∃ D' u, rs = D' ++ [u] := ⟨rs.dropLast, rs.getLast (by intro e; have := hM.r.1; rw [e] at this; simp at this), (List.dropLast_concat_getLast _).symm⟩
   obtain ⟨X, xn, xc, cX, rX, hmc1, hc19⟩ := hM.topL
   obtain ⟨Y, yn, yc, cY, rY, hmc2, hc29⟩ := hM.topR
   have hm9 : m ≤ 10000 := by have h9 := hChn.small hRes hMid.vb; rw [hM.l.1] at h9; omega
   have fu := hMid.fl u0 (by simp)
   have fv := hMid.fr v0 (by simp)
   have i0 : (0 : Int) ≤ (m : Int) := by omega
   have i1 : (m : Int) < ((m + 1 : Nat) : Int) := by omega
   have i2 : (m : Int) ≤ (c1 : Int) := by omega
   have i3 : (m : Int) ≤ (c2 : Int) := by omega
   have HMid := hid hMid
   have HRes := hid hRes
   have HChn := hid hChn
   have HN := hid hN
   have LH := hid (l11Head Q g R B X xn xc sg u0 L rk wr hM.bnd hRes hMid.vb rX fu.1 fu.2)
   have HRY := hid rY
   clear hMid hRes hChn hN rX rY
   go_wp2_with fail
   refine LH.out.mono ?_
   rintro e w1 ⟨X', xn', xc', u, d1, rfl, rU, hdU, hw1⟩
   have hM1 : MM w Q g R A n c B q1 q2 (m + 1) (m + 1) c1 c2 (ls ++ [u0]) (rs ++ [v0]) w1 := by rw [hw1]; exact hM.drewN d1
   have cY1 : w1.cell? ⟨q2, m, none⟩ = some (.slice Y yn yc) := by rw [hw1]; exact cY
   have rU1 : RdQ w1 Q sI [.slice X' xn' xc'] u := by rw [hw1]; exact rU.keep fun _ _ => rfl
   have LH2 := hid (l11Head Q g R B Y yn yc sg v0 L rk w1 hM1.bnd HRes.out HMid.out.vb (by rw [hw1]; exact HRY.out.keep fun _ _ => rfl) fv.1 fv.2)
   clear hM LH cX cY rU hw1
   go_wp2_with fail
   refine LH2.out.mono ?_
   rintro e w2 ⟨Y', yn', yc', v, d2, rfl, rV, hdV, hw2⟩
   have hM2 := (show MM w Q g R A n c B q1 q2 (m + 1) (m + 1) c1 c2 (ls ++ [u0]) (rs ++ [v0]) w2 by rw [hw2]; exact hM1.drewN d2).pop
   have rU2 : RdQ w2 Q sI [.slice X' xn' xc'] u := by rw [hw2]; exact rU1.keep fun _ _ => rfl
   have rV2 : RdQ w2 Q sI [.slice Y' yn' yc'] v := by rw [hw2]; exact rV.keep fun _ _ => rfl
   clear hM1 LH2 cY1 rU1 rV hw2 HRY
   obtain ⟨hul, hucap, hus⟩ := rdq_nums rU2
   obtain ⟨hvl, hvcap, hvs⟩ := rdq_nums rV2
   obtain ⟨b1, o1, rfl, hqb1, hc1⟩ := hus (by have := hdU.fo.pos; omega)
   obtain ⟨b2, o2, rfl, hqb2, hc2⟩ := hvs (by have := hdV.fo.pos; omega)
   have cu : w2.cell? ⟨b1, o1, none⟩ = some (.int .i64 (u.getD 0 0)) := hc1 0 (by have := hdU.fo.pos; omega)
   have cv : w2.cell? ⟨b2, o2, none⟩ = some (.int .i64 (v.getD 0 0)) := hc2 0 (by have := hdV.fo.pos; omega)
   obtain ⟨x, hx⟩ : ∃ x, u.getD 0 0 = x := ⟨_, rfl⟩
   obtain ⟨y, hy⟩ : ∃ y, v.getD 0 0 = y := ⟨_, rfl⟩
   have p1 : (0 : Int) < (xn' : Int) := by have := hdU.fo.pos; omega
   have p2 : (0 : Int) < (yn' : Int) := by have := hdV.fo.pos; omega
   have p3 : 0 < xn' := by omega
   have p4 : 0 < yn' := by omega
   rw [hx] at cu
   rw [hy] at cv
   clear hus hvs hc1 hc2
   go_wp2_with fail
   have HX := hid hx
   have HY := hid hy
   have HdU := hid hdU
   have HdV := hid hdV
   have HM2 := hid hM2
   have HRU := hid rU2
   have HRV := hid rV2
   have hu60 := hdU.vb.1
   have hv60 := hdV.vb.1
   have hx60 : xn' ≤ 60 := by omega
   have hy60 : yn' ≤ 60 := by omega
   have hxm : x ∈ u := by rw [← hx]; cases u with | nil => simp at hul; omega | cons z r => exact List.mem_cons_self ..
   have hym : y ∈ v := by rw [← hy]; cases v with | nil => simp at hvl; omega | cons z r => exact List.mem_cons_self ..
   have hxv := hdU.vb.2 x hxm
   have hyv := hdV.vb.2 y hym
   clear hx hy hdU hdV hM2 rU2 rV2 fu fv hxm hym
   by_cases hxy : x = y
   ·subst hxy
    have e1 : (x == x) = true := by simp
    by_cases hx0 : x < 0
    ·have F := hid (show ∀ dd, HeadM w Q g R A n c sg s t (gS (unb B) (SS L ls rs)) (.slice (some ⟨q1, 0, none⟩) m c1) (.slice (some ⟨q2, 0, none⟩) m c2) (w2.drewN dd) from fun dd => by
      obtain ⟨a', dk', hc', -⟩ := HChn.out.pop
      exact ⟨q1, q2, m, c1, c2, ls, rs, B, L, rk, a', dk', rfl, rfl, HMid.out.same HdU.out HdV.out (by rw [HX.out]; exact hx0) (by rw [HX.out, HY.out]), HRes.out, hc', Nat.le_refl _, HM2.out.drewN dd⟩)
     have FN := hid (show gS (unb B) (SS L ls rs) < gk from Nat.lt_of_lt_of_le (round_same HdU.out HdV.out HRes.out) HN.out)
     clear hul hvl hucap hvcap
     go_wp2_with fail
     go_quiet (fail)
     go_wp2
     go_roundg (gS (unb B) (SS L ls rs))
     case measure => exact FN.out
     case rel => exact F.out _
    ·have d0 : decide (x < 0) = false := decide_eq_false hx0
     have e2 : (x != x) = false := by simp
     have hpz : 0 ≤ u.getD 0 0 := by rw [HX.out]; exact Int.not_lt.1 hx0
     have hqz : 0 ≤ v.getD 0 0 := by rw [HY.out]; exact Int.not_lt.1 hx0
     have cA : w2.cell? ⟨w.heap.size, 0, none⟩ = some (.slice A n c) := HM2.out.box.cell 0
     clear hul hvl hucap hvcap
     go_wp2_with fail
     go_quiet (fail)
     go_wp2_with fail
     go_quiet (fail)
     go_wp2_with fail
     have HMA := hid (fun d => HM2.out.drewN d)
     have HRUA := hid (fun d => RdQ.keep (w := w2) (w' := w2.drewN d) (fun _ _ => rfl) HRU.out)
     have HRVA := hid (fun d => RdQ.keep (w := w2) (w' := w2.drewN d) (fun _ _ => rfl) HRV.out)
     have LP := hid (fun d => l13Parts Q A (some ⟨b1, o1, none⟩) n c xn' xc' sg u (w2.drewN d) (Rd.seg ((HSG.out.keep (HMA.out d).keep).rd (HMA.out d).q)) (HRUA.out d) (HMA.out d).q hn (by omega) HS.out HdU.out.fo hpz)
     refine (LP.out _).mono ?_
     rintro e w3 ⟨g3, pk, pc, ps, rfl, oP, hP, bb⟩
     have M3 := (HMA.out _).next bb
     have RV3 := (HRVA.out _).keep (Keep.below bb (HMA.out _).q)
     have LQ := hid (fun (w4 : World) (M4 : Row w4 w.heap.size 30 #[.slice A n c]) (h1 : Keep Q w w4) (h2 : ∀ b, Q b → b < w4.heap.size) (h3 : RdQ w4 Q sI [.slice (some ⟨b2, o2, none⟩) yn' yc'] v) => l13Parts Q A (some ⟨b2, o2, none⟩) n c yn' yc' sg v w4 (Rd.seg ((HSG.out.keep h1).rd h2)) h3 h2 hn (by omega) HS.out HdV.out.fo hqz)
     have hpk : pk ≤ 3 := by
      obtain ⟨⟨z, -, -, -, hl⟩, -⟩ := id hP
      have h9 := ar_bd HS.out z
      have := oP.1
      omega
     have hlo3 := M3.lo
     have hQ3 : ∀ b, Q b → b < w.heap.size + 1 := fun b hb => Nat.lt_succ_of_lt (M3.hQ b hb).1
     clear bb LP HMA HRUA HRVA cu cv cA HRU HRV HM2
     go_wp2_with (at_builtin; refine appStk rfl _ _ rfl Q (w.heap.size + 1) _ (some ⟨q1, 0, none⟩) m c1 g3 pk pc ls ps rfl M3.l rfl oP (by omega) (by omega) hlo3 hQ3 ?_; intro A' c' w4 o4 g4 h4; refine (?_ : Hid _).out)
     obtain ⟨q1', rfl, hq1⟩ := some_of (q := q1) o4 h4
     have M4 := M3.pushL g4 o4 hq1
     have RV4 := RV3.keep (M3.far g4 M3.ge.1).2.2.2
     have cA4 : w4.cell? ⟨w.heap.size, 0, none⟩ = some (.slice A n c) := M4.box.cell 0
     have LR := hid (LQ.out w4 M4.box M4.keep M4.q RV4)
     clear M3 RV3 LQ o4 g4 h4 hq1 oP hlo3
     refine hid ?_
     go_wp2_with fail
     refine LR.out.mono ?_
     rintro e w5 ⟨g5, zk, zc, zs, rfl, oZ, hZ, bb⟩
     have M5 := M4.next bb
     have hzk : zk ≤ 3 := by
      obtain ⟨⟨z, -, -, -, hl⟩, -⟩ := id hZ
      have h9 := ar_bd HS.out z
      have := oZ.1
      omega
     have hpz2 : pk = zk := by
      obtain ⟨⟨z, -, -, ez, hl⟩, -⟩ := id hP
      obtain ⟨⟨z', -, -, ez', hl'⟩, -⟩ := id hZ
      have a1 := HX.out
      have a2 := HY.out
      rw [ez] at a1
      rw [ez'] at a2
      have a1 : z = x := a1
      have a2 : z' = x := a2
      have a3 := oZ.1
      rw [a1] at hl
      rw [a2] at hl'
      have a4 : ps.length = pk := by have := M4.l.1; simp at this; have h9 := HMid.out.len; simp at h9; have h10 := M4.r.1; omega
      omega
     subst hpz2
     have hlo5 := M5.lo
     clear bb LR M4 RV4 cA4
     go_wp2_with (at_builtin; refine appStk rfl _ _ rfl Q (w.heap.size + 1) _ (some ⟨q2, 0, none⟩) m c2 g5 pk zc rs zs rfl M5.r rfl oZ (by omega) (by omega) hlo5 hQ3 ?_; intro A' c'' w6 o6 g6 h6; refine (?_ : Hid _).out)
     obtain ⟨q2', rfl, hq2⟩ := some_of (q := q2) o6 h6
     have M6 := M5.pushR g6 o6 hq2
     have F := hid (show HeadM w Q g R A n c sg s t (gS (unb B) (SS L (ls ++ ps) (rs ++ zs))) (.slice (some ⟨q1', 0, none⟩) (m + pk) c') (.slice (some ⟨q2', 0, none⟩) (m + pk) c'') w6 from by
      obtain ⟨a', dk', hc', hu'⟩ := HChn.out.pop
      refine ⟨q1', q2', m + pk, c', c'', ls ++ ps, rs ++ zs, B, L, rk, u0, dk' + 1, rfl, rfl, HMid.out.parts HdU.out HdV.out hP hZ (by rw [HX.out, HY.out]), HRes.out, .push a' u0 ls ps dk' hc' hu' ?_ ?_, Nat.le_refl _, M6⟩
      ·have := M6.l.1; simp at this; have h9 := HMid.out.len; simp at h9; have h10 := M5.r.1; omega
      ·intro z hz rk' hr'
       exact Nat.lt_of_lt_of_le (pot_part hP hz) (HdU.out.pot rk' hr'))
     have FN := hid (show gS (unb B) (SS L (ls ++ ps) (rs ++ zs)) < gk from Nat.lt_of_lt_of_le (round_parts HdU.out HdV.out HRes.out hP hZ) HN.out)
     clear M5 M6 o6 g6 h6 hq2 oZ
     refine hid ?_
     go_wp2
     go_roundg (gS (unb B) (SS L (ls ++ ps) (rs ++ zs)))
     case measure => exact FN.out
     case rel => exact F.out
   ·have e1 : (x == y) = false := by simp [hxy]
    by_cases hx0 : x < 0
    ·obtain ⟨i, hxi⟩ := neg_nat hx0
     subst hxi
     have hi : i < 48 := by omega
     have hwrap : IntKind.i64.wrap (-1 - (-1 - (i : Int))) = (i : Int) := by rw [IntKind.wrap_i64]; omega
     have hvr : vr (-1 - (i : Int)) = i := vr_at i
     have hb : bd B i = [] := by have := HdU.out.top (by rw [HX.out]; exact hx0); rw [HX.out, hvr] at this; exact this
     have j1 : (0 : Int) ≤ (i : Int) := by omega
     have j2 : (i : Int) < 48 := by omega
     have LO := hid (fun dd => l11Occurs Q g R B (some ⟨b2, o2, none⟩) yn' yc' sg v (-1 - (i : Int)) L rk (w2.drewN dd) (HM2.out.bnd.drewN dd) (HM2.out.drewN dd).q HRes.out HMid.out.vb (HRV.out.keep fun _ _ => rfl) HdV.out.fo HdV.out.vb (by omega) hx0 (by rw [hvr]; exact hb))
     have HVR := hid hvr
     clear hul hvl hucap hvcap hvr
     go_wp2_with fail
     go_quiet (fail)
     go_wp2_with fail
     refine (LO.out _).mono ?_
     rintro e w3 ⟨he, bb⟩
     have HM3 := hid ((HM2.out.drewN nq).next bb)
     have HRV3 := hid ((RdQ.keep (w := w2) (w' := w2.drewN nq) (fun _ _ => rfl) HRV.out).keep (w' := w3) (Keep.below bb (HM2.out.drewN nq).q))
     have cu3 : w3.cell? ⟨b1, o1, none⟩ = some (.int .i64 (-1 - (i : Int))) := (bb.cell (p := ⟨b1, o1, none⟩) (HM2.out.q b1 hqb1)).trans cu
     clear bb LO cu cv HRU HRV
     by_cases hoc : (-1 - (i : Int)) ∈ fillL L v
     ·rw [decide_eq_true hoc] at he
      subst he
      have F := hid (show AnsMeet w Q g R sg s t (.returned (.bool false)) w3 from ⟨false, B, rfl, HM3.out.bnd, HM3.out.gr, fun h => (by cases h), fun _ => HMid.out.occurs HdU.out HdV.out HRes.out (by rw [HX.out]; exact hx0) (by rw [HX.out, HY.out]; exact hxy) (by rw [HX.out]; exact hoc)⟩)
      clear HM3 HRV3 cu3 hoc
      go_wp2
      try rw [Exit.noGoto_ret]
      go_ret
      exact F.out
     ·rw [decide_eq_false hoc] at he
      subst he
      have cg3 : w3.cell? ⟨g, 0, none⟩ = some (.slice (some ⟨R, 0, none⟩) 48 48) := HM3.out.bnd.top
      obtain ⟨V, vn, vc, cV3, -⟩ := HM3.out.bnd.at hi
      have fV3 : w3.frozen? ⟨R, i, none⟩ = false := HM3.out.bnd.free i
      have hvne : v ≠ [] := fun e => by have := HdV.out.fo; rw [e] at this; exact absurd this.none (by simp)
      obtain ⟨rk', hR'⟩ := HRes.out.bind (by rw [HMid.out.bl]; exact hi) hb HdV.out.fo hoc
      have hib : i < B.length := by rw [HMid.out.bl]; exact hi
      have F := hid (show HeadM w Q g R A n c sg s t (gS (unb (B.set i v)) (SS (fun j => fillL (ones i (fillL L v)) (L j)) ls rs)) (.slice (some ⟨q1, 0, none⟩) m c1) (.slice (some ⟨q2, 0, none⟩) m c2) ((w3.setCell ⟨R, i, none⟩ (.slice (some ⟨b2, o2, none⟩) yn' yc')).drew) from by
       obtain ⟨a', dk', hc', -⟩ := HChn.out.pop
       have hmb := HMid.out.bind HdU.out HdV.out (by rw [HX.out]; exact hx0)
       rw [HX.out, HVR.out] at hmb
       exact ⟨q1, q2, m, c1, c2, ls, rs, _, _, rk', a', dk', rfl, rfl, hmb, hR', hc'.bind hib hb, Nat.le_refl _, (HM3.out.bind hi HRV3.out).next ⟨rfl, rfl, rfl, Nat.le_refl _, fun _ _ => rfl⟩⟩)
      have FN := hid (show gS (unb (B.set i v)) (SS (fun j => fillL (ones i (fillL L v)) (L j)) ls rs) < gk from Nat.lt_of_lt_of_le (round_bind HdU.out HdV.out HRes.out hib hb) HN.out)
      clear hR' hoc hvne hib HM3 HRV3 hb
      go_wp2_with fail
      go_region_law (fail)
      all_goals
       go_wp2
       go_roundg (gS (unb (B.set i v)) (SS (fun j => fillL (ones i (fillL L v)) (L j)) ls rs))
       case measure => exact FN.out
       case rel => exact F.out
    ·have d0 : decide (x < 0) = false := decide_eq_false hx0
     by_cases hy0 : y < 0
     ·obtain ⟨i, hyi⟩ := neg_nat hy0
      subst hyi
      have hi : i < 48 := by omega
      have hwrap : IntKind.i64.wrap (-1 - (-1 - (i : Int))) = (i : Int) := by rw [IntKind.wrap_i64]; omega
      have hvr : vr (-1 - (i : Int)) = i := vr_at i
      have hb : bd B i = [] := by have := HdV.out.top (by rw [HY.out]; exact hy0); rw [HY.out, hvr] at this; exact this
      have j1 : (0 : Int) ≤ (i : Int) := by omega
      have j2 : (i : Int) < 48 := by omega
      have LO := hid (fun dd => l11Occurs Q g R B (some ⟨b1, o1, none⟩) xn' xc' sg u (-1 - (i : Int)) L rk (w2.drewN dd) (HM2.out.bnd.drewN dd) (HM2.out.drewN dd).q HRes.out HMid.out.vb (HRU.out.keep fun _ _ => rfl) HdU.out.fo HdU.out.vb (by omega) hy0 (by rw [hvr]; exact hb))
      have HVR := hid hvr
      clear hul hvl hucap hvcap hvr
      go_wp2_with fail
      go_quiet (fail)
      go_wp2_with fail
      refine (LO.out _).mono ?_
      rintro e w3 ⟨he, bb⟩
      have HM3 := hid ((HM2.out.drewN nq).next bb)
      have HRU3 := hid ((RdQ.keep (w := w2) (w' := w2.drewN nq) (fun _ _ => rfl) HRU.out).keep (w' := w3) (Keep.below bb (HM2.out.drewN nq).q))
      have cu3 : w3.cell? ⟨b2, o2, none⟩ = some (.int .i64 (-1 - (i : Int))) := (bb.cell (p := ⟨b2, o2, none⟩) (HM2.out.q b2 hqb2)).trans cv
      clear bb LO cu cv HRU HRV
      by_cases hoc : (-1 - (i : Int)) ∈ fillL L u
      ·rw [decide_eq_true hoc] at he
       subst he
       have F := hid (show AnsMeet w Q g R sg s t (.returned (.bool false)) w3 from ⟨false, B, rfl, HM3.out.bnd, HM3.out.gr, fun h => (by cases h), fun _ => fun θ hθ => HMid.out.swap.occurs HdV.out HdU.out HRes.out (by rw [HY.out]; exact hy0) (by rw [HX.out, HY.out]; exact fun e => hxy e.symm) (by rw [HY.out]; exact hoc) θ ⟨hθ.1, hθ.2.symm⟩⟩)
       clear HM3 HRU3 cu3 hoc
       go_wp2
       try rw [Exit.noGoto_ret]
       go_ret
       exact F.out
      ·rw [decide_eq_false hoc] at he
       subst he
       have cg3 : w3.cell? ⟨g, 0, none⟩ = some (.slice (some ⟨R, 0, none⟩) 48 48) := HM3.out.bnd.top
       obtain ⟨V, vn, vc, cV3, -⟩ := HM3.out.bnd.at hi
       have fV3 : w3.frozen? ⟨R, i, none⟩ = false := HM3.out.bnd.free i
       have hvne : u ≠ [] := fun e => by have := HdU.out.fo; rw [e] at this; exact absurd this.none (by simp)
       obtain ⟨rk', hR'⟩ := HRes.out.bind (by rw [HMid.out.bl]; exact hi) hb HdU.out.fo hoc
       have hib : i < B.length := by rw [HMid.out.bl]; exact hi
       have F := hid (show HeadM w Q g R A n c sg s t (gS (unb (B.set i u)) (SS (fun j => fillL (ones i (fillL L u)) (L j)) ls rs)) (.slice (some ⟨q1, 0, none⟩) m c1) (.slice (some ⟨q2, 0, none⟩) m c2) ((w3.setCell ⟨R, i, none⟩ (.slice (some ⟨b1, o1, none⟩) xn' xc')).drew) from by
        obtain ⟨a', dk', hc', -⟩ := HChn.out.pop
        have hmb := (HMid.out.swap.bind HdV.out HdU.out (by rw [HY.out]; exact hy0)).swap
        rw [HY.out, HVR.out] at hmb
        exact ⟨q1, q2, m, c1, c2, ls, rs, _, _, rk', a', dk', rfl, rfl, hmb, hR', hc'.bind hib hb, Nat.le_refl _, (HM3.out.bind hi HRU3.out).next ⟨rfl, rfl, rfl, Nat.le_refl _, fun _ _ => rfl⟩⟩)
       have FN := hid (show gS (unb (B.set i u)) (SS (fun j => fillL (ones i (fillL L u)) (L j)) ls rs) < gk from Nat.lt_of_lt_of_le (by have h9 := round_bind (ls := rs) (rs := ls) HdV.out HdU.out HRes.out hib hb; rw [SS_comm, SS_comm L] at h9; exact h9) HN.out)
       clear hR' hoc hvne hib HM3 HRU3 hb
       go_wp2_with fail
       go_region_law (fail)
       all_goals
        go_wp2
        go_roundg (gS (unb (B.set i u)) (SS (fun j => fillL (ones i (fillL L u)) (L j)) ls rs))
        case measure => exact FN.out
        case rel => exact F.out
     ·have d1 : decide (y < 0) = false := decide_eq_false hy0
      have e2 : (x != y) = true := by simp [hxy]
      have F := hid (show ∀ dd, AnsMeet w Q g R sg s t (.returned (.bool false)) (w2.drewN dd) from fun dd => ⟨false, B, rfl, HM2.out.bnd.drewN dd, (HM2.out.drewN dd).gr, fun h => (by cases h), fun _ => HMid.out.clash HdU.out HdV.out (by rw [HX.out]; exact Int.not_lt.1 hx0) (by rw [HY.out]; exact Int.not_lt.1 hy0) (by rw [HX.out, HY.out]; exact hxy)⟩)
      clear hul hvl hucap hvcap
      go_wp2_with fail
      go_quiet (fail)
      go_wp2_with fail
      go_quiet (fail)
      go_wp2
      try rw [Exit.noGoto_ret]
      go_ret
      rw [World.drewN_drewN]
      exact F.out _
end meetSpec
end
section
namespace look
open Go.RowKit base ints marks app sym segs fillMath
set_option maxRecDepth 100000
def AnsLook (B : Nat) (w : World) (ys : List Int) (e : Ending) (w' : World) : Prop := ∃ A n c, e = .returned (.slice A n c) ∧ Seg w' w'.heap.size A n ys ∧ Cap A n c ∧ (∀ k, blk A = some k → k < B ∨ w.heap.size ≤ k) ∧ Below w.heap.size w w'
def Looks (g : Nat) (lb : Array Value) (w : World) (L : Nat → List Int) (N : Nat) : Prop :=
 ∀ (W : World) (i : Nat), Below w.heap.size w W → i < N → Calls Tryz.prog g (#[.int .i64 (i : Int)] ++ lb) W (AnsLook w.heap.size W (L i))
theorem Looks.next {g : Nat} {lb : Array Value} {w w' : World} {L : Nat → List Int} {N : Nat} (h : Looks g lb w L N) (hb : Below w.heap.size w w') : Looks g lb w' L N :=
 fun W i hW hi => (h W i (next_trans hb hW) hi).mono fun _ _ ⟨A, n, c, he, h1, h2, h3, h4⟩ => ⟨A, n, c, he, h1, h2, fun k hk => by have := h3 k hk; have := hb.size; omega, h4⟩
theorem own_cap {w : World} {base : Nat} {A : Option Addr} {n c : Nat} {xs : List Int} (h : Own w base (.slice A n c) xs) : Cap A n c := by
 have hl := Own.len h
 rcases own_form (n := n) (vs := xs.map (Value.int .i64)) (by rw [hl]; rw [hl] at h; exact h) with ⟨rfl, h1, rfl, _⟩ | ⟨g, cur, rfl, _, _, h1, h2, h3, _⟩
 ·exact ⟨by omega, by omega, fun _ => rfl⟩
 ·exact ⟨h1, h3, fun e => by cases e⟩
end look
end
section
open Go.Lib (hid)
namespace fullSpec
open Go.RowKit base ints sig term sym varsOf marks app appAt segs kinds shape drawX fillMath matchMath unifMath forest triMath stk bnd Go.Proofs.YtlmofkeemlfpgaaGreat.look
set_option maxRecDepth 100000
def fl (L : Nat → List Int) (t : List Int) : List Int := if (fillL L t).length ≤ 60 then fillL L t else []
def HeadF (w : World) (L : Nat → List Int) (m : Nat) (t : List Int) (out i : Value) (wr : World) : Prop :=
 ∃ (k on oc : Nat) (O : Option Addr), k ≤ m ∧ i = .int .i64 (k : Int) ∧ out = .slice O on oc ∧ Own wr w.heap.size (.slice O on oc) (fillL L (t.take k)) ∧ on ≤ 60 ∧ Below w.heap.size w wr
theorem fl_long {L : Nat → List Int} {t : List Int} {k : Nat} (h : 60 < (fillL L (t.take k)).length) : fl L t = [] := by
 unfold fl
 rw [if_neg]
 have e : fillL L t = fillL L (t.take k) ++ fillL L (t.drop k) := by rw [← fill_append, List.take_append_drop]
 rw [e, List.length_append]
 omega
set_option maxHeartbeats 1000000 in
theorem l11Full (Q : Nat → Prop) (g R : Nat) (B : List (List Int)) (sg : List Int) (L : Nat → List Int) (rk : Nat → Nat) (hR : Res sg B L rk) (hV : ∀ i, Vb 48 (bd B i)) : ∀ (K : Nat) (A : Option Addr) (n c : Nat) (t : List Int) (w : World), Bnd w Q g R B → (∀ b, Q b → b < w.heap.size) → RdQ w Q sI [.slice A n c] t → n ≤ 1048576 → (∀ z ∈ t, z < 0 → vr z < 48 ∧ rk (vr z) < K) →
  Calls Tryz.prog 114 #[.pointer (some ⟨g, 0, none⟩), .slice A n c] w (AnsList w (fl L t)) := by
 intro K
 induction K using Nat.strongRecOn with
 | _ K IH =>
 intro A n c t w hB hQ h hn hK
 obtain ⟨hl, hcap, hspot⟩ := rdq_nums h
 have HB := hid hB
 have HQ := hid hQ
 have H := hid h
 have HR := hid hR
 have HL := hid hl
 have HK := hid hK
 have HIH := hid IH
 have HS := hid hspot
 have S0 := hid (show HeadF w L n t (.slice (some ⟨w.heap.size, 0, none⟩) 0 0) (.int .i64 0) (w.alloc (.cells #[] 2)) from ⟨0, 0, 0, _, Nat.zero_le _, rfl, rfl, own_empty w w.heap.size (Nat.le_refl _), by omega, (Below.refl _ _).alloc (Nat.le_refl _) _⟩)
 clear hB hQ h hR hK hspot IH hl
 go_enter Tryz.func114, Tryz.ntmps114
 go_wp2_with fail
 go_loopw [5, 6] (fun out i wr => HeadF w L n t out i wr) (fun _ i _ => n - (intOf i).toNat)
 case atStart => exact S0.out
 case round =>
  clear S0
  obtain ⟨k, on, oc, O, hk, rfl, rfl, hO, hon, hb⟩ := hrel
  have HOL := hid (Own.len hO)
  by_cases hlt : k < n
  ·obtain ⟨b, off, rfl, hqb, hc⟩ := HS.out (by omega)
   obtain ⟨x, hx⟩ : ∃ x, t.getD k 0 = x := ⟨_, rfl⟩
   have cx : wr.cell? ⟨b, off + k, none⟩ = some (.int .i64 x) := by
    have h9 := hc k hlt
    rw [hx] at h9
    exact (hb.cell (p := ⟨b, off + k, none⟩) (HQ.out b hqb)).trans h9
   have HE := hid (show fillL L (t.take (k + 1)) = fillL L (t.take k) ++ rep L x from fill_take (by rw [HL.out]; exact hlt) hx)
   have hxm : x ∈ t := by
    rw [← hx, List.getD_eq_getElem?_getD, List.getElem?_eq_getElem (by rw [HL.out]; exact hlt)]
    exact List.getElem_mem _
   have i0 : (0 : Int) ≤ (k : Int) := by omega
   have i1 : (k : Int) < (n : Int) := by omega
   have hsz := hb.size
   clear hx hc
   have one : ∀ (dd : Nat) (w2 : World) (O' : Option Addr) (oc' : Nat), rep L x = [x] → Own w2 w.heap.size (.slice O' (on + 1) oc') (fillL L (t.take k) ++ [x]) → Below w.heap.size ((wr.drewN dd).alloc (.cells #[.int .i64 x] 2)) w2 →
     (on + 1 ≤ 60 → HeadF w L n t (.slice O' (on + 1) oc') (.int .i64 ((k : Int) + 1)) w2) ∧ (60 < on + 1 → AnsList w (fl L t) (.returned (.slice (some ⟨w2.heap.size, 0, none⟩) 0 0)) (w2.alloc (.cells #[] 2))) := by
    intro dd w2 O' oc' hrep ho2 b2
    have hb2 : Below w.heap.size w w2 := ((base.below_drewN hb dd).alloc hsz _).trans b2
    refine ⟨fun h60 => ⟨k + 1, on + 1, oc', O', hlt, by simp, rfl, by rw [HE.out, hrep]; exact ho2, h60, hb2⟩, fun h60 => ?_⟩
    rw [fl_long (k := k + 1) (by rw [HE.out, hrep, List.length_append, ← HOL.out]; simpa using h60)]
    exact ⟨_, 0, 0, rfl, own_empty w2 w.heap.size hb2.size, hb2.alloc hb2.size _⟩
   by_cases hx0 : x < 0
   ·obtain ⟨hv48, hrk⟩ := HK.out x hxm hx0
    obtain ⟨i, rfl⟩ : ∃ i : Nat, x = -1 - (i : Int) := ⟨(-1 - x).toNat, by omega⟩
    have hvr : vr (-1 - (i : Int)) = i := vr_at i
    rw [hvr] at hv48 hrk
    have hwrap : IntKind.i64.wrap (-1 - (-1 - (i : Int))) = (i : Int) := by rw [IntKind.wrap_i64]; omega
    have j1 : (0 : Int) ≤ (i : Int) := by omega
    have j2 : (i : Int) < 48 := by omega
    have HBr := hid (HB.out.next hb HQ.out)
    obtain ⟨V, vn, vc, cV, rV⟩ := HBr.out.at hv48
    have hvl : (bd B i).length = vn := (rdq_nums rV).1
    have cg : wr.cell? ⟨g, 0, none⟩ = some (.slice (some ⟨R, 0, none⟩) 48 48) := HBr.out.top
    by_cases hvn : vn = 0
    ·subst hvn
     have hbe : bd B i = [] := List.length_eq_zero_iff.1 hvl
     have ONE := hid (fun dd w2 O' oc' => one dd w2 O' oc' (by rw [rep_vr hx0, hvr, HR.out.free i hbe]; rfl))
     have hOd := hid (fun dd => Own.drewN hO dd)
     clear one hvl rV hbe hb hO HE
     by_cases h60 : on + 1 ≤ 60
     ·have i4 : ¬ (60 : Int) < (on : Int) + 1 := by omega
      go_wp2_with fail
      go_quiet (fail)
      go_wp2_with (at_builtin; refine app1 rfl _ _ rfl w.heap.size O on oc _ rfl (Own.alloc (hOd.out nq) _) wr.heap.size 1 (-1 - (i : Int)) rfl ((Row.new _ _ _).cell 0) (by omega) (by simp; omega) ?_; intro O' oc' w2 ho2 b2; have G := hid ((ONE.out nq w2 O' oc' ho2 b2).1 h60); clear ho2 b2 hOd HOL ONE)
      go_roundw
      case rel => exact G.out
      case measure => simp [intOf]; omega
     ·have i4 : (60 : Int) < (on : Int) + 1 := by omega
      have h61 : 60 < on + 1 := by omega
      go_wp2_with fail
      go_quiet (fail)
      go_wp2_with (at_builtin; refine app1 rfl _ _ rfl w.heap.size O on oc _ rfl (Own.alloc (hOd.out nq) _) wr.heap.size 1 (-1 - (i : Int)) rfl ((Row.new _ _ _).cell 0) (by omega) (by simp; omega) ?_; intro O' oc' w2 ho2 b2; have G := hid ((ONE.out nq w2 O' oc' ho2 b2).2 h61); clear ho2 b2 hOd HOL ONE)
      try rw [Exit.noGoto_ret]
      go_ret
      exact G.out
    ·have hbn : bd B i ≠ [] := fun e => hvn (by rw [← hvl, e]; rfl)
     have hv0 : 0 < vn := by omega
     have hw0 : ¬ vn = 0 := hvn
     have i7 : ((vn : Int) == 0) = false := by simpa using hvn
     have i8 : decide ((i : Int) ≤ -1) = false := decide_eq_false (by omega)
     have hLi : L i = fillL L (bd B i) := HR.out.bnd i hbn
     have hfo := (HR.out.fo i hbn).fill HR.out.sb
     have HREP := hid (show rep L (-1 - (i : Int)) = fillL L (bd B i) by rw [rep_vr hx0, hvr, hLi])
     have LF := hid (fun dd => HIH.out (rk i) hrk V vn vc (bd B i) (wr.drewN dd).drew (HBr.out.keep rfl rfl fun _ _ => rfl) (fun b' hb' => Nat.lt_of_lt_of_le (HQ.out b' hb') hsz) (rV.keep fun _ _ => rfl) (by have := (hV i).1; omega) (fun z hz h0 => ⟨(hV i).vr hz h0, HR.out.rnk i z hz h0⟩))
     have zg : g < wr.heap.size := HBr.out.lt.1
     have zR : R < wr.heap.size := HBr.out.lt.2
     have zb : b < wr.heap.size := Nat.lt_of_lt_of_le (HQ.out b hqb) hsz
     have HO := hid hO
     have HBB := hid hb
     obtain ⟨Z, hZ⟩ : ∃ Z, fillL L (bd B i) = Z := ⟨_, rfl⟩
     have hfl : fl L (bd B i) = if Z.length ≤ 60 then Z else [] := by unfold fl; rw [hZ]
     rw [hfl] at LF
     rw [hZ] at HREP
     have hz1 : 1 ≤ Z.length := by rw [← hZ]; exact hfo.pos
     clear one hvl rV hbn hb hO hLi hfo hZ hfl hvr hvn
     by_cases hz60 : Z.length ≤ 60
     ·rw [if_pos hz60] at LF
      obtain ⟨zl, hzl⟩ : ∃ zl, Z.length = zl := ⟨_, rfl⟩
      rw [hzl] at hz1 hz60
      have HZL := hid hzl
      clear hzl
      have R1 := hid (fun (w3 w4 : World) (O' : Option Addr) (oc' : Nat) (b3 : Below wr.heap.size wr w3) (ho : Own w4 w.heap.size (.slice O' (on + zl) oc') (fillL L (t.take k) ++ Z)) (b4 : Below w.heap.size w3 w4) =>
       (show (on + zl ≤ 60 → HeadF w L n t (.slice O' (on + zl) oc') (.int .i64 ((k : Int) + 1)) w4) ∧ (60 < on + zl → AnsList w (fl L t) (.returned (.slice (some ⟨w4.heap.size, 0, none⟩) 0 0)) (w4.alloc (.cells #[] 2))) from by
        have hb2 : Below w.heap.size w w4 := (HBB.out.trans (b3.mono hsz)).trans b4
        refine ⟨fun h60 => ⟨k + 1, on + zl, oc', O', hlt, by simp, rfl, by rw [HE.out, HREP.out]; exact ho, h60, hb2⟩, fun h60 => ?_⟩
        rw [fl_long (k := k + 1) (by rw [HE.out, HREP.out, List.length_append, ← HOL.out, HZL.out]; exact h60)]
        exact ⟨_, 0, 0, rfl, own_empty w4 w.heap.size hb2.size, hb2.alloc hb2.size _⟩))
      have i5 : ¬ (zl : Int) = 0 := by omega
      have i6 : ((zl : Int) == 0) = false := by simpa using i5
      by_cases h60 : on + zl ≤ 60
      ·have i4 : ¬ (60 : Int) < (on : Int) + (zl : Int) := by omega
       go_wp2_with fail
       go_quiet (fail)
       go_wp2_with fail
       go_region_held3 (fun w' => w'.cell? ⟨g, 0, none⟩ = some (.slice (some ⟨R, 0, none⟩) 48 48) ∧ w'.cell? ⟨R, i, none⟩ = some (.slice V vn vc) ∧ w'.cell? ⟨b, off + k, none⟩ = some (.int .i64 (-1 - (i : Int))))
        (go_keep)
        (first
         | (go_at_call 114; refine (LF.out nq).mono ?_; rintro e w3 ⟨Y, yn, yc, rfl, oY, bb⟩; obtain rfl : yn = zl := (Own.len oY).trans HZL.out; have b3 : Below wr.heap.size wr w3 := next_trans ((base.below_drewN (Below.refl wr.heap.size wr) nq).drew) bb; have m0 : w3.cell? ⟨g, 0, none⟩ = some (.slice (some ⟨R, 0, none⟩) 48 48) := (b3.cell (p := ⟨g, 0, none⟩) zg).trans cg; have m1 : w3.cell? ⟨R, i, none⟩ = some (.slice V vn vc) := (b3.cell (p := ⟨R, i, none⟩) zR).trans cV; have m2 : w3.cell? ⟨b, off + k, none⟩ = some (.int .i64 (-1 - (i : Int))) := (b3.cell (p := ⟨b, off + k, none⟩) zb).trans cx))
       have hO3 := Own.next HO.out b3
       clear LF m0 m1 m2 bb
       go_wp2_with (at_builtin; refine appAll rfl _ _ rfl w.heap.size O on oc _ rfl hO3 Y yn yc _ Z rfl (Own.seg oY) (own_cap oY).2.2 (by omega) (by omega) (Nat.le_trans hsz b3.size) ?_; intro O' oc' w4 ho4 b4; have G := hid ((R1.out w3 w4 O' oc' b3 ho4 b4).1 h60); clear ho4 b4 hO3 oY R1)
       go_roundw
       case rel => exact G.out
       case measure => simp [intOf]; omega
      ·have i4 : (60 : Int) < (on : Int) + (zl : Int) := by omega
       have h61 : 60 < on + zl := by omega
       go_wp2_with fail
       go_quiet (fail)
       go_wp2_with fail
       go_region_held3 (fun w' => w'.cell? ⟨g, 0, none⟩ = some (.slice (some ⟨R, 0, none⟩) 48 48) ∧ w'.cell? ⟨R, i, none⟩ = some (.slice V vn vc) ∧ w'.cell? ⟨b, off + k, none⟩ = some (.int .i64 (-1 - (i : Int))))
        (go_keep)
        (first
         | (go_at_call 114; refine (LF.out nq).mono ?_; rintro e w3 ⟨Y, yn, yc, rfl, oY, bb⟩; obtain rfl : yn = zl := (Own.len oY).trans HZL.out; have b3 : Below wr.heap.size wr w3 := next_trans ((base.below_drewN (Below.refl wr.heap.size wr) nq).drew) bb; have m0 : w3.cell? ⟨g, 0, none⟩ = some (.slice (some ⟨R, 0, none⟩) 48 48) := (b3.cell (p := ⟨g, 0, none⟩) zg).trans cg; have m1 : w3.cell? ⟨R, i, none⟩ = some (.slice V vn vc) := (b3.cell (p := ⟨R, i, none⟩) zR).trans cV; have m2 : w3.cell? ⟨b, off + k, none⟩ = some (.int .i64 (-1 - (i : Int))) := (b3.cell (p := ⟨b, off + k, none⟩) zb).trans cx))
       have hO3 := Own.next HO.out b3
       clear LF m0 m1 m2 bb
       go_wp2_with (at_builtin; refine appAll rfl _ _ rfl w.heap.size O on oc _ rfl hO3 Y yn yc _ Z rfl (Own.seg oY) (own_cap oY).2.2 (by omega) (by omega) (Nat.le_trans hsz b3.size) ?_; intro O' oc' w4 ho4 b4; have G := hid ((R1.out w3 w4 O' oc' b3 ho4 b4).2 h61); clear ho4 b4 hO3 oY R1)
       try rw [Exit.noGoto_ret]
       go_ret
       exact G.out
     ·rw [if_neg hz60] at LF
      have HLO := hid (show fl L t = [] from fl_long (k := k + 1) (by rw [HE.out, HREP.out, List.length_append]; omega))
      go_wp2_with fail
      go_quiet (fail)
      go_wp2_with fail
      go_region_held3 (fun w' => w'.cell? ⟨g, 0, none⟩ = some (.slice (some ⟨R, 0, none⟩) 48 48) ∧ w'.cell? ⟨R, i, none⟩ = some (.slice V vn vc) ∧ w'.cell? ⟨b, off + k, none⟩ = some (.int .i64 (-1 - (i : Int))))
       (go_keep)
       (first
        | (go_at_call 114; refine (LF.out nq).mono ?_; rintro e w3 ⟨Y, yn, yc, rfl, oY, bb⟩; obtain rfl : yn = 0 := Own.len oY; have b3 : Below wr.heap.size wr w3 := next_trans ((base.below_drewN (Below.refl wr.heap.size wr) nq).drew) bb; have m0 : w3.cell? ⟨g, 0, none⟩ = some (.slice (some ⟨R, 0, none⟩) 48 48) := (b3.cell (p := ⟨g, 0, none⟩) zg).trans cg; have m1 : w3.cell? ⟨R, i, none⟩ = some (.slice V vn vc) := (b3.cell (p := ⟨R, i, none⟩) zR).trans cV; have m2 : w3.cell? ⟨b, off + k, none⟩ = some (.int .i64 (-1 - (i : Int))) := (b3.cell (p := ⟨b, off + k, none⟩) zb).trans cx))
      have hb3 : Below w.heap.size w w3 := HBB.out.trans (b3.mono hsz)
      have F := hid (show AnsList w (fl L t) (.returned (.slice (some ⟨w3.heap.size, 0, none⟩) 0 0)) (w3.alloc (.cells #[] 2)) from by rw [HLO.out]; exact ⟨_, 0, 0, rfl, own_empty w3 w.heap.size hb3.size, hb3.alloc hb3.size _⟩)
      clear LF m0 m1 m2 bb hb3 b3 oY
      go_wp2
      try rw [Exit.noGoto_ret]
      go_ret
      exact F.out
   ·have d0 : decide (0 ≤ x) = true := decide_eq_true (Int.not_lt.1 hx0)
    have d1 : (0 : Int) ≤ x := Int.not_lt.1 hx0
    have ONE := hid (fun dd w2 O' oc' => one dd w2 O' oc' (rep_sym d1))
    have hOd := hid (fun dd => Own.drewN hO dd)
    clear one hb hO HE
    by_cases h60 : on + 1 ≤ 60
    ·have i4 : ¬ (60 : Int) < (on : Int) + 1 := by omega
     go_wp2_with fail
     go_quiet (fail)
     go_wp2_with (at_builtin; refine app1 rfl _ _ rfl w.heap.size O on oc _ rfl (Own.alloc (hOd.out nq) _) wr.heap.size 1 x rfl ((Row.new _ _ _).cell 0) (by omega) (by simp; omega) ?_; intro O' oc' w2 ho2 b2; have G := hid ((ONE.out nq w2 O' oc' ho2 b2).1 h60); clear ho2 b2 hOd HOL ONE)
     go_roundw
     case rel => exact G.out
     case measure => simp [intOf]; omega
    ·have i4 : (60 : Int) < (on : Int) + 1 := by omega
     have h61 : 60 < on + 1 := by omega
     go_wp2_with fail
     go_quiet (fail)
     go_wp2_with (at_builtin; refine app1 rfl _ _ rfl w.heap.size O on oc _ rfl (Own.alloc (hOd.out nq) _) wr.heap.size 1 x rfl ((Row.new _ _ _).cell 0) (by omega) (by simp; omega) ?_; intro O' oc' w2 ho2 b2; have G := hid ((ONE.out nq w2 O' oc' ho2 b2).2 h61); clear ho2 b2 hOd HOL ONE)
     try rw [Exit.noGoto_ret]
     go_ret
     exact G.out
  ·have hkn : k = n := by omega
   have i1 : ¬ (k : Int) < (n : Int) := by omega
   have e : t.take k = t := List.take_of_length_le (by rw [HL.out]; omega)
   rw [e] at hO
   have F := hid (show AnsList w (fl L t) (.returned (.slice O on oc)) wr from ⟨O, on, oc, rfl, by unfold fl; rw [if_pos (by rw [← Own.len hO]; exact hon)]; exact hO, hb⟩)
   clear hO hb e HOL hkn
   go_wp2
   go_ret
   exact F.out
def HeadW (w : World) (m : Nat) (t : List Int) (out i : Value) (wr : World) : Prop :=
 ∃ (k oc : Nat) (O : Option Addr), k ≤ m ∧ i = .int .i64 (k : Int) ∧ out = .slice O k oc ∧ Own wr w.heap.size (.slice O k oc) (shiftL 24 (t.take k)) ∧ Below w.heap.size w wr
set_option maxHeartbeats 1000000 in
theorem l11Away (A : Option Addr) (n c : Nat) (t : List Int) (w : World) (h : Seg w w.heap.size A n t) (hn : n ≤ 1048576) (hv : ∀ x ∈ t, -1000 ≤ x) :
  Calls Tryz.prog 113 #[.slice A n c, .int .i64 24] w (AnsList w (shiftL 24 t)) := by
 have HL := hid h.1
 have H := hid h
 have HV := hid hv
 have S0 := hid (show HeadW w n t (.slice (some ⟨w.heap.size, 0, none⟩) 0 0) (.int .i64 0) (w.alloc (.cells #[] 2)) from ⟨0, 0, _, Nat.zero_le _, rfl, rfl, own_empty w w.heap.size (Nat.le_refl _), (Below.refl _ _).alloc (Nat.le_refl _) _⟩)
 clear h hv
 go_enter Tryz.func113, Tryz.ntmps113
 go_wp2_with fail
 go_loopw [5, 6] (fun out i wr => HeadW w n t out i wr) (fun _ i _ => n - (intOf i).toNat)
 case atStart => exact S0.out
 case round =>
  clear S0
  obtain ⟨k, oc, O, hk, rfl, rfl, hO, hb⟩ := hrel
  by_cases hlt : k < n
  ·obtain ⟨b, off, x, rfl, hbb, hx, ex⟩ := H.out.spot hlt
   have cx : wr.cell? ⟨b, off + k, none⟩ = some (.int .i64 x) := (hb.cell (p := ⟨b, off + k, none⟩) hbb).trans hx
   have hE := shift_take (k := 24) (show k < t.length by rw [HL.out]; exact hlt) ex.out
   have hxm : x ∈ t := by
    rw [← ex.out, List.getD_eq_getElem?_getD, List.getElem?_eq_getElem (by rw [HL.out]; exact hlt)]
    exact List.getElem_mem _
   have hxv := HV.out x hxm
   have i0 : (0 : Int) ≤ (k : Int) := by omega
   have i1 : (k : Int) < (n : Int) := by omega
   have hsz := hb.size
   have HE := hid hE
   have HO := hid hO
   have HBB := hid hb
   clear hx hE hO hb hxm
   by_cases hx0 : x < 0
   ·have e1 : sh 24 x = x - 24 := by unfold sh; rw [if_pos hx0]
    have R := hid (fun (w2 : World) (O' : Option Addr) (oc' : Nat) (ho : Own w2 w.heap.size (.slice O' (k + 1) oc') (shiftL 24 (t.take k) ++ [x - 24])) (b2 : Below w.heap.size (wr.alloc (.cells #[.int .i64 (x - 24)] 2)) w2) =>
     (show HeadW w n t (.slice O' (k + 1) oc') (.int .i64 ((k : Int) + 1)) w2 from ⟨k + 1, oc', O', hlt, by simp, rfl, by rw [HE.out, e1]; exact ho, (HBB.out.alloc hsz _).trans b2⟩))
    clear e1
    go_wp2_with (at_builtin; refine app1 rfl _ _ rfl w.heap.size O k oc _ rfl (Own.alloc HO.out _) wr.heap.size 1 (x - 24) rfl ((Row.new _ _ _).cell 0) (by omega) (by simp; omega) ?_; intro O' oc' w2 ho2 b2; have G := hid (R.out w2 O' oc' ho2 b2); clear ho2 b2 R)
    go_roundw
    case rel => exact G.out
    case measure => simp [intOf]; omega
   ·have e1 : sh 24 x = x := by unfold sh; rw [if_neg hx0]
    have d0 : decide (x < 0) = false := decide_eq_false hx0
    have R := hid (fun (w2 : World) (O' : Option Addr) (oc' : Nat) (ho : Own w2 w.heap.size (.slice O' (k + 1) oc') (shiftL 24 (t.take k) ++ [x])) (b2 : Below w.heap.size (wr.alloc (.cells #[.int .i64 x] 2)) w2) =>
     (show HeadW w n t (.slice O' (k + 1) oc') (.int .i64 ((k : Int) + 1)) w2 from ⟨k + 1, oc', O', hlt, by simp, rfl, by rw [HE.out, e1]; exact ho, (HBB.out.alloc hsz _).trans b2⟩))
    clear e1
    go_wp2_with (at_builtin; refine app1 rfl _ _ rfl w.heap.size O k oc _ rfl (Own.alloc HO.out _) wr.heap.size 1 x rfl ((Row.new _ _ _).cell 0) (by omega) (by simp; omega) ?_; intro O' oc' w2 ho2 b2; have G := hid (R.out w2 O' oc' ho2 b2); clear ho2 b2 R)
    go_roundw
    case rel => exact G.out
    case measure => simp [intOf]; omega
  ·have hkn : k = n := by omega
   have i1 : ¬ (k : Int) < (n : Int) := by omega
   have e : t.take k = t := List.take_of_length_le (by rw [HL.out]; omega)
   rw [e] at hO
   have F := hid (show AnsList w (shiftL 24 t) (.returned (.slice O k oc)) wr from ⟨O, k, oc, rfl, hO, hb⟩)
   clear hO hb e hkn
   go_wp2
   go_ret
   exact F.out
end fullSpec
end
section
namespace putMath
open sig term termOk termFacts endAt sub args depth termMath posMath
def putL (t : List Int) (a i : Nat) (u : List Int) : List Int := t.take a ++ (u ++ t.drop (a + i))
section
variable {sg t u : List Int} {a : Nat}
end
end putMath
end
section
namespace substOk
open Go.RowKit base ints sig term termOk marks app sym sub segs segsHelp termFacts varsMath varsOf fillMath Go.Proofs.YtlmofkeemlfpgaaGreat.look
set_option maxRecDepth 100000
def goodB (sg t : List Int) : Bool := decide (t.length = 0) || termOkB sg t
def HeadSO (w : World) (A : Option Addr) (n c : Nat) (S : Option Addr) (m c' : Nat) (sg : List Int) (ss : List (List Int)) (i : Value) (wr : World) : Prop :=
 ∃ k : Nat, k ≤ m ∧ i = .int .i64 k ∧ (∀ j, j < k → goodB sg (ss.getD j []) = true) ∧ Row wr w.heap.size 30 #[.slice A n c] ∧ Row wr (w.heap.size + 1) 156 #[.slice S m c'] ∧ Below w.heap.size w wr
theorem headSO_step {w wr : World} {A : Option Addr} {n c : Nat} {S : Option Addr} {m c' : Nat} {sg : List Int} {ss : List (List Int)} {k : Nat} (hk : k < m) (hlow : ∀ j, j < k → goodB sg (ss.getD j []) = true) (hg : goodB sg (ss.getD k []) = true)
  (r1 : Row wr w.heap.size 30 #[.slice A n c]) (r2 : Row wr (w.heap.size + 1) 156 #[.slice S m c']) (hb : Below w.heap.size w wr) : HeadSO w A n c S m c' sg ss (.int .i64 ((k : Int) + 1)) wr :=
 ⟨k + 1, hk, by simp, fun j hj => by
  by_cases e : j = k
  ·subst e; exact hg
  ·exact hlow j (by omega), r1, r2, hb⟩
end substOk
end
section
namespace gives
open Go.RowKit base ints sig term termOk marks app sym sub segs segsHelp termFacts varsMath varsOf fillMath Go.Proofs.YtlmofkeemlfpgaaGreat.look substOk
set_option maxRecDepth 100000
def givesL (ss : List (List Int)) (i : Nat) : List Int := if (ss.getD i []).length = 0 then vt i else ss.getD i []
theorem tooLong (A : Option Addr) (n c : Nat) (w : World) (hn : n ≤ 9223372036854775807) :
  Calls Tryz.prog 140 #[.slice A n c] w fun e w' => w = w' ∧ e = .returned (.bool (decide (60 < n))) := by
 have E : decide ((60 : Int) < (n : Int)) = decide (60 < n) := decide_eq_decide.2 (by omega)
 rw [← E]
 have HE := Lib.hid E
 clear E
 generalize hz : decide ((60 : Int) < (n : Int)) = z
 have HZ := Lib.hid hz
 clear hz
 go_enter Tryz.func140, Tryz.ntmps140
 go_wp2
 go_ret
 exact ⟨rfl, by rw [← HZ.out]; rfl⟩
end gives
end
section
namespace stepMath
open sig term termOk termFacts fillMath gives endAt sub matchMath termMath posMath putMath ruleMath
def putAt (sg t u : List Int) (a : Nat) : List Int := putL t a (len1 sg t a) u
def stepO (sg : List Int) (x : Rl) (t : List Int) (a : Nat) : Option (List Int) :=
 match mst sg (subL sg t a) x.1 0 s0 with
 | none => none
 | some ss => if (fillL (givesL ss) x.2).length ≤ 60 ∧ (putAt sg t (fillL (givesL ss) x.2) a).length ≤ 60 then some (putAt sg t (fillL (givesL ss) x.2) a) else none
def redB (sg : List Int) (x : Rl) (t : List Int) (a : Nat) : Bool := (mst sg (subL sg t a) x.1 0 s0).isSome
theorem sub_ok {sg t : List Int} (h : termOkB sg t = true) {a : Nat} (ha : a < t.length) : termOkB sg (subL sg t a) = true := by
 obtain ⟨h1, h2, h3⟩ := term_parts h
 obtain ⟨e1, e2, e3⟩ := sub_len1 h ha
 have h4 := term_at h ha
 exact term_mk h1 (by omega) e3
end stepMath
end
section
namespace walkMath
open sig term termOk termFacts fillMath gives sub matchMath putMath ruleMath stepMath
abbrev St := Int × Int × List Int
def inB (x : Int) (n : Nat) : Bool := decide (0 ≤ x ∧ x < n)
def rightB (sg : List Int) (rs : List Rl) (t : List Int) : Bool := sysOkB sg rs && termOkB sg t
def thereR (sg : List Int) (rs : List Rl) (t : List Int) (a r : Int) : Bool := rightB sg rs t && (inB a t.length && inB r rs.length)
def rl (rs : List Rl) (r : Int) : Rl := rs.getD r.toNat ([], [])
def stepAtO (sg : List Int) (rs : List Rl) (t : List Int) (a r : Int) : Option (List Int) := if thereR sg rs t a r = true then stepO sg (rl rs r) t a.toNat else none
theorem there_parts {sg : List Int} {rs : List Rl} {t : List Int} {a r : Int} (h : thereR sg rs t a r = true) : sysOkB sg rs = true ∧ termOkB sg t = true ∧ (0 ≤ a ∧ a < t.length) ∧ (0 ≤ r ∧ r < rs.length) := by
 unfold thereR rightB inB at h
 simp only [Bool.and_eq_true, decide_eq_true_eq] at h
 exact ⟨h.1.1, h.1.2, h.2.1, h.2.2⟩
theorem rl_ok {sg : List Int} {rs : List Rl} {r : Int} (h : sysOkB sg rs = true) (hr : 0 ≤ r ∧ r < rs.length) : ruleOkB sg (rl rs r) = true := (sys_parts h).2.2 _ (rl_mem (by omega))
end walkMath
end
section
namespace inside
open Go.RowKit base ints sig term arity endOf cursor termOk endAt
set_option maxRecDepth 100000
def Tells (w : World) (b : Bool) (e : Ending) (w' : World) : Prop := e = .returned (.bool b) ∧ Below w.heap.size w w'
structure Fr (w wr : World) (A : Option Addr) (n c : Nat) (sg : List Int) (A' : Option Addr) (m : Nat) (t : List Int) : Prop where
 r : Row wr w.heap.size 30 #[.slice A n c]
 s : Seg wr w.heap.size A n sg
 s' : Seg wr w.heap.size A' m t
 b : Below w.heap.size w wr
section
variable {w wr w' : World} {A : Option Addr} {n c : Nat} {sg : List Int} {A' : Option Addr} {m : Nat} {t : List Int}
theorem Fr.start (h : Seg w w.heap.size A n sg) (h' : Seg w w.heap.size A' m t) : Fr w (w.alloc (.cells #[.slice A n c] 30)) A n c sg A' m t :=
 have b : Below w.heap.size w (w.alloc (.cells #[.slice A n c] 30)) := (Below.refl _ _).alloc (Nat.le_refl _) _
 ⟨Row.new _ _ _, h.below b, h'.below b, b⟩
theorem Fr.next (f : Fr w wr A n c sg A' m t) (hb : Below wr.heap.size wr w') : Fr w w' A n c sg A' m t :=
 have b : Below w.heap.size wr w' := hb.mono (Nat.le_of_lt f.r.lt)
 ⟨f.r.next hb, f.s.below b, f.s'.below b, f.b.trans b⟩
theorem Fr.over (f : Fr w wr A n c sg A' m t) (hb : Below (w.heap.size + 1) wr w') : Fr w w' A n c sg A' m t :=
 have b : Below w.heap.size wr w' := hb.mono (Nat.le_succ _)
 ⟨f.r.below hb (Nat.lt_succ_self _), f.s.below b, f.s'.below b, f.b.trans b⟩
theorem Fr.alloc (f : Fr w wr A n c sg A' m t) (o : Obj) : Fr w (wr.alloc o) A n c sg A' m t := f.next ((Below.refl _ _).alloc (Nat.le_refl _) _)
theorem Fr.cell (f : Fr w wr A n c sg A' m t) : wr.cell? ⟨w.heap.size, 0, none⟩ = some (.slice A n c) := f.r.cell 0
theorem Fr.s1 (f : Fr w wr A n c sg A' m t) : Seg wr wr.heap.size A n sg := f.s.more (Nat.le_of_lt f.r.lt)
theorem Fr.t1 (f : Fr w wr A n c sg A' m t) : Seg wr wr.heap.size A' m t := f.s'.more (Nat.le_of_lt f.r.lt)
theorem Fr.size (f : Fr w wr A n c sg A' m t) : w.heap.size < wr.heap.size := f.r.lt
end
end inside
end
section
namespace plain
open Go.RowKit base ints cursor same marks app appAt sym sub segs segsHelp kinds fillMath Go.Proofs.YtlmofkeemlfpgaaGreat.look plainMath
set_option maxRecDepth 100000
def HeadP (w : World) (L : Nat → List Int) (terms i : Value) (wr : World) : Prop :=
 ∃ (k : Nat) (A : Option Addr) (n c : Nat), k ≤ 24 ∧ i = .int .i64 k ∧ terms = .slice A n c ∧ n ≤ k ∧ Owns wr (w.heap.size + 1) wr.heap.size A n c (plainL L k) ∧ Row wr w.heap.size 156 #[.slice none 0 0] ∧ Below w.heap.size w wr
end plain
end
section
namespace plainOf
open Go.RowKit base ints sig cursor marks app appAt sym sub segs segsHelp kinds varsOf fillMath Go.Proofs.YtlmofkeemlfpgaaGreat.look substOk gives plainMath plain
set_option maxRecDepth 100000
end plainOf
end
section
namespace matchSpec
open Go.RowKit base ints sig same term termOk endAt inside marks app sym sub segs segsHelp termFacts termMath posMath plainMath plain plainOf gives cursor matchMath
set_option maxRecDepth 100000
structure Tab (w : World) (T : Nat) (s : List (List Int)) : Prop where
 len : s.length = 24
 row : ∃ cs, Row w T 22 cs ∧ cs.size = 24 ∧ ∀ j, j < 24 → ∃ A n c, cs[j]? = some (.slice A n c) ∧ Own w (T + 1) (.slice A n c) (s.getD j [])
section
variable {w w' : World} {T : Nat} {s : List (List Int)}
theorem Tab.lt (h : Tab w T s) : T < w.heap.size := by obtain ⟨cs, hr, _⟩ := h.row; exact hr.lt
theorem Tab.next (h : Tab w T s) (hb : Below w.heap.size w w') : Tab w' T s := by
 obtain ⟨cs, hr, hs, hc⟩ := h.row
 exact ⟨h.len, cs, hr.next hb, hs, fun j hj => by obtain ⟨A, n, c, e, ho⟩ := hc j hj; exact ⟨A, n, c, e, Own.next ho hb⟩⟩
theorem Tab.at (h : Tab w T s) {j : Nat} (hj : j < 24) : ∃ A n c, w.cell? ⟨T, j, none⟩ = some (.slice A n c) ∧ Own w (T + 1) (.slice A n c) (s.getD j []) := by
 obtain ⟨cs, hr, hs, hc⟩ := h.row
 obtain ⟨A, n, c, e, ho⟩ := hc j hj
 exact ⟨A, n, c, by rw [hr.cell j, e], ho⟩
theorem Tab.free (h : Tab w T s) (j : Nat) : w.frozen? ⟨T, j, none⟩ = false := by obtain ⟨cs, hr, _⟩ := h.row; exact hr.free j
end
structure Mt (w wr : World) (A : Option Addr) (n c : Nat) (sg : List Int) (P : Option Addr) (pn : Nat) (p : List Int) (Q : Option Addr) (m : Nat) (t : List Int) (s : List (List Int)) : Prop where
 r0 : Row wr w.heap.size 30 #[.slice A n c]
 r1 : Row wr (w.heap.size + 1) 156 #[.slice none 0 0]
 r3 : Row wr (w.heap.size + 1 + 1 + 1) 156 #[.slice (some ⟨w.heap.size + 1 + 1, 0, none⟩) 24 24]
 tb : Tab wr (w.heap.size + 1 + 1) s
 ss : Seg wr w.heap.size A n sg
 sp : Seg wr w.heap.size P pn p
 st : Seg wr w.heap.size Q m t
 b : Below w.heap.size w wr
section
variable {w wr w' : World} {A : Option Addr} {n c : Nat} {sg : List Int} {P : Option Addr} {pn : Nat} {p : List Int} {Q : Option Addr} {m : Nat} {t : List Int} {s : List (List Int)}
theorem Mt.next (h : Mt w wr A n c sg P pn p Q m t s) (hb : Below wr.heap.size wr w') : Mt w w' A n c sg P pn p Q m t s :=
 have b : Below w.heap.size wr w' := hb.mono h.b.size
 ⟨h.r0.next hb, h.r1.next hb, h.r3.next hb, h.tb.next hb, h.ss.below b, h.sp.below b, h.st.below b, h.b.trans b⟩
end
structure Mr (w wr : World) (A : Option Addr) (n c : Nat) (sg : List Int) (P : Option Addr) (pn : Nat) (p : List Int) (Q : Option Addr) (m : Nat) (t : List Int) : Prop where
 r0 : Row wr w.heap.size 30 #[.slice A n c]
 r1 : Row wr (w.heap.size + 1) 156 #[.slice none 0 0]
 ss : Seg wr wr.heap.size A n sg
 sp : Seg wr wr.heap.size P pn p
 st : Seg wr wr.heap.size Q m t
 b : Below w.heap.size w wr
section
variable {w wr w' : World} {A : Option Addr} {n c : Nat} {sg : List Int} {P : Option Addr} {pn : Nat} {p : List Int} {Q : Option Addr} {m : Nat} {t : List Int}
theorem Mr.next (h : Mr w wr A n c sg P pn p Q m t) (hb : Below wr.heap.size wr w') : Mr w w' A n c sg P pn p Q m t :=
 ⟨h.r0.next hb, h.r1.next hb, h.ss.next hb, h.sp.next hb, h.st.next hb, next_trans h.b hb⟩
end
end matchSpec
end
section
open Go.Lib (hid)
namespace concat
open Go.RowKit base ints marks app sym segs segsHelp
set_option maxRecDepth 100000
set_option maxHeartbeats 1000000 in
theorem growNil (s : Nat) (w : World) (hs : s ≤ 2097152) :
  Calls Tryz.prog 161 #[.slice none 0 0, .int .i64 (s : Int)] w (AnsList w []) := by
 by_cases h0 : s = 0
 ·subst h0
  go_enter Tryz.func161, Tryz.ntmps161
  go_wp2
  go_ret
  exact ⟨none, 0, 0, rfl, Own.nil _ _, Below.refl _ _⟩
 ·obtain ⟨i0, hi, hz0, hz1, hz2⟩ := info_parts info_i64
  obtain ⟨G, hG⟩ : ∃ G, G = grownCap w s 0 2 := ⟨_, rfl⟩
  have hge : s ≤ G := by rw [hG]; exact grownCap_ge w _ _ _
  have hcm : G ≤ maxLen := by rw [hG]; exact grownCap_le_maxLen w _ _ _ (by unfold maxLen; omega)
  obtain ⟨cs, hcs⟩ : ∃ cs, cs = Builtin.zeroCells (Value.int .i64 0).cells s ++ Builtin.zeroCells (Value.int .i64 0).cells (G - s) := ⟨_, rfl⟩
  have hsz : cs.size = G := by
   rw [hcs]
   have e : (Value.int .i64 0).cells.size = 1 := rfl
   simp only [Array.size_append, size_zeroCells, e]
   omega
  have hr : ∀ ty, (Builtin.append_ #[22, 3] ty #[.slice none 0 0, .int .i64 (s : Int)]).run Tryz.prog w = .ok (.slice (some ⟨w.heap.size, 0, none⟩) s G) (w.drew.alloc (.cells cs 2)) := fun ty => by
   rw [hG, hcs, hG]
   exact Lib.run_append_nil_zeros w 22 3 ty 2 i0 (.int .i64 0) .i64 .i64 Tryz.underlying22 Tryz.underlying3 hi hz0 s (by omega) (by rw [hz1]; omega) (by omega) (by rw [hz2]; omega)
  have hrow : Row (w.drew.alloc (.cells cs 2)) w.heap.size 2 cs := Row.new w.drew _ _
  have F : AnsList w [] (.returned (.slice (some ⟨w.heap.size, 0, none⟩) 0 G)) (w.drew.alloc (.cells cs 2)) :=
   ⟨_, _, _, rfl, Own.of_row hrow rfl hsz (Nat.zero_le _) (by unfold maxLen at hcm; omega) (Nat.le_refl _) (fun j hj => absurd hj (Nat.not_lt_zero _)), ((Below.refl _ _).drew).alloc (Nat.le_refl _) _⟩
  have HF := hid F
  have hG63 : G ≤ 9223372036854775807 := by unfold maxLen at hcm; omega
  clear F hrow hsz hcs hG hcm
  have h1 : (0 : Int) < (s : Int) := by omega
  go_enter Tryz.func161, Tryz.ntmps161
  go_wp2_with (at_builtin; refine Lib.wpList_append_run _ rfl _ _ _ _ rfl _ _ rfl rfl _ _ (hr _) ?_)
  go_wp2
  go_ret
  exact HF.out
def catL (xss : List (List Int)) (k : Nat) : List Int := (xss.take k).flatten
theorem cat_len {xss : List (List Int)} {k : Nat} : (catL xss k).length = sumL xss k := by unfold catL sumL; rw [List.length_flatten]
theorem cat_succ {xss : List (List Int)} {k : Nat} (h : k < xss.length) : catL xss (k + 1) = catL xss k ++ xss.getD k [] := by
 unfold catL
 rw [List.take_succ_eq_append_getElem h, List.flatten_append]
 simp [List.getD, h]
set_option maxHeartbeats 1000000 in
theorem concat (S : Option Addr) (k c : Nat) (xss : List (List Int)) (w : World) (h : Segs w w.heap.size S k xss) (ht : tot xss ≤ 1048576) :
  Calls Tryz.prog 139 #[.slice S k c] w (AnsList w xss.flatten) := by
 have HL := hid h.1
 have hk : k ≤ 1048576 := tot_len h.1 ht
 have hs1 : Hid (∀ j, j ≤ k → sumL xss j ≤ 1048576) := hid (fun j hj => by have := sumL_mono (xss := xss) (k := j) (m := xss.length) (by rw [h.1]; exact hj) (Nat.le_refl _); unfold tot at ht; omega)
 have HS : Hid (∀ j, j < k → sumL xss (j + 1) = sumL xss j + (xss.getD j []).length) := hid (fun j hj => sumL_succ (by rw [h.1]; exact hj))
 have HC : Hid (∀ j, j < k → catL xss (j + 1) = catL xss j ++ xss.getD j []) := hid (fun j hj => cat_succ (by rw [h.1]; exact hj))
 have HF := hid (show catL xss k = xss.flatten by unfold catL; rw [List.take_of_length_le (by rw [h.1]; exact Nat.le_refl _)])
 have HCL := hid (fun j => cat_len (xss := xss) (k := j))
 have HH := hid h
 have S0 := hid (show sumL xss 0 = 0 by simp [sumL])
 have C0 := hid (show catL xss 0 = [] by simp [catL])
 clear h ht
 go_enter Tryz.func139, Tryz.ntmps139
 go_wp2
 go_loopg [3, 11] k (fun g s i wr => w = wr ∧ ∃ j : Nat, i = .int .i64 j ∧ j + g = k ∧ s = .int .i64 (sumL xss j : Nat))
 case atStart => exact ⟨rfl, 0, rfl, by omega, by rw [S0.out]; rfl⟩
 case round =>
  obtain ⟨rfl, j, rfl, hj, rfl⟩ := hrel
  have HJ := hid hj
  clear hj
  by_cases hjk : j < k
  ·obtain ⟨b, off, A', n', c', rfl, hb, hc, hsg, hcap⟩ := HH.out.spot hjk
   have hl := hsg.1
   have hb1 := hs1.out j (by omega)
   have hb2 := hs1.out (j + 1) (by omega)
   have hsu := HS.out j hjk
   obtain ⟨s, hs⟩ : ∃ s, sumL xss j = s := ⟨_, rfl⟩
   have HSS := hid (show sumL xss (j + 1) = s + n' by rw [hsu, hs, hl])
   have hb3 : s + n' ≤ 1048576 := by rw [← HSS.out]; exact hb2
   rw [hs]
   clear hsg hcap hl hb1 hb2 hsu hs
   go_wp2
   go_roundg (gk - 1)
   case measure => have := HJ.out; omega
   case rel => exact ⟨rfl, j + 1, by simp, by have := HJ.out; omega, by rw [HSS.out]; simp⟩
  ·have hjk2 : j = k := by have := HJ.out; omega
   obtain ⟨s, hs⟩ : ∃ s, sumL xss j = s := ⟨_, rfl⟩
   have hs2 : s ≤ 2097152 := by rw [← hs]; have := hs1.out j (by omega); omega
   rw [hs]
   have LG := hid (growNil s w hs2)
   clear hs hs2 hjk2
   go_wp2_with fail
   refine LG.out.mono ?_
   rintro e w1 ⟨O, on, oc, rfl, o1, b1⟩
   have on0 : on = 0 := Own.len o1
   subst on0
   have P0 : Own w1 w.heap.size (.slice O 0 oc) (catL xss 0) := by rw [C0.out]; exact o1
   have HP := hid (And.intro P0 b1)
   clear P0 o1 b1 LG
   go_wp2
   go_loopg [6, 27] k (fun g s i wr => ∃ (j : Nat) (O : Option Addr) (on oc : Nat), i = .int .i64 j ∧ j + g = k ∧ s = .slice O on oc ∧ Own wr w.heap.size (.slice O on oc) (catL xss j) ∧ Below w.heap.size w wr)
   case atStart => exact ⟨0, O, 0, oc, rfl, by omega, rfl, HP.out.1, HP.out.2⟩
   case round =>
    obtain ⟨j, O, on, oc, rfl, hj, rfl, ho, hb⟩ := hrel
    clear HP
    have HJ := hid hj
    clear hj
    by_cases hjk : j < k
    ·have hsegs := (HH.out.below hb)
     obtain ⟨b, off, A', n', c', rfl, hbb, hc, hsg, hcap⟩ := hsegs.spot hjk
     have hon : on ≤ 1048576 := by rw [Own.len ho, HCL.out j]; exact hs1.out j (by omega)
     have hn' : n' ≤ 1048576 := by have h1 := hsg.1; have h2 := hs1.out (j + 1) (by omega); rw [HS.out j hjk, h1] at h2; omega
     have HCAP := hid hcap.2.2
     have hsz := hb.size
     clear hsegs hcap
     go_wp2_with (at_builtin; refine appAll rfl _ _ rfl w.heap.size O on oc (catL xss j) rfl ho A' n' c' w.heap.size (xss.getD j []) rfl hsg HCAP.out (by omega) (by omega) hsz ?_; intro O' oc' w3 ho3 b3)
     have S := hid (show Own w3 w.heap.size (.slice O' (on + n') oc') (catL xss (j + 1)) ∧ Below w.heap.size w w3 from ⟨by rw [HC.out j hjk]; exact ho3, hb.trans b3⟩)
     clear ho ho3 hb b3 hsg hc
     go_wp2
     go_roundg (gk - 1)
     case measure => have := HJ.out; omega
     case rel => exact ⟨j + 1, O', on + n', oc', by simp, by have := HJ.out; omega, rfl, S.out⟩
    ·have hjk2 : j = k := by have := HJ.out; omega
     have F : AnsList w xss.flatten (.returned (.slice O on oc)) wr := ⟨O, on, oc, rfl, by rw [← HF.out, ← hjk2]; exact ho, hb⟩
     have HFF := hid F
     clear F ho hb hjk2
     go_wp2
     go_ret
     exact HFF.out
end concat
end
section
open Go.Lib (hid)
namespace put
open Go.RowKit segsHelp base ints sig term arity endOf cursor termOk endAt inside marks app sym sub segs posMath putMath concat
set_option maxRecDepth 100000
theorem Seg.front {w : World} {B b off m a : Nat} {t : List Int} (h : Seg w B (some ⟨b, off, none⟩) m t) (ha : a ≤ m) : Seg w B (some ⟨b, off, none⟩) a (t.take a) := by
 have := Seg.cut (a := 0) (j := a) h (by omega)
 simpa using this
theorem Seg.back {w : World} {B b off m e : Nat} {t : List Int} (h : Seg w B (some ⟨b, off, none⟩) m t) (he : e ≤ m) : Seg w B (some ⟨b, off + e, none⟩) (m - e) (t.drop e) := by
 have := Seg.cut (a := e) (j := m - e) h (by omega)
 rwa [List.take_of_length_le (by simp [h.1])] at this
theorem Seg.none_any {w : World} {B : Nat} {A : Option Addr} {t : List Int} (h : t = []) : Seg w B A 0 t := ⟨by rw [h]; rfl, fun h => absurd h (Nat.lt_irrefl _)⟩
def putI (sg t u : List Int) (a : Nat) : List Int := putL t a (len1 sg t a) u
def AnsPut (w : World) (ys : List Int) (b : Bool) (e : Ending) (w' : World) : Prop := ∃ A n c, e = .returned (.tuple #[.slice A n c, .bool b]) ∧ Own w' w.heap.size (.slice A n c) ys ∧ Below w.heap.size w w'
def fitB (sg t u : List Int) (a : Nat) : Bool := decide ((putI sg t u a).length ≤ 60)
def fitL (sg t u : List Int) (a : Nat) : List Int := if fitB sg t u a = true then putI sg t u a else []
set_option maxHeartbeats 1000000 in
theorem l3Put (A A' U : Option Addr) (n c m c' un uc : Nat) (sg t u : List Int) (a : Nat) (w : World) (h : Seg w w.heap.size A n sg) (h' : Seg w w.heap.size A' m t) (hu : Seg w w.heap.size U un u) (hcu : U = none → uc = 0) (hn : n ≤ 1048576) (hm : m ≤ 1048576) (hun : un ≤ 60) (hc' : m ≤ c') (hc2 : c' ≤ 9223372036854775807)
  (hok : termOkB sg t = true) (hat : a < t.length) :
  Calls Tryz.prog 152 #[.agg #[.slice A n c], .slice A' m c', .int .i64 (a : Int), .slice U un uc] w (AnsPut w (fitL sg t u a) (fitB sg t u a)) := by
 have ham : a < m := by rw [h'.1] at hat; exact hat
 obtain ⟨b, off, x, rfl, -, -, -⟩ := h'.spot ham
 obtain ⟨W, hW⟩ : ∃ W, W = w.alloc (.cells #[.slice A n c] 30) := ⟨_, rfl⟩
 have f : Fr w W A n c sg (some ⟨b, off, none⟩) m t := by rw [hW]; exact Fr.start h h'
 have hU : Seg W w.heap.size U un u := hu.below f.b
 have HW := hid hW
 obtain ⟨j, hj⟩ : ∃ j, len1 sg t a = j := ⟨_, rfl⟩
 obtain ⟨t1, t2, t3⟩ := term_at hok hat
 have hars := (sig_arities (termOk_parts hok).1).1
 rw [hj] at t1 t2 t3
 rw [h'.1] at t3
 have h60 : m ≤ 60 := by have := (termOk_parts hok).2.1; rw [h'.1] at this; exact this
 have HE := hid (endI_some t1)
 have HTL := hid hat
 have HPI := hid (show putI sg t u a = t.take a ++ u ++ t.drop (a + j) by unfold putI putL; rw [hj, List.append_assoc])
 have hpl : (putI sg t u a).length = a + un + (m - (a + j)) := by rw [HPI.out]; simp [h'.1, hu.1]; omega
 have HPL := hid hpl
 have LC := hid (copyInts (some ⟨b, off, none⟩) a c' (t.take a) W ((Seg.front f.t1 (by omega))) (fun e => by cases e) (by omega))
 have HCU := hid hcu
 have i0 : (0 : Int) ≤ (a : Int) := by omega
 have i1 : (a : Int) ≤ (c' : Int) := by omega
 have i2 : (a : Int) + (j : Int) ≤ (c' : Int) := by omega
 have i3 : (a : Int) + (j : Int) ≤ (m : Int) := by omega
 clear hW h h' hu hj t1 hok hat hcu hpl
 go_enter Tryz.func152, Tryz.ntmps152
 go_wp2_with fail
 rw [← HW.out]
 refine LC.out.mono ?_
 rintro e w1 ⟨O1, n1, c1, rfl, o1, bb⟩
 have hta : (t.take a).length = a := by rw [List.length_take]; have := HTL.out; omega
 obtain rfl : n1 = a := by rw [Own.len o1, hta]
 replace hU := hU.below (bb.mono (Nat.le_of_lt f.size))
 replace o1 := Own.lower (base' := w.heap.size + 1) o1 f.size
 replace f := f.next bb
 have z1 : w.heap.size + 1 ≤ w1.heap.size := f.size
 clear bb hta LC
 go_wp2_with (at_builtin; refine appAll rfl _ _ rfl (w.heap.size + 1) O1 n1 c1 _ rfl o1 U un uc w.heap.size u rfl hU HCU.out (by omega) (by omega) z1 ?_; intro O2 c2 w2 o2 b2; have f2 := f.over b2; have cA2 : w2.cell? ⟨w.heap.size, 0, none⟩ = some (.slice A n c) := f2.cell)
 clear o1 b2 f hU z1 cA2
 replace f := f2
 clear f2
 have cA := f.cell
 obtain ⟨k, hk⟩ : ∃ k, n1 + j = k := ⟨_, rfl⟩
 rw [hk] at HPI HPL t3
 have HEK := hid (show endI sg t n1 = (k : Int) by rw [HE.out, ← hk]; omega)
 have hn1k : n1 ≤ k := by omega
 clear HE hk i2 i3 t2
 refine (specEnd A _ n c m c' sg t (n1 : Int) _ f.s1 f.t1 hn hm hars i0 (by omega)).mono ?_
 rintro e w3 ⟨he, bb⟩
 rw [Int.toNat_natCast, HEK.out] at he
 subst he
 replace f := f.next bb
 replace o2 := Own.next o2 bb
 clear bb cA
 have i2 : (k : Int) ≤ (c' : Int) := by omega
 have i4 : (k : Int) ≤ (m : Int) := by omega
 have z1 : w.heap.size + 1 ≤ w3.heap.size := f.size
 by_cases hce : c' = k
 ·subst hce
  have hmk : m - c' = 0 := by omega
  have HSG := hid (show Seg w3 w.heap.size (some ⟨b, off, none⟩) 0 [] from Seg.none_any rfl)
  have HPI2 := hid (show putI sg t u n1 = t.take n1 ++ u ++ [] by rw [HPI.out, List.drop_eq_nil_of_le (by rw [f.t1.1]; omega)])
  have HPL2 := hid (show (putI sg t u n1).length = n1 + un by rw [HPL.out, hmk]; rfl)
  clear hmk HPL HPI
  by_cases h6 : n1 + un ≤ 60
  ·have h7 : ¬ (60 : Int) < (n1 : Int) + (un : Int) := by omega
   go_wp2_with (at_builtin; refine appAll rfl _ _ rfl (w.heap.size + 1) O2 (n1 + un) c2 _ rfl o2 (some ⟨b, off, none⟩) 0 0 w.heap.size [] rfl HSG.out (fun e => by cases e) (by omega) (by omega) z1 ?_; intro O4 c4 w4 o4 b4)
   replace f := f.over b4
   have F : AnsPut w (fitL sg t u n1) (fitB sg t u n1) (.returned (.tuple #[.slice O4 (n1 + un) c4, .bool true])) w4 := ⟨O4, _, c4, by rw [show fitB sg t u n1 = true by unfold fitB; rw [HPL2.out]; exact decide_eq_true h6], by unfold fitL; rw [if_pos (by unfold fitB; rw [HPL2.out]; exact decide_eq_true h6), HPI2.out]; exact Own.lower o4 (Nat.le_succ _), f.b⟩
   have HF := hid F
   clear F o4 f
   go_ret2
   exact HF.out
  ·have h7 : (60 : Int) < (n1 : Int) + (un : Int) := by omega
   go_wp2_with (at_builtin; refine appAll rfl _ _ rfl (w.heap.size + 1) O2 (n1 + un) c2 _ rfl o2 (some ⟨b, off, none⟩) 0 0 w.heap.size [] rfl HSG.out (fun e => by cases e) (by omega) (by omega) z1 ?_; intro O4 c4 w4 o4 b4)
   replace f := f.over b4
   have F : AnsPut w (fitL sg t u n1) (fitB sg t u n1) (.returned (.tuple #[.slice (some ⟨w4.heap.size, 0, none⟩) 0 0, .bool false])) (w4.alloc (.cells #[] 2)) := ⟨_, 0, 0, by rw [show fitB sg t u n1 = false by unfold fitB; rw [HPL2.out]; exact decide_eq_false h6], by unfold fitL; rw [if_neg (by unfold fitB; rw [HPL2.out, decide_eq_false h6]; simp)]; exact own_empty w4 w.heap.size (Nat.le_of_lt f.size), (f.alloc _).b⟩
   have HF := hid F
   clear F o4 f
   go_ret2
   exact HF.out
 ·have HSG := hid (Seg.back f.s' (e := k) t3)
  obtain ⟨r, hr⟩ : ∃ r, m - k = r := ⟨_, rfl⟩
  rw [hr] at HPL HSG
  have hr60 : r ≤ 60 := by omega
  by_cases h6 : n1 + un + r ≤ 60
  ·have h7 : ¬ (60 : Int) < (n1 : Int) + (un : Int) + (r : Int) := by omega
   go_wp2_with (at_builtin; refine appAll rfl _ _ rfl (w.heap.size + 1) O2 (n1 + un) c2 _ rfl o2 (some ⟨b, off + k, none⟩) r (c' - k) w.heap.size (t.drop k) rfl HSG.out (fun e => by cases e) (by omega) (by omega) z1 ?_; intro O4 c4 w4 o4 b4)
   replace f := f.over b4
   have F : AnsPut w (fitL sg t u n1) (fitB sg t u n1) (.returned (.tuple #[.slice O4 (n1 + un + r) c4, .bool true])) w4 := ⟨O4, _, c4, by rw [show fitB sg t u n1 = true by unfold fitB; rw [HPL.out]; exact decide_eq_true h6], by unfold fitL; rw [if_pos (by unfold fitB; rw [HPL.out]; exact decide_eq_true h6), HPI.out]; exact Own.lower o4 (Nat.le_succ _), f.b⟩
   have HF := hid F
   clear F o4 f
   go_ret2
   exact HF.out
  ·have h7 : (60 : Int) < (n1 : Int) + (un : Int) + (r : Int) := by omega
   go_wp2_with (at_builtin; refine appAll rfl _ _ rfl (w.heap.size + 1) O2 (n1 + un) c2 _ rfl o2 (some ⟨b, off + k, none⟩) r (c' - k) w.heap.size (t.drop k) rfl HSG.out (fun e => by cases e) (by omega) (by omega) z1 ?_; intro O4 c4 w4 o4 b4)
   replace f := f.over b4
   have F : AnsPut w (fitL sg t u n1) (fitB sg t u n1) (.returned (.tuple #[.slice (some ⟨w4.heap.size, 0, none⟩) 0 0, .bool false])) (w4.alloc (.cells #[] 2)) := ⟨_, 0, 0, by rw [show fitB sg t u n1 = false by unfold fitB; rw [HPL.out]; exact decide_eq_false h6], by unfold fitL; rw [if_neg (by unfold fitB; rw [HPL.out, decide_eq_false h6]; simp)]; exact own_empty w4 w.heap.size (Nat.le_of_lt f.size), (f.alloc _).b⟩
   have HF := hid F
   clear F o4 f
   go_ret2
   exact HF.out
def putB (sg t u : List Int) (x : Int) : Bool := (thereB sg t x && termOkB sg u) && fitB sg t u x.toNat
def putR (sg t u : List Int) (x : Int) : List Int := if putB sg t u x = true then putI sg t u x.toNat else []
theorem put_no {sg t u : List Int} {x : Int} (h : thereB sg t x = false ∨ termOkB sg u = false) : putB sg t u x = false ∧ putR sg t u x = [] := by
 have e : putB sg t u x = false := by
  unfold putB
  rcases h with h | h <;> rw [h] <;> simp
 exact ⟨e, by unfold putR; rw [if_neg (by rw [e]; simp)]⟩
theorem put_yes {sg t u : List Int} {a : Nat} (h1 : thereB sg t (a : Int) = true) (h2 : termOkB sg u = true) : putB sg t u (a : Int) = fitB sg t u a ∧ putR sg t u (a : Int) = fitL sg t u a := by
 have e : putB sg t u (a : Int) = fitB sg t u a := by unfold putB; rw [h1, h2, Int.toNat_natCast]; rfl
 exact ⟨e, by unfold putR fitL; rw [e, Int.toNat_natCast]⟩
theorem ansPut_no {w w' : World} {sg t u : List Int} {x : Int} {A : Option Addr} {c : Nat} (h : thereB sg t x = false ∨ termOkB sg u = false) (ho : Own w' w.heap.size (.slice A 0 c) []) (hb : Below w.heap.size w w') : AnsPut w (putR sg t u x) (putB sg t u x) (.returned (.tuple #[.slice A 0 c, .bool false])) w' := by
 obtain ⟨e1, e2⟩ := put_no h
 exact ⟨A, 0, c, by rw [e1], by rw [e2]; exact ho, hb⟩
set_option maxHeartbeats 400000 in
theorem tooLong (A : Option Addr) (n c : Nat) (w : World) (hn : n ≤ 9223372036854775807) :
  Calls Tryz.prog 140 #[.slice A n c] w fun e w' => w = w' ∧ e = .returned (.bool (decide (60 < n))) := by
 have E : decide ((60 : Int) < (n : Int)) = decide (60 < n) := decide_eq_decide.2 (by omega)
 rw [← E]
 have HE := hid E
 clear E
 generalize hz : decide ((60 : Int) < (n : Int)) = z
 have HZ := hid hz
 clear hz
 go_enter Tryz.func140, Tryz.ntmps140
 go_wp2
 go_ret
 exact ⟨rfl, by rw [← HZ.out]; rfl⟩
theorem segs3 {w : World} {t : TypeId} {A1 A2 A3 : Option Addr} {n1 c1 n2 c2 n3 c3 : Nat} {x1 x2 x3 : List Int} (h1 : Seg w w.heap.size A1 n1 x1) (h2 : Seg w w.heap.size A2 n2 x2) (h3 : Seg w w.heap.size A3 n3 x3) (k1 : Cap A1 n1 c1) (k2 : Cap A2 n2 c2) (k3 : Cap A3 n3 c3) :
  Segs (w.alloc (.cells #[.slice A1 n1 c1, .slice A2 n2 c2, .slice A3 n3 c3] t)) (w.alloc (.cells #[.slice A1 n1 c1, .slice A2 n2 c2, .slice A3 n3 c3] t)).heap.size (some ⟨w.heap.size, 0, none⟩) 3 [x1, x2, x3] := by
 have r := Row.new w t #[.slice A1 n1 c1, .slice A2 n2 c2, .slice A3 n3 c3]
 have b : Below w.heap.size w (w.alloc (.cells #[.slice A1 n1 c1, .slice A2 n2 c2, .slice A3 n3 c3] t)) := (Below.refl _ _).alloc (Nat.le_refl _) _
 refine ⟨rfl, fun _ => ⟨w.heap.size, 0, rfl, r.lt, fun j hj => ?_⟩⟩
 rw [Nat.zero_add, r.cell j]
 rcases (show j = 0 ∨ j = 1 ∨ j = 2 by omega) with rfl | rfl | rfl
 ·exact ⟨A1, n1, c1, rfl, h1.next b, k1⟩
 ·exact ⟨A2, n2, c2, rfl, h2.next b, k2⟩
 ·exact ⟨A3, n3, c3, rfl, h3.next b, k3⟩
set_option maxHeartbeats 1000000 in
theorem implPutAt (A A' U : Option Addr) (n c m c' un uc : Nat) (sg t : List Int) (x : Int) (u : List Int) (w : World) (h : Seg w w.heap.size A n sg) (h' : Seg w w.heap.size A' m t) (hu : Seg w w.heap.size U un u) (hn : n ≤ 1048576) (hm : m ≤ 1048576) (hun : un ≤ 1048576) (hx1 : -9223372036854775808 ≤ x) (hx2 : x ≤ 9223372036854775807)
  (hcu : Cap U un uc) (hc' : m ≤ c') (hc2 : c' ≤ 9223372036854775807) :
  Calls Tryz.prog 105 #[.agg #[.slice A n c], .slice A' m c', .int .i64 x, .slice U un uc] w (AnsPut w (putR sg t u x) (putB sg t u x)) := by
 obtain ⟨W, hW⟩ : ∃ W, W = w.alloc (.cells #[.slice A n c] 30) := ⟨_, rfl⟩
 have f : Fr w W A n c sg A' m t := by rw [hW]; exact Fr.start h h'
 have hU : Seg W W.heap.size U un u := (hu.below f.b).more (Nat.le_of_lt f.size)
 have HW := hid hW
 have HLM := hid h'.1
 have L := hid (implEndOf A A' n c m c' sg t x W f.s1 f.t1 hn hm hx1 hx2)
 clear hW h h' hu
 cases hx : thereB sg t x with
 | false =>
  have HX := hid hx
  have HE := hid (show endOfI sg t x = -1 by unfold endOfI; rw [if_neg (by rw [hx]; simp)])
  clear hx
  go_enter Tryz.func105, Tryz.ntmps105
  go_wp2_with fail
  rw [← HW.out]
  refine L.out.mono ?_
  rintro e w1 ⟨he, bb⟩
  rw [HE.out] at he
  subst he
  have F := hid (ansPut_no (w := w) (u := u) (.inl HX.out) (Own.nil w1 w.heap.size) (f.next bb).b)
  clear f L bb hU
  go_wp2
  go_ret2
  exact F.out
 | true =>
  have HX := hid hx
  obtain ⟨hok, i0, i1⟩ := there_parts hx
  obtain ⟨a, rfl⟩ := Int.eq_ofNat_of_zero_le i0
  have hal : a < t.length := by omega
  obtain ⟨k, hk⟩ : ∃ k, a + len1 sg t a = k := ⟨_, rfl⟩
  have HE := hid (show endOfI sg t (a : Int) = (k : Int) by unfold endOfI; rw [if_pos hx, Int.toNat_natCast, end_at hok hal, hk])
  have HK := hid hk
  have hkm : k ≤ m := by have h3 := (term_at hok hal).2.2; rw [HLM.out] at h3; omega
  have hak : a < k := by have h3 := (term_at hok hal).2.1; omega
  have h60 : m ≤ 60 := by have h3 := (termOk_parts hok).2.1; rw [HLM.out] at h3; exact h3
  have hneg : ¬ (k : Int) < 0 := by omega
  clear hx hok i0 i1 hk
  cases hku : termOkB sg u with
  | false =>
   have HU := hid hku
   clear hku
   go_enter Tryz.func105, Tryz.ntmps105
   go_wp2_with fail
   rw [← HW.out]
   refine L.out.mono ?_
   rintro e w1 ⟨he, bb⟩
   rw [HE.out] at he
   subst he
   replace f := f.next bb
   replace hU := hU.next bb
   have cA := f.cell
   clear bb L
   go_wp2_with fail
   refine (implTermOk A U n c un uc sg u _ f.s1 hU hn hun).mono ?_
   rintro e w2 ⟨he, bb⟩
   rw [HU.out] at he
   subst he
   have F := hid (ansPut_no (w := w) (t := t) (x := (a : Int)) (.inr HU.out) (Own.nil w2 w.heap.size) (f.next bb).b)
   clear f bb hU cA
   go_wp2
   go_ret2
   exact F.out
  | true =>
   have HU := hid hku
   have hu60 : un ≤ 60 := by have h1 := (termOk_parts hku).2.1; rw [hU.1] at h1; exact h1
   have HP := hid (put_yes HX.out hku)
   have HUL := hid hU.1
   have HPI := hid (show [t.take a, u, t.drop k].flatten = putI sg t u a by unfold putI putL; rw [HK.out]; simp)
   have HPL := hid (show (putI sg t u a).length = a + un + (m - k) by rw [← HPI.out]; simp [HUL.out, HLM.out]; omega)
   have HT := hid (show tot [t.take a, u, t.drop k] ≤ 1048576 by unfold tot sumL; simp [HUL.out, HLM.out]; omega)
   clear hku
   go_enter Tryz.func105, Tryz.ntmps105
   go_wp2_with fail
   rw [← HW.out]
   refine L.out.mono ?_
   rintro e w1 ⟨he, bb⟩
   rw [HE.out] at he
   subst he
   replace f := f.next bb
   replace hU := hU.next bb
   have cA := f.cell
   clear bb L
   go_wp2_with fail
   refine (implTermOk A U n c un uc sg u _ f.s1 hU hn hun).mono ?_
   rintro e w2 ⟨he, bb⟩
   rw [HU.out] at he
   subst he
   replace f := f.next bb
   replace hU := hU.next bb
   clear bb cA
   obtain ⟨b, off, y, rfl, -, -, -⟩ := f.t1.spot (show a < m by omega)
   have i0 : (0 : Int) ≤ (a : Int) := by omega
   have i1 : (a : Int) ≤ (c' : Int) := by omega
   have i2 : (k : Int) ≤ (c' : Int) := by omega
   have i3 : (k : Int) ≤ (m : Int) := by omega
   have i4 : (0 : Int) ≤ (k : Int) := by omega
   have SF := Seg.front f.t1 (show a ≤ m by omega)
   by_cases hce : c' = k
   ·subst hce
    have hmk : m - c' = 0 := by omega
    have S3 := hid (segs3 (t := 22) (A3 := some ⟨b, off, none⟩) (c3 := 0) SF hU (Seg.none_any (show t.drop c' = [] from List.drop_eq_nil_of_le (by rw [f.t1.1]; omega))) ⟨show a ≤ c' by omega, hc2, fun e => by cases e⟩ hcu ⟨Nat.le_refl _, by omega, fun _ => rfl⟩).drew
    rw [hmk] at HPL
    clear SF hmk
    go_wp2_with fail
    go_region_held3 (fun _ => True)
     (trivial)
     (first
      | (go_at_call 139; refine (concat _ _ _ _ _ S3.out HT.out).mono ?_; rintro e w4 ⟨O4, n4, c4, rfl, o4, b4⟩))
    have hn4 : n4 = a + un + 0 := by rw [Own.len o4, HPI.out]; exact HPL.out
    have bf := (((Below.refl w2.heap.size w2).alloc (Nat.le_refl _) (.cells #[.slice (some ⟨b, off, none⟩) a c', .slice U un uc, .slice (some ⟨b, off, none⟩) 0 0] 22)).drew).trans (b4.mono (by simp))
    have hsz := f.size
    replace f := f.next bf
    replace o4 := Own.lower (base' := w.heap.size) o4 (by simp; omega)
    obtain ⟨z, hz⟩ : ∃ z, fitB sg t u a = z := ⟨_, rfl⟩
    have F : AnsPut w (putR sg t u (a : Int)) (putB sg t u (a : Int)) (.returned (.tuple #[if z = true then .slice O4 n4 c4 else .slice none 0 0, .bool z])) w4 := by
     refine ⟨if z = true then O4 else none, if z = true then n4 else 0, if z = true then c4 else 0, ?_, ?_, f.b⟩
     ·rw [HP.out.1, hz]; cases z <;> rfl
     ·rw [HP.out.2]
      unfold fitL
      rw [hz]
      cases z with
      | false => exact Own.nil _ _
      | true => rw [HPI.out] at o4; exact o4
    have HF := hid F
    have HTL := hid (show decide (60 < n4) = !z by
     rw [← hz]
     unfold fitB
     rw [HPL.out, hn4]
     by_cases e : a + un + 0 ≤ 60
     ·rw [decide_eq_true e, decide_eq_false (by omega)]; rfl
     ·rw [decide_eq_false e, decide_eq_true (by omega)]; rfl)
    have h463 : n4 ≤ 9223372036854775807 := by omega
    clear F o4 b4 f hz hn4 bf S3 hU
    go_wp2_with fail
    refine (tooLong O4 n4 c4 w4 h463).mono ?_
    rintro e w5 ⟨rfl, rfl⟩
    rw [HTL.out]
    cases z with
    | false =>
     go_wp2
     go_ret2
     exact HF.out
    | true =>
     go_wp2
     go_ret2
     exact HF.out
   ·obtain ⟨r, hr⟩ : ∃ r, m - k = r := ⟨_, rfl⟩
    have SB := Seg.back f.t1 hkm
    rw [hr] at SB HPL
    have hr60 : r ≤ 60 := by omega
    have S3 := hid (segs3 (t := 22) SF hU SB ⟨show a ≤ c' by omega, hc2, fun e => by cases e⟩ hcu ⟨show r ≤ c' - k by omega, by omega, fun e => by cases e⟩).drew
    clear SF SB
    go_wp2_with fail
    go_region_held3 (fun _ => True)
     (trivial)
     (first
      | (go_at_call 139; refine (concat _ _ _ _ _ S3.out HT.out).mono ?_; rintro e w4 ⟨O4, n4, c4, rfl, o4, b4⟩))
    have hn4 : n4 = a + un + r := by rw [Own.len o4, HPI.out]; exact HPL.out
    have bf := (((Below.refl w2.heap.size w2).alloc (Nat.le_refl _) (.cells #[.slice (some ⟨b, off, none⟩) a c', .slice U un uc, .slice (some ⟨b, off + k, none⟩) r (c' - k)] 22)).drew).trans (b4.mono (by simp))
    have hsz := f.size
    replace f := f.next bf
    replace o4 := Own.lower (base' := w.heap.size) o4 (by simp; omega)
    obtain ⟨z, hz⟩ : ∃ z, fitB sg t u a = z := ⟨_, rfl⟩
    have F : AnsPut w (putR sg t u (a : Int)) (putB sg t u (a : Int)) (.returned (.tuple #[if z = true then .slice O4 n4 c4 else .slice none 0 0, .bool z])) w4 := by
     refine ⟨if z = true then O4 else none, if z = true then n4 else 0, if z = true then c4 else 0, ?_, ?_, f.b⟩
     ·rw [HP.out.1, hz]; cases z <;> rfl
     ·rw [HP.out.2]
      unfold fitL
      rw [hz]
      cases z with
      | false => exact Own.nil _ _
      | true => rw [HPI.out] at o4; exact o4
    have HF := hid F
    have HTL := hid (show decide (60 < n4) = !z by
     rw [← hz]
     unfold fitB
     rw [HPL.out, hn4]
     by_cases e : a + un + r ≤ 60
     ·rw [decide_eq_true e, decide_eq_false (by omega)]; rfl
     ·rw [decide_eq_false e, decide_eq_true (by omega)]; rfl)
    have h463 : n4 ≤ 9223372036854775807 := by omega
    clear F o4 b4 f hz hn4 bf S3 hU
    go_wp2_with fail
    refine (tooLong O4 n4 c4 w4 h463).mono ?_
    rintro e w5 ⟨rfl, rfl⟩
    rw [HTL.out]
    cases z with
    | false =>
     go_wp2
     go_ret2
     exact HF.out
    | true =>
     go_wp2
     go_ret2
     exact HF.out
end put
end
section
namespace shifted
open Go.RowKit base ints sig term termOk marks app sym segs termFacts varsMath fillMath Go.Proofs.YtlmofkeemlfpgaaGreat.look
set_option maxRecDepth 100000
end shifted
end
section
namespace filled
open Go.RowKit base ints sig cursor term termOk marks app appAt sym sub segs segsHelp termFacts varsMath varsOf fillMath Go.Proofs.YtlmofkeemlfpgaaGreat.look shifted substOk gives
set_option maxRecDepth 100000
def fitsB (ss : List (List Int)) (t : List Int) : Bool := decide ((fillL (givesL ss) t).length ≤ 60)
def fitL (ss : List (List Int)) (t : List Int) : List Int := if fitsB ss t = true then fillL (givesL ss) t else []
def HeadF (w : World) (S : Option Addr) (m c mt : Nat) (ss : List (List Int)) (t : List Int) (out i : Value) (wr : World) : Prop :=
 ∃ (k : Nat) (O : Option Addr) (on oc : Nat), k ≤ mt ∧ i = .int .i64 k ∧ out = .slice O on oc ∧ on ≤ 60 ∧ Own wr (w.heap.size + 1) (.slice O on oc) (fillL (givesL ss) (t.take k)) ∧ Row wr w.heap.size 156 #[.slice S m c] ∧ Below w.heap.size w wr
end filled
end
section
namespace sameSubst
open Go.RowKit base ints sig same marks sym segs segsHelp kinds varsOf fillMath Go.Proofs.YtlmofkeemlfpgaaGreat.look substOk gives
set_option maxRecDepth 100000
end sameSubst
end
section
namespace compMath
open term termOk termFacts segsHelp fillMath substOk gives plainMath plainOf
end compMath
end
section
namespace plainFacts
open Go.RowKit base ints sig term termOk termFacts fillMath plainMath plainOf substOk gives sameSubst compMath filled
end plainFacts
end
section
namespace matchTot
open Go.RowKit base ints sig term termOk app sym sub segs segsHelp plainMath gives plainOf fillMath termFacts matchMath matchSpec
end matchTot
end
section
namespace matchFacts
open sig term termOk termFacts endAt sub termMath fillMath posMath segsHelp substOk gives plainMath plainFacts filled sameSubst matchMath matchSpec
end matchFacts
end
section
namespace shape
open Go.RowKit base ints sig cursor marks app sym appAt segs segsHelp segsMark kinds
theorem Owned.num (w : World) (lo hi : Nat) (x : Int) : Owned w lo hi .num [.int .i64 x] x := ⟨[], ⟨rfl, rfl⟩, List.nodup_nil, fun k hk => by cases hk⟩
theorem Ow.num {w w' : World} {cs : List Value} {x : Int} {F : List Nat} (h : Ow w .num cs x F) (y : Int) : Ow w' .num [.int .i64 y] y F := ⟨rfl, h.2⟩
end shape
end
section
namespace kindsW
open Go.RowKit base ints sig cursor marks app sym appAt segs segsHelp segsMark kinds shape
set_option maxRecDepth 100000
abbrev sStep : Sh := .cat .num (.cat .num sI)
end kindsW
end
section
namespace stepSpec
open Go.RowKit base ints sig term termOk endAt endOf marks app sym sub segs segsHelp kinds termFacts termMath posMath plainMath plainFacts plain gives fillMath shifted matchMath matchSpec putMath varsOf shape kindsR kindsW ruleMath ruleSpec stepMath walkMath
set_option maxRecDepth 100000
theorem at_no {sg : List Int} {rs : List Rl} {t : List Int} {a r : Int} (h : thereR sg rs t a r = false) : stepAtO sg rs t a r = none := by unfold stepAtO; rw [if_neg (by rw [h]; simp)]
theorem sys_rule {sg : List Int} {rs : List Rl} (h : sysOkB sg rs = true) {r : Nat} (hr : r < rs.length) : ruleOkB sg (rs.getD r ([], [])) = true := by
 have := rl_ok (r := (r : Int)) h (by omega)
 unfold rl at this
 simpa using this
end stepSpec
end
section
namespace whole
open Go.RowKit base segs matchMath
set_option maxRecDepth 100000
section
variable {w w' : World} {B B' g : Nat} {cs : Array Value} {s : List (List Int)} {t : TypeId}
def TabR (w : World) (B : Nat) (cs : Array Value) (s : List (List Int)) : Prop :=
 cs.size = 24 ∧ s.length = 24 ∧ ∀ j, j < 24 → ∃ A n c, cs[j]? = some (.slice A n c) ∧ Seg w B A n (s.getD j []) ∧ Cap A n c
theorem TabR.keep (h : TabR w B cs s) (hk : ∀ p : Addr, p.block < B → w'.cell? p = w.cell? p) : TabR w' B cs s :=
 ⟨h.1, h.2.1, fun j hj => by obtain ⟨A, n, c, e, hs, hc⟩ := h.2.2 j hj; exact ⟨A, n, c, e, hs.keep hk, hc⟩⟩
theorem TabR.one (h : TabR w B cs s) : cs.all (·.oneCell') = true := by
 rw [Array.all_eq_true]
 intro i hi
 obtain ⟨A, n, c, e, _⟩ := h.2.2 i (by rw [← h.1]; exact hi)
 rw [Array.getElem?_eq_getElem hi] at e
 injection e with e
 rw [e]; rfl
end
end whole
end
section
namespace whole
open Go.RowKit base cursor marks app sym segs matchMath matchSpec
set_option maxRecDepth 100000
section
variable {P : Program} {ops : Array Oper} {rest : List Oper} {o : Oper} {a : Act} {w : World} {Q : Exit → Act → World → Prop}
end
section
variable {w w' : World} {B B' g : Nat} {cs : Array Value} {s : List (List Int)} {t : TypeId}
end
end whole
end
section
namespace takeMath
open sig term termOk termFacts endAt sub termMath fillMath posMath renMath matchMath
def Sync (sg p t : List Int) (i k : Nat) : Prop := ∃ q, scan sg q (p.drop i) = some (p.length - i) ∧ ∃ j, scan sg q (t.drop k) = some j
section
variable {sg p t : List Int} {i k : Nat} {x : Int}
theorem Sync.lt (h : Sync sg p t i k) (hi : i < p.length) : k < t.length := by
 obtain ⟨q, h1, j, h2⟩ := h
 cases q with
 | zero => rw [scan_zero] at h1; injection h1 with h1; omega
 | succ q =>
  have a := scan_pos h2
  have b := scan_le h2
  rw [List.length_drop] at b
  omega
theorem Sync.sym (h : Sync sg p t i k) (hi : i < p.length) (hx : p.getD i 0 = x) (hy : t.getD k 0 = x) : Sync sg p t (i + 1) (k + 1) := by
 have hk := h.lt hi
 obtain ⟨q, h1, j, h2⟩ := h
 rw [drop_cons hi, hx] at h1
 rw [drop_cons hk, hy] at h2
 cases q with
 | zero => rw [scan_zero] at h1; injection h1 with h1; omega
 | succ q =>
  by_cases hn : ar sg x < 0
  ·rw [scan_bad hn] at h1; cases h1
  ·rw [scan_step hn, Option.map_eq_some_iff] at h1 h2
   obtain ⟨a, e1, e2⟩ := h1
   obtain ⟨b, e3, e4⟩ := h2
   exact ⟨_, by rw [e1]; congr 1; omega, b, e3⟩
theorem Sync.var (h : Sync sg p t i k) (hi : i < p.length) (hx : p.getD i 0 = x) (h0 : -24 ≤ x) (h1 : x < 0) (hok : termOkB sg t = true) : Sync sg p t (i + 1) (k + (subL sg t k).length) := by
 have hk := h.lt hi
 have hl := (sub_len1 hok hk).1
 obtain ⟨q, h1, j, h2⟩ := h
 rw [drop_cons hi, hx] at h1
 cases q with
 | zero => rw [scan_zero] at h1; injection h1 with h1; omega
 | succ q =>
  have hz : ar sg x = 0 := ar_var (by omega)
  rw [scan_step (by omega), hz, Option.map_eq_some_iff] at h1
  obtain ⟨a, e1, e2⟩ := h1
  obtain ⟨j1, g1, _, _, g2⟩ := scan_first h2
  rw [hl, len1_eq g1]
  exact ⟨q, by rw [show p.length - (i + 1) = a by omega]; exact e1, _, g2⟩
end
end takeMath
end
section
namespace take
open Go.RowKit base ints sig same term termOk endAt marks app sym sub segs termFacts termMath posMath cursor matchMath matchSpec whole takeMath curO
set_option maxRecDepth 100000
structure Tk (w : World) (g : Nat) (A : Option Addr) (n c : Nat) (Q : Option Addr) (m mc : Nat) (sg t : List Int) (k : Nat) (s : List (List Int)) : Prop where
 row : Row w (g + 1) 108 #[.slice A n c, .slice Q m mc, .int .i64 k]
 tab : ∃ cs, Row w g 171 cs ∧ TabR w g cs s
 ss : Seg w g A n sg
 st : Seg w g Q m t
 le : k ≤ m
 hn : n ≤ 1048576
 hm : m ≤ 1048576
 ars : Arities sg
 hs : ∀ j, (s.getD j []).length ≤ m
section
variable {w w' : World} {g : Nat} {A : Option Addr} {n c : Nat} {Q : Option Addr} {m mc : Nat} {sg t : List Int} {k k' : Nat} {s : List (List Int)}
theorem Tk.cur (h : Tk w g A n c Q m mc sg t k s) : Cur w (g + 1) A n c Q m mc sg t k := ⟨h.row, h.ss.more (Nat.le_succ _), h.st.more (Nat.le_succ _), h.le, h.hn, h.hm, h.ars⟩
theorem Tk.lt (h : Tk w g A n c Q m mc sg t k s) : g + 1 < w.heap.size := h.row.lt
theorem Tk.held (h : Tk w g A n c Q m mc sg t k s) {j : Nat} (hj : j < 24) : ∃ D dn dc, w.cell? ⟨g, j, none⟩ = some (.slice D dn dc) ∧ Seg w g D dn (s.getD j []) ∧ w.frozen? ⟨g, j, none⟩ = false := by
 obtain ⟨cs, h1, h2⟩ := h.tab
 obtain ⟨D, dn, dc, e, hs, _⟩ := h2.2.2 j hj
 exact ⟨D, dn, dc, by rw [h1.cell j, e], hs, h1.free j⟩
theorem Tk.len (h : Tk w g A n c Q m mc sg t k s) : s.length = 24 := by obtain ⟨cs, h1, h2⟩ := h.tab; exact h2.2.1
end
end take
end
section
namespace extended
open Go.RowKit base ints sig same term termOk endAt marks app sym sub segs termFacts termMath posMath cursor matchMath matchSpec whole takeMath take segsHelp kinds plainMath plain plainOf gives Go.Proofs.YtlmofkeemlfpgaaGreat.look fillMath
set_option maxRecDepth 100000
end extended
end
end Go.Proofs.YtlmofkeemlfpgaaGreat
