/-
  MERGED: my texts Bnd, Occurs, MeetSpec, Look, FullSpec, PutMath, SubstOk, Gives, StepMath, WalkMath, Inside, Plain, PlainOf, one behind the other, as they are. By an AI agent.
-/
import Derived.Test.YtlmofkeemlfpgaaGreatMFnExactClosedIn3
import Derived.Deep.LoopGhost
import Derived.Deep.RegionLaw
import Derived.Deep.Cut
import Derived.Shelf.Abstract
import Derived.Deep.RegionHeld3
import Derived.Deep.QuietTactic
import Derived.BigQuiet
import Derived.Deep.DeepMust
namespace Go.Proofs.YtlmofkeemlfpgaaGreat
section
open Go.Lib (hid)
namespace bnd
open Go.RowKit base ints sig term marks app appAt segs kinds shape drawX fillMath matchMath unifMath forest triMath stk
set_option maxRecDepth 100000
structure Bnd (w : World) (Q : Nat → Prop) (g R : Nat) (B : List (List Int)) : Prop where
 rg : Row w g 175 #[.slice (some ⟨R, 0, none⟩) 48 48]
 row : ∃ cs, Row w R 22 cs ∧ cs.size = 48 ∧ ∀ i, i < 48 → ∃ A n c, cs[i]? = some (.slice A n c) ∧ RdQ w Q sI [.slice A n c] (bd B i)
 len : B.length = 48
section
variable {w w' : World} {Q : Nat → Prop} {g R : Nat} {B : List (List Int)}
theorem Bnd.lt (h : Bnd w Q g R B) : g < w.heap.size ∧ R < w.heap.size := by
 obtain ⟨cs, r, -, -⟩ := h.row
 exact ⟨h.rg.lt, r.lt⟩
theorem Bnd.keep (h : Bnd w Q g R B) (hg : w'.heap[g]? = w.heap[g]?) (hR : w'.heap[R]? = w.heap[R]?) (hk : Keep Q w w') : Bnd w' Q g R B := by
 obtain ⟨cs, r, hs, hc⟩ := h.row
 exact ⟨hg.trans h.rg, ⟨cs, hR.trans r, hs, fun i hi => by obtain ⟨A, n, c, e, hr⟩ := hc i hi; exact ⟨A, n, c, e, hr.keep hk⟩⟩, h.len⟩
theorem Bnd.next (h : Bnd w Q g R B) (hb : Below w.heap.size w w') (hQ : ∀ b, Q b → b < w.heap.size) : Bnd w' Q g R B :=
 h.keep (hb.block _ h.lt.1) (hb.block _ h.lt.2) (Keep.below hb hQ)
theorem Bnd.drewN (h : Bnd w Q g R B) (k : Nat) : Bnd (w.drewN k) Q g R B := h.keep rfl rfl fun _ _ => rfl
theorem Bnd.at (h : Bnd w Q g R B) {i : Nat} (hi : i < 48) : ∃ A n c, w.cell? ⟨R, i, none⟩ = some (.slice A n c) ∧ RdQ w Q sI [.slice A n c] (bd B i) := by
 obtain ⟨cs, r, hs, hc⟩ := h.row
 obtain ⟨A, n, c, e, hr⟩ := hc i hi
 exact ⟨A, n, c, (r.cell i).trans e, hr⟩
theorem Bnd.top (h : Bnd w Q g R B) : w.cell? ⟨g, 0, none⟩ = some (.slice (some ⟨R, 0, none⟩) 48 48) := h.rg.cell 0
theorem Bnd.free (h : Bnd w Q g R B) (i : Nat) : w.frozen? ⟨R, i, none⟩ = false := by
 obtain ⟨cs, r, -, -⟩ := h.row
 exact r.free i
theorem Bnd.set (h : Bnd w Q g R B) {i : Nat} (hi : i < 48) {A : Option Addr} {n c : Nat} {v : List Int} (hv : RdQ w Q sI [.slice A n c] v) (hne : g ≠ R) (hq : ∀ b, Q b → b ≠ R) : Bnd (w.setCell ⟨R, i, none⟩ (.slice A n c)) Q g R (B.set i v) := by
 obtain ⟨cs, r, hs, hc⟩ := h.row
 have hk : Keep Q w (w.setCell ⟨R, i, none⟩ (.slice A n c)) := fun b hb => Below.heap_setCell w _ _ b (hq b hb)
 refine ⟨h.rg.far hne _, ⟨cs.setIfInBounds i (.slice A n c), r.put i _, by simpa using hs, fun j hj => ?_⟩, by rw [List.length_set]; exact h.len⟩
 by_cases e : j = i
 ·subst e
  refine ⟨A, n, c, by simp [hs, hj], ?_⟩
  rw [bd_set (by rw [h.len]; exact hj), if_pos rfl]
  exact hv.keep hk
 ·obtain ⟨A', n', c', e2, hr⟩ := hc j hj
  refine ⟨A', n', c', ?_, ?_⟩
  ·rw [Array.getElem?_setIfInBounds_ne (Ne.symm e)]
   exact e2
  ·rw [bd_set (by rw [h.len]; exact hi), if_neg e]
   exact hr.keep hk
end
theorem Bnd.mono {w : World} {Q Q' : Nat → Prop} {g R : Nat} {B : List (List Int)} (h : Bnd w Q g R B) (hq : ∀ b, Q b → Q' b) : Bnd w Q' g R B := by
 obtain ⟨cs, r, hs, hc⟩ := h.row
 exact ⟨h.rg, ⟨cs, r, hs, fun i hi => by obtain ⟨A, n, c, e, hr⟩ := hc i hi; exact ⟨A, n, c, e, hr.mono hq⟩⟩, h.len⟩
theorem rdq_nums {w : World} {Q : Nat → Prop} {A : Option Addr} {n c : Nat} {u : List Int} (h : RdQ w Q sI [.slice A n c] u) : u.length = n ∧ Cap A n c ∧ (0 < n → ∃ b off, A = some ⟨b, off, none⟩ ∧ Q b ∧ ∀ j, j < n → w.cell? ⟨b, off + j, none⟩ = some (.int .i64 (u.getD j 0))) := by
 obtain ⟨A', n', c', e, hc, hl, h3⟩ := h
 injection e with e
 injection e with e1 e2 e3
 subst e1 e2 e3
 refine ⟨hl, hc, fun h0 => ?_⟩
 obtain ⟨b, off, e, hq, hp⟩ := h3 h0
 refine ⟨b, off, e, hq, fun j hj => ?_⟩
 obtain ⟨es, -, hp1, hp2⟩ := hp j hj
 have hp2 : es = [.int .i64 (u.getD j 0)] := hp2
 subst hp2
 have h4 := hp1 0 (by simp)
 have e7 : off + j * nc .num + 0 = off + j := by show _ + _ * 1 + 0 = _; omega
 rw [e7] at h4
 exact h4
def HeadH (w : World) (Q : Nat → Prop) (B : List (List Int)) (t : List Int) (rk : Nat → Nat) (L : Nat → List Int) (sg : List Int) (f : Nat) (v : Value) (wr : World) : Prop :=
 ∃ (A : Option Addr) (n c : Nat) (u : List Int) (d : Nat), v = .slice A n c ∧ RdQ w Q sI [.slice A n c] u ∧ Fo sg 1 u ∧ Vb 48 u ∧ (∀ θ, Sol B θ → fillL θ u = fillL θ t) ∧ (∀ rk, Rko B rk → pot rk u ≤ pot rk t) ∧ (if u.getD 0 0 < 0 then rk (vr (u.getD 0 0)) + 1 else 0) ≤ f ∧ wr = w.drewN d
set_option maxHeartbeats 1000000 in
theorem l11Head (Q : Nat → Prop) (g R : Nat) (B : List (List Int)) (A : Option Addr) (n c : Nat) (sg t : List Int) (L : Nat → List Int) (rk : Nat → Nat) (w : World) (hB : Bnd w Q g R B) (hR : Res sg B L rk) (hV : ∀ i, Vb 48 (bd B i)) (h : RdQ w Q sI [.slice A n c] t) (hf : Fo sg 1 t) (hv : Vb 48 t) :
  Calls Tryz.prog 168 #[.pointer (some ⟨g, 0, none⟩), .slice A n c] w fun e w' => ∃ A' n' c' u d, e = .returned (.slice A' n' c') ∧ RdQ w Q sI [.slice A' n' c'] u ∧ Hd sg B 48 t u ∧ w' = w.drewN d := by
 have HB := hid hB
 have HR := hid hR
 have HV := hid hV
 have S0 := hid (show HeadH w Q B t rk L sg (rk (vr (t.getD 0 0)) + 1) (.slice A n c) w from ⟨A, n, c, t, 0, rfl, h, hf, hv, fun _ _ => rfl, fun _ _ => Nat.le_refl _, by split <;> omega, rfl⟩)
 clear hB hR hV h hf hv
 go_enter Tryz.func168, Tryz.ntmps168
 go_wp2_with fail
 go_loopg [1] (rk (vr (t.getD 0 0)) + 1) (fun f v wr => HeadH w Q B t rk L sg f v wr)
 case atStart => exact S0.out
 case round =>
  clear S0
  obtain ⟨X, xn, xc, u, d, rfl, hu, hf, hv, heq, hpot, hrk, hwr⟩ := hrel
  have hu2 : RdQ wr Q sI [.slice X xn xc] u := by rw [hwr]; exact hu.keep fun _ _ => rfl
  obtain ⟨hl, hcap, hspot⟩ := rdq_nums hu2
  have hxn : 0 < xn := by have := hf.pos; omega
  obtain ⟨b, off, rfl, hq, hc⟩ := hspot hxn
  have c0 : wr.cell? ⟨b, off, none⟩ = some (.int .i64 (u.getD 0 0)) := hc 0 hxn
  obtain ⟨x, hx⟩ : ∃ x, u.getD 0 0 = x := ⟨_, rfl⟩
  rw [hx] at c0 hrk
  have hmem : x ∈ u := by rw [← hx]; cases u with | nil => simp at hl; omega | cons y r => exact List.mem_cons_self ..
  have HX := hid hx
  have HU := hid hu
  have HF := hid hf
  have HVV := hid hv
  have HE := hid heq
  have HPO := hid hpot
  have HRK := hid hrk
  have HWR := hid hwr
  have HBW : Hid (Bnd wr Q g R B) := by rw [hwr]; exact hid (HB.out.drewN d)
  clear hu hf hv heq hrk hx hspot hc hl hwr hu2 hpot
  by_cases h0 : x < 0
  ·obtain ⟨i, rfl⟩ : ∃ i : Nat, x = -1 - (i : Int) := ⟨(-1 - x).toNat, by omega⟩
   have hi : i < 48 := by have := HVV.out.2 _ hmem; omega
   obtain ⟨V, vn, vc, cV, rV⟩ := HBW.out.at hi
   have hvl : (bd B i).length = vn := (rdq_nums rV).1
   have cg : wr.cell? ⟨g, 0, none⟩ = some (.slice (some ⟨R, 0, none⟩) 48 48) := HBW.out.top
   have j1 : (0 : Int) ≤ (i : Int) := by omega
   have j2 : (i : Int) < 48 := by omega
   have hwrap : IntKind.i64.wrap (-1 - (-1 - (i : Int))) = (i : Int) := by rw [IntKind.wrap_i64]; omega
   have HVL := hid hvl
   have HRV := hid rV
   have hvr : vr (-1 - (i : Int)) = i := vr_at i
   by_cases hb : vn = 0
   ·subst hb
    have hbe : bd B i = [] := List.length_eq_zero_iff.1 hvl
    have F := hid (show Hd sg B 48 t u from ⟨HPO.out, HF.out, HVV.out, fun _ => by rw [HX.out, hvr]; exact hbe, HE.out⟩)
    clear hvl hbe rV hvr
    go_wp2_with fail
    go_quiet (fail)
    go_wp2
    go_ret
    exact ⟨_, _, _, u, _, rfl, HU.out, F.out, by rw [HWR.out, World.drewN_drewN]⟩
   ·have hbn : bd B i ≠ [] := fun e => hb (by rw [← hvl, e]; rfl)
    have hv0 : 0 < vn := by omega
    have hfB := HR.out.fo i hbn
    have hrk2 : (if (bd B i).getD 0 0 < 0 then rk (vr ((bd B i).getD 0 0)) + 1 else 0) ≤ rk i := by
     split
     ·rename_i h9
      refine HR.out.rnk i _ ?_ h9
      cases hbi : bd B i with
      | nil => exact absurd hbi hbn
      | cons y r => exact List.mem_cons_self ..
     ·exact Nat.zero_le _
    have hlt : rk i < gk := by
     have h9 := HRK.out
     rw [if_pos h0, hvr] at h9
     omega
    have hu1 : u = [-1 - (i : Int)] := by
     have h9 := fo_var HF.out (by rw [HX.out]; exact h0)
     rw [HX.out] at h9
     exact h9
    have S := hid (show ∀ dd, HeadH w Q B t rk L sg (rk i) (.slice V vn vc) (wr.drewN dd) from fun dd => ⟨V, vn, vc, bd B i, d + dd, rfl, HRV.out.keep (by rw [HWR.out]; exact fun _ _ => rfl), hfB, HV.out i, fun θ hθ => by
     rw [← HE.out θ hθ, hu1, fill_one, rep_vr h0, hvr, hθ i hbn], fun rk' hr' => Nat.le_trans (by rw [hu1]; exact pot_bind hr' (HV.out i).1) (HPO.out rk' hr'), hrk2, by rw [HWR.out, World.drewN_drewN]⟩)
    have HLT := hid hlt
    clear hbn hfB hrk2 hlt hu1 hvl rV hvr hb
    go_wp2_with fail
    go_quiet (fail)
    go_wp2_with fail
    go_quiet (fail)
    go_wp2
    go_roundg (rk i)
    case measure => exact HLT.out
    case rel => rw [World.drewN_drewN]; exact S.out _
  ·have F := hid (show Hd sg B 48 t u from ⟨HPO.out, HF.out, HVV.out, fun h => absurd (by rw [HX.out] at h; exact h) h0, HE.out⟩)
   have d0 : decide (x < 0) = false := decide_eq_false h0
   go_wp2_with fail
   go_quiet (fail)
   go_wp2
   go_ret
   exact ⟨_, _, _, u, _, rfl, HU.out, F.out, by rw [HWR.out, World.drewN_drewN]⟩
end bnd
end
section
open Go.Lib (hid)
namespace occurs
open Go.RowKit base ints sig term varsOf marks app appAt segs kinds shape drawX fillMath matchMath unifMath forest triMath stk bnd occMath
set_option maxRecDepth 100000
theorem info_bool : (Tryz.prog.info? 4).map (fun i => (i.zero, i.size, i.bytes)) = some (some (.bool false), 1, 1) := by kernel_rfl
theorem run_make_bools (n : Nat) (hn : n ≤ 1048576) (W : World) : (Instr.makeSlice 197 (.int .i64 (n : Int)) (.int .i64 (n : Int))).run Tryz.prog W =
  .ok (.slice (some ⟨W.heap.size, 0, none⟩) n n) (W.alloc (.cells (madeCells #[.bool false] n) 4)) := by
 obtain ⟨i0, hi, hz0, hz1, hz2⟩ := info_parts info_bool
 have hr := run_make (P := Tryz.prog) W 197 4 i0 _ Tryz.underlying197 hi hz0 .i64 .i64 n n (by omega) (by omega) (by rw [hz2]; omega) (by omega)
 simpa [hz1, Value.cells] using hr
def bools (S : List Bool) : Array Value := (S.map Value.bool).toArray
theorem bools_new (n : Nat) : madeCells #[.bool false] n = bools (List.replicate n false) := by
 unfold bools
 apply Array.ext
 ·simp [madeCells]
 ·intro i h1 h2
  simp [madeCells, Nat.mod_one]
theorem bools_at {S : List Bool} {i : Nat} (h : i < S.length) : (bools S)[i]? = some (.bool (S.getD i false)) := by simp [bools, List.getD, h]
theorem bools_set (S : List Bool) (i : Nat) : (bools S).setIfInBounds i (.bool true) = bools (S.set i true) := by
 unfold bools
 rw [List.map_set]
 simp
structure OM (w : World) (Q : Nat → Prop) (g R : Nat) (B : List (List Int)) (S : List Bool) (q n c : Nat) (D : List (List Int)) (wr : World) : Prop where
 bnd : Bnd wr Q g R B
 seen : Row wr w.heap.size 4 (bools S)
 stk : Stk wr Q (w.heap.size + 1) (some ⟨q, 0, none⟩) n c D
 bel : Below w.heap.size w wr
 hQ : ∀ b, Q b → b < w.heap.size
section
variable {w : World} {Q : Nat → Prop} {g R : Nat} {B : List (List Int)} {S : List Bool} {q n c : Nat} {D : List (List Int)} {wr : World}
theorem OM.drewN (h : OM w Q g R B S q n c D wr) (k : Nat) : OM w Q g R B S q n c D (wr.drewN k) := ⟨h.bnd.drewN k, h.seen.drewN k, h.stk.drewN k, base.below_drewN h.bel k, h.hQ⟩
theorem OM.drew (h : OM w Q g R B S q n c D wr) : OM w Q g R B S q n c D wr.drew := ⟨h.bnd.keep rfl rfl fun _ _ => rfl, h.seen.drew, h.stk.drew, h.bel.drew, h.hQ⟩
theorem OM.lo (h : OM w Q g R B S q n c D wr) : w.heap.size + 1 ≤ wr.heap.size := h.seen.lt
theorem OM.alloc (h : OM w Q g R B S q n c D wr) (o : Obj) : OM w Q g R B S q n c D (wr.alloc o) := by
 have hb : Below wr.heap.size wr (wr.alloc o) := (Below.refl _ _).alloc (Nat.le_refl _) _
 have hq : ∀ b, Q b → b < wr.heap.size := fun b hb => Nat.lt_of_lt_of_le (h.hQ b hb) h.bel.size
 exact ⟨h.bnd.next hb hq, h.seen.alloc _, h.stk.next hb hq, h.bel.alloc h.bel.size _, h.hQ⟩
theorem OM.pop {x : List Int} (h : OM w Q g R B S q (n + 1) c (D ++ [x]) wr) : OM w Q g R B S q n c D wr := ⟨h.bnd, h.seen, h.stk.pop, h.bel, h.hQ⟩
theorem OM.kq (h : OM w Q g R B S q n c D wr) {W : World} (hg : wr.grownBy W (some q)) : Keep Q wr W := Keep.grown hg fun b hb => ⟨Nat.lt_of_lt_of_le (h.hQ b hb) h.bel.size, fun e => by injection e with e; have := (h.stk.ge q rfl).1; have := h.hQ b hb; omega⟩
theorem OM.mark (h : OM w Q g R B S q n c D wr) {i : Nat} (hi : i < S.length) (hg : g < w.heap.size) (hR : R < w.heap.size) : OM w Q g R B (S.set i true) q n c D (wr.setCell ⟨w.heap.size, i, none⟩ (.bool true)) := by
 have hgb : wr.grownBy (wr.setCell ⟨w.heap.size, i, none⟩ (.bool true)) (some w.heap.size) := ⟨rfl, rfl, rfl, by simp, fun k _ hne => Below.heap_setCell wr _ _ k (fun e => hne (by show some k = some w.heap.size; rw [e]))⟩
 have hk : Keep Q wr (wr.setCell ⟨w.heap.size, i, none⟩ (.bool true)) := fun b hb => Below.heap_setCell wr _ _ b (by have := h.hQ b hb; show b ≠ w.heap.size; omega)
 refine ⟨h.bnd.keep (Below.heap_setCell wr _ _ g (by show g ≠ w.heap.size; omega)) (Below.heap_setCell wr _ _ R (by show R ≠ w.heap.size; omega)) hk, ?_, ?_, ?_, h.hQ⟩
 ·rw [← bools_set]; exact h.seen.put i _
 ·exact h.stk.keep hgb (.inr fun e => by have e : some q = some w.heap.size := e; injection e with e; have := (h.stk.ge q rfl).1; omega) hk
 ·exact h.bel.grown hgb h.bel.size (fun k hk => by injection hk with hk; omega)
theorem OM.push {w8 : World} {g8 c8 : Nat} {y : List Int} (h : OM w Q g R B S q n c D wr) (hg : wr.grownBy w8 (some q)) (ho : Stk w8 Q (w.heap.size + 1) (some ⟨g8, 0, none⟩) (n + 1) c8 (D ++ [y])) (h1 : g < w.heap.size) (h2 : R < w.heap.size) : OM w Q g R B S g8 (n + 1) c8 (D ++ [y]) w8 := by
 have hq := (h.stk.ge q rfl).1
 have hne : ∀ k, k ≤ w.heap.size → w8.heap[k]? = wr.heap[k]? := fun k hk => hg.block k (by have := h.lo; omega) (fun e => by injection e with e; omega)
 exact ⟨h.bnd.keep (hne g (by omega)) (hne R (by omega)) (h.kq hg), (hne _ (Nat.le_refl _)).trans h.seen, ho, h.bel.grown hg h.bel.size (fun k hk => by injection hk with hk; omega), h.hQ⟩
end
def Pr (sg : List Int) (B : List (List Int)) (L : Nat → List Int) (x : Int) (t : List Int) (S : List Bool) (D : List (List Int)) : Prop := (∀ D' u, D = D' ++ [u] → Oc sg B L x t S D' u 0) ∧ (D = [] → x ∉ fillL L t) ∧ S.length = 48
def HeadO (w : World) (Q : Nat → Prop) (g R : Nat) (sg : List Int) (B : List (List Int)) (L : Nat → List Int) (x : Int) (t : List Int) (N : Nat) (todo : Value) (wr : World) : Prop :=
 ∃ q n c S D, todo = .slice (some ⟨q, 0, none⟩) n c ∧ Pr sg B L x t S D ∧ uns S + n ≤ N ∧ uns S + n ≤ 49 ∧ OM w Q g R B S q n c D wr
def HeadI (w : World) (Q : Nat → Prop) (g R : Nat) (sg : List Int) (B : List (List Int)) (L : Nat → List Int) (x : Int) (t : List Int) (G : Nat) (cur : List Int) (X : Option Addr) (xn xc : Nat) (todo i : Value) (wr : World) : Prop :=
 RdQ wr Q sI [.slice X xn xc] cur ∧ ∃ (q n c : Nat) (S : List Bool) (D : List (List Int)) (k : Nat), todo = .slice (some ⟨q, 0, none⟩) n c ∧ i = .int .i64 (k : Int) ∧ k ≤ cur.length ∧ Oc sg B L x t S D cur k ∧ uns S + n + 1 ≤ G ∧ uns S + n ≤ 49 ∧ OM w Q g R B S q n c D wr
set_option maxHeartbeats 1000000 in
theorem l11Occurs (Q : Nat → Prop) (g R : Nat) (B : List (List Int)) (A : Option Addr) (n c : Nat) (sg t : List Int) (x : Int) (L : Nat → List Int) (rk : Nat → Nat) (w : World) (hB : Bnd w Q g R B) (hQ : ∀ b, Q b → b < w.heap.size) (hR : Res sg B L rk) (hV : ∀ i, Vb 48 (bd B i))
  (h : RdQ w Q sI [.slice A n c] t) (hf : Fo sg 1 t) (hv : Vb 48 t) (hn : n ≤ 1048576) (hx : x < 0) (hxb : bd B (vr x) = []) :
  Calls Tryz.prog 169 #[.pointer (some ⟨g, 0, none⟩), .int .i64 x, .slice A n c] w (AnsB w (decide (x ∈ fillL L t))) := by
 have hmk : ∀ W : World, (Instr.makeSlice 197 (.int .i64 48) (.int .i64 48)).run Tryz.prog W = .ok (.slice (some ⟨W.heap.size, 0, none⟩) 48 48) (W.alloc (.cells (madeCells #[.bool false] 48) 4)) := fun W => run_make_bools 48 (by omega) W
 have cg : w.cell? ⟨g, 0, none⟩ = some (.slice (some ⟨R, 0, none⟩) 48 48) := hB.top
 have hgR := hB.lt
 obtain ⟨W, hW⟩ : ∃ W, W = (w.alloc (.cells (madeCells #[.bool false] 48) 4)).alloc (.cells #[.slice A n c] 22) := ⟨_, rfl⟩
 have hw1 : (w.alloc (.cells (madeCells #[.bool false] 48) 4)).heap.size = w.heap.size + 1 := by simp
 have bW : Below w.heap.size w W := by rw [hW]; exact ((Below.refl _ _).alloc (Nat.le_refl _) _).alloc (by simp) _
 have M0 : OM w Q g R B (List.replicate 48 false) (w.heap.size + 1) 1 1 [t] W := by
  refine ⟨hB.next bW hQ, ?_, ?_, bW, hQ⟩
  ·rw [hW, bools_new]; exact (Row.new _ _ _).alloc _
  ·have r1 := Row.new (w.alloc (.cells (madeCells #[.bool false] 48) 4)) 22 #[.slice A n c]
   rw [hw1] at r1
   rw [← hW] at r1
   exact Stk.single r1 (Nat.le_refl _) (h.keep (Keep.below bW hQ))
 have P0 : Pr sg B L x t (List.replicate 48 false) [t] := by
  refine ⟨fun D' u e => ?_, fun e => (by cases e), by simp⟩
  have e2 : D' = [] := by
   cases D' with
   | nil => rfl
   | cons a r => have := congrArg List.length e; simp at this
  subst e2
  have e3 : t = u := by simpa using e
  subst e3
  exact Oc.start hf hv
 have S0 := hid (show HeadO w Q g R sg B L x t 49 (.slice (some ⟨w.heap.size + 1, 0, none⟩) 1 1) W from ⟨_, 1, 1, _, _, rfl, P0, by decide, by decide, M0⟩)
 have HW := hid hW
 have HR := hid hR
 have HV := hid hV
 have HXB := hid hxb
 clear hB hQ hR hV h hf hv hxb hW M0 P0 bW
 go_enter Tryz.func169, Tryz.ntmps169
 go_wp2_with fail
 rw [← HW.out]
 clear HW
 go_loopg [8] 49 (fun N todo wr => HeadO w Q g R sg B L x t N todo wr)
 case atStart => exact S0.out
 case round =>
  clear S0
  obtain ⟨q, dn, dc, S, D, rfl, hpr, hN, hN2, hM⟩ := hrel
  have hdl := hM.stk.1
  by_cases h0 : dn = 0
  ·subst h0
   have hD : D = [] := List.length_eq_zero_iff.1 hdl
   have F := hid (show AnsB w (decide (x ∈ fillL L t)) (.returned (.bool false)) wr from ⟨by rw [decide_eq_false (hpr.2.1 hD)], hM.bel⟩)
   clear hpr hM hD hdl
   go_wp2
   go_ret
   exact F.out
  ·obtain ⟨m, rfl⟩ : ∃ m, dn = m + 1 := ⟨dn - 1, by omega⟩
   obtain ⟨D', u, rfl⟩ : ∃ D' u, D = D' ++ [u] := ⟨D.dropLast, D.getLast (by intro e; rw [e] at hdl; simp at hdl), (List.dropLast_concat_getLast _).symm⟩
   have hD' : D'.length = m := by simpa using hdl
   obtain ⟨ea, e0, -, -⟩ | ⟨g2, cur, eg, -, rq, hmc, -, hmcc, hcur⟩ := hM.stk.form
   ·omega
   injection eg with eg
   injection eg with eg
   subst eg
   obtain ⟨X, xn, xc, ecur, hu⟩ := hcur m (by omega)
   have eu : (D' ++ [u]).getD m [] = u := by simp [List.getD, ← hD']
   rw [eu] at hu
   have cq : wr.cell? ⟨q, m, none⟩ = some (.slice X xn xc) := (rq.cell m).trans ecur
   have hoc := hpr.1 D' u rfl
   have hul := (rdq_nums hu).1
   have i0 : (0 : Int) ≤ (m : Int) := by omega
   have i1 : (m : Int) < ((m + 1 : Nat) : Int) := by omega
   have i2 : (m : Int) ≤ (dc : Int) := by omega
   have e1 : ((m + 1 : Nat) : Int) - 1 = (m : Int) := by omega
   have HM := hid hM
   have hm9 : m ≤ 49 := by omega
   have S1 := hid (show ∀ w', w' = wr → HeadI w Q g R sg B L x t gk u X xn xc (.slice (some ⟨q, 0, none⟩) m dc) (.int .i64 0) w' from fun w' e => by rw [e]; exact ⟨hu, q, m, dc, S, D', 0, rfl, rfl, Nat.zero_le _, hoc, by omega, by omega, hM.pop⟩)
   clear hpr hM hoc hN hN2 hcur rq ecur eu hdl hD' hu
   go_wp2_with fail
   go_loopw [8, 10] (fun todo i wr => HeadI w Q g R sg B L x t gk u X xn xc todo i wr) (fun _ i _ => u.length - (intOf i).toNat)
   case atStart => exact S1.out _ rfl
   case round =>
    clear S1 HM cq
    obtain ⟨hu, q, m, dc, S, D, k, rfl, rfl, hk, hoc, hG1, hG2, hM⟩ := hrel
    obtain ⟨-, hcap, hspot⟩ := rdq_nums hu
    have hxn9 : xn ≤ 9223372036854775807 := Nat.le_trans hcap.1 hcap.2.1
    have HUL := hid hul
    by_cases hlt : k < xn
    ·obtain ⟨b, off, rfl, hqb, hc⟩ := hspot (by omega)
     have cz := hc k hlt
     obtain ⟨z, hz⟩ : ∃ z, u.getD k 0 = z := ⟨_, rfl⟩
     rw [hz] at cz
     have hzm : z ∈ u := by
      rw [← hz, List.getD_eq_getElem?_getD, List.getElem?_eq_getElem (by omega)]
      exact List.getElem_mem _
     have hzv := hoc.c.2.1.2 z hzm
     have i0 : (0 : Int) ≤ (k : Int) := by omega
     have i1 : (k : Int) < (xn : Int) := by omega
     have HZ := hid hz
     by_cases hzx : z = x
     ·have e1 : (z == x) = true := by simp [hzx]
      have hin := hoc.found HR.out hx HXB.out (by omega) (hz.trans hzx)
      have F := hid (show AnsB w (decide (x ∈ fillL L t)) (.returned (.bool true)) wr from ⟨by rw [decide_eq_true hin], hM.bel⟩)
      clear hu hoc hM hin hspot hc hzm hzv hz
      go_wp2
      try rw [Exit.noGoto_ret]
      go_ret
      exact F.out
     ·have e1 : (z == x) = false := by simp [hzx]
      by_cases h0 : z < 0
      case neg =>
       have d0 : decide (z < 0) = false := decide_eq_false h0
       have hp := hoc.pass (show Cn B x S (u.getD k 0) from fun h => absurd (by rw [hz] at h; exact h) h0)
       have F := hid (show ∀ dd, HeadI w Q g R sg B L x t gk u (some ⟨b, off, none⟩) xn xc (.slice (some ⟨q, 0, none⟩) m dc) (.int .i64 ((k : Int) + 1)) (wr.drewN dd) from fun dd => ⟨hu.keep fun _ _ => rfl, q, m, dc, S, D, k + 1, rfl, by simp, by omega, hp, hG1, hG2, hM.drewN dd⟩)
       have cz9 := cz
       clear hu hoc hM hp hspot hc hzm hzv hz hG1 hG2 cz9
       go_wp2_with fail
       go_quiet (fail)
       go_wp2
       go_roundw
       case rel => exact F.out _
       case measure => simp [intOf]; have := HUL.out; omega
      obtain ⟨i, rfl⟩ : ∃ i : Nat, z = -1 - (i : Int) := ⟨(-1 - z).toNat, by omega⟩
      have hi : i < 48 := by omega
      have hwrap : IntKind.i64.wrap (-1 - (-1 - (i : Int))) = (i : Int) := by rw [IntKind.wrap_i64]; omega
      have j1 : (0 : Int) ≤ (i : Int) := by omega
      have j2 : (i : Int) < 48 := by omega
      have cs : wr.cell? ⟨w.heap.size, i, none⟩ = some (.bool (S.getD i false)) := (hM.seen.cell i).trans (bools_at (by rw [hoc.len]; exact hi))
      obtain ⟨sb, hsb⟩ : ∃ sb, S.getD i false = sb := ⟨_, rfl⟩
      rw [hsb] at cs
      have hvr : vr (-1 - (i : Int)) = i := vr_at i
      cases sb with
      | true =>
       have hp := hoc.pass (show Cn B x S (u.getD k 0) from fun _ => ⟨by rw [hz]; exact hzx, fun _ => by rw [hz, hvr]; exact hsb⟩)
       have F := hid (show ∀ dd, HeadI w Q g R sg B L x t gk u (some ⟨b, off, none⟩) xn xc (.slice (some ⟨q, 0, none⟩) m dc) (.int .i64 ((k : Int) + 1)) (wr.drewN dd) from fun dd => ⟨hu.keep fun _ _ => rfl, q, m, dc, S, D, k + 1, rfl, by simp, by omega, hp, hG1, hG2, hM.drewN dd⟩)
       clear hu hoc hM hp hspot hc hzm hzv hz hG1 hG2 hvr
       go_wp2_with fail
       go_quiet (fail)
       go_wp2
       go_roundw
       case rel => exact F.out _
       case measure => simp [intOf]; have := HUL.out; omega
      | false =>
       obtain ⟨V, vn, vc, cV, rV⟩ := hM.bnd.at hi
       have hvl : (bd B i).length = vn := (rdq_nums rV).1
       have cg2 : wr.cell? ⟨g, 0, none⟩ = some (.slice (some ⟨R, 0, none⟩) 48 48) := hM.bnd.top
       by_cases hvn : vn = 0
       ·subst hvn
        have hbe : bd B i = [] := List.length_eq_zero_iff.1 hvl
        have hp := hoc.pass (show Cn B x S (u.getD k 0) from fun _ => ⟨by rw [hz]; exact hzx, fun h => absurd (by rw [hz, hvr]; exact hbe) h⟩)
        have F := hid (show ∀ dd, HeadI w Q g R sg B L x t gk u (some ⟨b, off, none⟩) xn xc (.slice (some ⟨q, 0, none⟩) m dc) (.int .i64 ((k : Int) + 1)) (wr.drewN dd) from fun dd => ⟨hu.keep fun _ _ => rfl, q, m, dc, S, D, k + 1, rfl, by simp, by omega, hp, hG1, hG2, hM.drewN dd⟩)
        clear hu hoc hM hp hspot hc hzm hzv hz hG1 hG2 hvr hvl hbe rV
        go_wp2_with fail
        go_quiet (fail)
        go_wp2
        go_roundw
        case rel => exact F.out _
        case measure => simp [intOf]; have := HUL.out; omega
       ·have hbn : bd B i ≠ [] := fun e => hvn (by rw [← hvl, e]; rfl)
        have hv0 : 0 < vn := by omega
        have hns : ¬ sn S i := by unfold sn; rw [hsb]; simp
        have hil : i < S.length := by rw [hoc.len]; exact hi
        have hp := hoc.mark HR.out HV.out hi (by omega) hz hbn (by rw [hz]; exact hzx)
        have hun := uns_set hil hns
        have fs : wr.frozen? ⟨w.heap.size, i, none⟩ = false := hM.seen.free i
        have hM2 := hid (fun dd => (hM.drewN dd).mark hil hgR.1 hgR.2)
        have hu2 := hid (fun dd => RdQ.keep (w := wr) (w' := (wr.drewN dd).setCell ⟨w.heap.size, i, none⟩ (.bool true)) (fun b' hb' => (by have h9 := Below.heap_setCell (wr.drewN dd) ⟨w.heap.size, i, none⟩ (.bool true) b' (by have := hM.hQ b' hb'; show b' ≠ w.heap.size; omega); exact h9)) hu)
        have HP := hid hp
        have HG1 := hid (show uns (S.set i true) + (m + 1) + 1 ≤ gk by omega)
        have HG2 := hid (show uns (S.set i true) + (m + 1) ≤ 49 by omega)
        have hm9 : m ≤ 49 := by omega
        clear hoc hM hp hspot hc hzm hzv hz hG1 hG2 hvr hvl hbn hns hil hun
        go_wp2_with fail
        go_quiet (fail)
        go_wp2_with fail
        obtain ⟨W2, hW2⟩ : ∃ W2, W2 = (wr.drewN nq).setCell ⟨w.heap.size, i, none⟩ (.bool true) := ⟨_, rfl⟩
        have M2 := hM2.out nq
        have U2 := hu2.out nq
        rw [← hW2] at M2 U2 ⊢
        clear hM2 hu2 hW2 cz cs cV rV cg2 fs hu
        obtain ⟨V2, vn2, vc2, cV2, rV2⟩ := M2.bnd.at hi
        have cg2 : W2.cell? ⟨g, 0, none⟩ = some (.slice (some ⟨R, 0, none⟩) 48 48) := M2.bnd.top
        have cz2 : W2.cell? ⟨b, off + k, none⟩ = some (.int .i64 (-1 - (i : Int))) := by
         obtain ⟨-, -, hs2⟩ := rdq_nums U2
         obtain ⟨b', off', e', -, hc'⟩ := hs2 (by omega)
         injection e' with e'
         injection e' with e1' e2'
         subst e1' e2'
         rw [← HZ.out]
         exact hc' k hlt
        have T2 := M2.drew
        go_wp2_with fail
        go_region_law (first
         | (refine stepStk rfl _ _ rfl Q (w.heap.size + 1) (some ⟨q, 0, none⟩) m dc D (by simp [Act.eval, Act.put]) (T2.alloc _).stk W2.heap.size 1 (.slice V2 vn2 vc2) (bd B i) (by simp [Act.eval, Act.put]) ((Row.new _ _ _).cell 0) (rV2.keep (by exact fun b' hb' => Below.heap_alloc _ _ _ (Nat.lt_of_lt_of_le (T2.hQ b' hb') T2.bel.size))) (by omega) (by have := T2.lo; simp at this ⊢; omega) (fun b' hb' => Nat.lt_succ_of_lt (T2.hQ b' hb')) ?_; intro g8 c8 w8 ho8 hg8 hat8 hlt8))
        all_goals
         have M8 := (M2.alloc (.cells #[.slice V2 vn2 vc2] 22)).drew
         have U8 := (RdQ.keep (w' := (W2.alloc (.cells #[.slice V2 vn2 vc2] 22)).drew) (fun b' hb' => Below.heap_alloc W2 (.cells #[.slice V2 vn2 vc2] 22) b' (Nat.lt_of_lt_of_le (T2.hQ b' hb') T2.bel.size)) U2).keep (M8.kq hg8)
         have F := hid (show HeadI w Q g R sg B L x t gk u (some ⟨b, off, none⟩) xn xc (.slice (some ⟨g8, 0, none⟩) (m + 1) c8) (.int .i64 ((k : Int) + 1)) w8 from ⟨U8, g8, m + 1, c8, S.set i true, D ++ [bd B i], k + 1, rfl, by simp, by have := HUL.out; omega, HP.out, HG1.out, HG2.out, M8.push hg8 ho8 hgR.1 hgR.2⟩)
         clear M8 U8 M2 U2 T2 rV2 cV2 cg2 cz2 ho8 hg8 hat8
         go_wp2
         go_roundw
         case rel => exact F.out
         case measure => simp [intOf]; have := HUL.out; omega
    ·have hkx : k = xn := by omega
     have i1 : ¬ (k : Int) < (xn : Int) := by omega
     have hp : Pr sg B L x t S D := ⟨fun D' u' e => by rw [e] at hoc; exact hoc.pop (by omega), fun e => by rw [e] at hoc; exact hoc.done HR.out hx (by omega), hoc.len⟩
     have F := hid (show HeadO w Q g R sg B L x t (uns S + m) (.slice (some ⟨q, 0, none⟩) m dc) wr from ⟨q, m, dc, S, D, rfl, hp, Nat.le_refl _, hG2, hM⟩)
     have HG := hid hG1
     clear hu hoc hM hp hspot hG1 hkx
     go_wp2
     go_roundg (uns S + m)
     case measure => exact HG.out
     case rel => exact F.out
end occurs
end
section
open Go.Lib (hid)
namespace meetSpec
open Go.RowKit base ints sig term varsOf marks app appAt segs kinds shape drawX fillMath matchMath unifMath forest triMath stk partsSpec bnd occurs
set_option maxRecDepth 100000
theorem SS_comm (L : Nat → List Int) (ls rs : List (List Int)) : SS L ls rs = SS L rs ls := Nat.add_comm _ _
theorem neg_nat {x : Int} (h : x < 0) : ∃ i : Nat, x = -1 - (i : Int) := ⟨(-1 - x).toNat, by omega⟩
structure MM (w : World) (Q : Nat → Prop) (g R : Nat) (A : Option Addr) (n c : Nat) (B : List (List Int)) (q1 q2 k k2 c1 c2 : Nat) (ls rs : List (List Int)) (wr : World) : Prop where
 bnd : Bnd wr Q g R B
 box : Row wr w.heap.size 30 #[.slice A n c]
 l : Stk wr Q (w.heap.size + 1) (some ⟨q1, 0, none⟩) k c1 ls
 r : Stk wr Q (w.heap.size + 1) (some ⟨q2, 0, none⟩) k2 c2 rs
 ne : q1 ≠ q2
 gr : w.grownBy wr (some R)
 hQ : ∀ b, Q b → b < w.heap.size ∧ b ≠ R
 hg : g < w.heap.size ∧ R < w.heap.size ∧ g ≠ R
section
variable {w : World} {Q : Nat → Prop} {g R : Nat} {A : Option Addr} {n c : Nat} {B : List (List Int)} {q1 q2 k k2 c1 c2 : Nat} {ls rs : List (List Int)} {wr w' : World}
theorem MM.lo (h : MM w Q g R A n c B q1 q2 k k2 c1 c2 ls rs wr) : w.heap.size + 1 ≤ wr.heap.size := h.box.lt
theorem MM.q (h : MM w Q g R A n c B q1 q2 k k2 c1 c2 ls rs wr) : ∀ b, Q b → b < wr.heap.size := fun b hb => by have := (h.hQ b hb).1; have := h.lo; omega
theorem MM.ge (h : MM w Q g R A n c B q1 q2 k k2 c1 c2 ls rs wr) : w.heap.size + 1 ≤ q1 ∧ q1 < wr.heap.size ∧ w.heap.size + 1 ≤ q2 ∧ q2 < wr.heap.size := ⟨(h.l.ge q1 rfl).1, (h.l.ge q1 rfl).2, (h.r.ge q2 rfl).1, (h.r.ge q2 rfl).2⟩
theorem MM.next (h : MM w Q g R A n c B q1 q2 k k2 c1 c2 ls rs wr) (hb : Below wr.heap.size wr w') : MM w Q g R A n c B q1 q2 k k2 c1 c2 ls rs w' :=
 ⟨h.bnd.next hb h.q, h.box.next hb, h.l.next hb h.q, h.r.next hb h.q, h.ne, h.gr.trans ⟨hb.os, hb.tape, hb.output, hb.size, fun j hj _ => hb.block j hj⟩, h.hQ, h.hg⟩
theorem MM.drewN (h : MM w Q g R A n c B q1 q2 k k2 c1 c2 ls rs wr) (j : Nat) : MM w Q g R A n c B q1 q2 k k2 c1 c2 ls rs (wr.drewN j) := h.next (base.below_drewN (Below.refl _ _) j)
theorem MM.pop {u v : List Int} (h : MM w Q g R A n c B q1 q2 (k + 1) (k2 + 1) c1 c2 (ls ++ [u]) (rs ++ [v]) wr) : MM w Q g R A n c B q1 q2 k k2 c1 c2 ls rs wr := ⟨h.bnd, h.box, h.l.pop, h.r.pop, h.ne, h.gr, h.hQ, h.hg⟩
theorem MM.keep (h : MM w Q g R A n c B q1 q2 k k2 c1 c2 ls rs wr) : Keep Q w wr := Keep.grown h.gr fun b hb => ⟨(h.hQ b hb).1, fun e => (h.hQ b hb).2 (by injection e)⟩
theorem MM.bind (h : MM w Q g R A n c B q1 q2 k k2 c1 c2 ls rs wr) {i : Nat} (hi : i < 48) {V : Option Addr} {vn vc : Nat} {v : List Int} (hv : RdQ wr Q sI [.slice V vn vc] v) : MM w Q g R A n c (B.set i v) q1 q2 k k2 c1 c2 ls rs (wr.setCell ⟨R, i, none⟩ (.slice V vn vc)) := by
 have hgb : wr.grownBy (wr.setCell ⟨R, i, none⟩ (.slice V vn vc)) (some R) := ⟨rfl, rfl, rfl, by simp, fun j _ hne => Below.heap_setCell wr _ _ j (fun e => hne (by show some j = some R; rw [e]))⟩
 have hk : Keep Q wr (wr.setCell ⟨R, i, none⟩ (.slice V vn vc)) := fun b hb => Below.heap_setCell wr _ _ b (h.hQ b hb).2
 obtain ⟨g1, -, g2, -⟩ := h.ge
 have h2 := h.hg
 exact ⟨h.bnd.set hi hv h2.2.2 (fun b hb => (h.hQ b hb).2), h.box.far (by show w.heap.size ≠ R; omega) _, h.l.keep hgb (.inr fun e => by have e : some q1 = some R := e; injection e with e; omega) hk, h.r.keep hgb (.inr fun e => by have e : some q2 = some R := e; injection e with e; omega) hk, h.ne, h.gr.trans hgb, h.hQ, h.hg⟩
theorem MM.topL {u : List Int} (h : MM w Q g R A n c B q1 q2 (k + 1) k2 c1 c2 (ls ++ [u]) rs wr) : ∃ X xn xc, wr.cell? ⟨q1, k, none⟩ = some (.slice X xn xc) ∧ RdQ wr Q sI [.slice X xn xc] u ∧ k ≤ c1 ∧ c1 ≤ 9223372036854775807 := by
 obtain ⟨ea, e0, -, -⟩ | ⟨g2, cur, eg, -, rq, hmc, -, hmcc, hcur⟩ := h.l.form
 ·omega
 injection eg with eg
 injection eg with eg
 subst eg
 have hl : ls.length = k := by have := h.l.1; simpa using this
 obtain ⟨X, xn, xc, e, hu⟩ := hcur k (by omega)
 have eu : (ls ++ [u]).getD k [] = u := by simp [List.getD, ← hl]
 rw [eu] at hu
 exact ⟨X, xn, xc, (rq.cell k).trans e, hu, by omega, hmcc⟩
theorem MM.topR {v : List Int} (h : MM w Q g R A n c B q1 q2 k2 (k + 1) c1 c2 ls (rs ++ [v]) wr) : ∃ X xn xc, wr.cell? ⟨q2, k, none⟩ = some (.slice X xn xc) ∧ RdQ wr Q sI [.slice X xn xc] v ∧ k ≤ c2 ∧ c2 ≤ 9223372036854775807 := by
 obtain ⟨ea, e0, -, -⟩ | ⟨g2, cur, eg, -, rq, hmc, -, hmcc, hcur⟩ := h.r.form
 ·omega
 injection eg with eg
 injection eg with eg
 subst eg
 have hl : rs.length = k := by have := h.r.1; simpa using this
 obtain ⟨X, xn, xc, e, hu⟩ := hcur k (by omega)
 have eu : (rs ++ [v]).getD k [] = v := by simp [List.getD, ← hl]
 rw [eu] at hu
 exact ⟨X, xn, xc, (rq.cell k).trans e, hu, by omega, hmcc⟩
theorem MM.far (h : MM w Q g R A n c B q1 q2 k k2 c1 c2 ls rs wr) {q : Nat} (hg : wr.grownBy w' (some q)) (hq : w.heap.size + 1 ≤ q) : Bnd w' Q g R B ∧ Row w' w.heap.size 30 #[.slice A n c] ∧ w.grownBy w' (some R) ∧ Keep Q wr w' := by
 have hk : Keep Q wr w' := Keep.grown hg fun b hb => ⟨h.q b hb, fun e => by injection e with e; have := (h.hQ b hb).1; omega⟩
 have hlo := h.lo
 have hh := h.hg
 have hs := h.gr.size
 refine ⟨h.bnd.keep (hg.block g (by omega) (fun e => by injection e with e; omega)) (hg.block R (by omega) (fun e => by injection e with e; omega)) hk, (hg.block _ h.box.lt (fun e => by injection e with e; omega)).trans h.box, ⟨hg.os.trans h.gr.os, hg.tape.trans h.gr.tape, hg.output.trans h.gr.output, Nat.le_trans hs hg.size, fun j hj hne => (hg.block j (by omega) (fun e => by injection e with e; omega)).trans (h.gr.block j hj hne)⟩, hk⟩
theorem MM.pushL (h : MM w Q g R A n c B q1 q2 k k2 c1 c2 ls rs wr) {q' k' c' : Nat} {ls' : List (List Int)} (hg : wr.grownBy w' (some q1)) (ho : Stk w' Q (w.heap.size + 1) (some ⟨q', 0, none⟩) k' c' ls') (hat : q' = q1 ∨ q' = wr.heap.size) : MM w Q g R A n c B q' q2 k' k2 c' c2 ls' rs w' := by
 obtain ⟨f1, f2, f3, f4⟩ := h.far hg h.ge.1
 have h1 := h.ge
 have h2 := h.ne
 exact ⟨f1, f2, ho, h.r.keep hg (.inr fun e => h2 (by have e : some q2 = some q1 := e; injection e with e; exact e.symm)) f4, by omega, f3, h.hQ, h.hg⟩
theorem MM.pushR (h : MM w Q g R A n c B q1 q2 k k2 c1 c2 ls rs wr) {q' k' c' : Nat} {rs' : List (List Int)} (hg : wr.grownBy w' (some q2)) (ho : Stk w' Q (w.heap.size + 1) (some ⟨q', 0, none⟩) k' c' rs') (hat : q' = q2 ∨ q' = wr.heap.size) : MM w Q g R A n c B q1 q' k k' c1 c' ls rs' w' := by
 obtain ⟨f1, f2, f3, f4⟩ := h.far hg h.ge.2.2.1
 have h1 := h.ge
 have h2 := h.ne
 exact ⟨f1, f2, h.l.keep hg (.inr fun e => h2 (by have e : some q1 = some q2 := e; injection e with e)) f4, ho, by omega, f3, h.hQ, h.hg⟩
theorem some_of {w : World} {Q : Nat → Prop} {lo n c : Nat} {A : Option Addr} {D : List (List Int)} {q z : Nat} (h : Stk w Q lo A n c D) (hat : blk A = some q ∨ blk A = some z) : ∃ q', A = some ⟨q', 0, none⟩ ∧ (q' = q ∨ q' = z) := by
 obtain ⟨rfl, -, -, -⟩ | ⟨g, cur, rfl, -⟩ := h.form
 ·rcases hat with e | e <;> cases e
 ·refine ⟨g, rfl, ?_⟩
  rcases hat with e | e
  ·have e : some g = some q := e
   injection e with e
   exact .inl e
  ·have e : some g = some z := e
   injection e with e
   exact .inr e
end
def HeadM (w : World) (Q : Nat → Prop) (g R : Nat) (A : Option Addr) (n c : Nat) (sg s t : List Int) (N : Nat) (left right : Value) (wr : World) : Prop :=
 ∃ (q1 q2 k c1 c2 : Nat) (ls rs B : List (List Int)) (L : Nat → List Int) (rk : Nat → Nat) (a : List Int) (dk : Nat), left = .slice (some ⟨q1, 0, none⟩) k c1 ∧ right = .slice (some ⟨q2, 0, none⟩) k c2 ∧ Mid sg s t 48 B ls rs ∧ Res sg B L rk ∧ Chn B a ls dk ∧ gS (unb B) (SS L ls rs) ≤ N ∧ MM w Q g R A n c B q1 q2 k k c1 c2 ls rs wr
def AnsMeet (w : World) (Q : Nat → Prop) (g R : Nat) (sg s t : List Int) (e : Ending) (w' : World) : Prop :=
 ∃ (ok : Bool) (B : List (List Int)), e = .returned (.bool ok) ∧ Bnd w' Q g R B ∧ w.grownBy w' (some R) ∧ (ok = true → Mid sg s t 48 B [] [] ∧ ∃ L rk, Res sg B L rk) ∧ (ok = false → ∀ θ, ¬ Unis sg s t θ)
set_option maxHeartbeats 1000000 in
theorem l11Meet (Q : Nat → Prop) (g R : Nat) (A S T : Option Addr) (n c sn sc tn tc : Nat) (sg s t : List Int) (w : World) (hB : Bnd w Q g R (List.replicate 48 [])) (hQ : ∀ b, Q b → b < w.heap.size ∧ b ≠ R) (hgR : g ≠ R) (hsg : RdQ w Q sI [.slice A n c] sg) (hn : n ≤ 1048576) (hs : Arities sg)
  (h : RdQ w Q sI [.slice S sn sc] s) (h' : RdQ w Q sI [.slice T tn tc] t) (hf : Fo sg 1 s ∧ Vb 48 s) (hf' : Fo sg 1 t ∧ Vb 48 t) :
  Calls Tryz.prog 147 #[.agg #[.slice A n c], .pointer (some ⟨g, 0, none⟩), .slice S sn sc, .slice T tn tc] w (AnsMeet w Q g R sg s t) := by
 have hlt := hB.lt
 obtain ⟨W, hW⟩ : ∃ W, W = ((w.alloc (.cells #[.slice A n c] 30)).alloc (.cells #[.slice S sn sc] 22)).alloc (.cells #[.slice T tn tc] 22) := ⟨_, rfl⟩
 have z1 : (w.alloc (.cells #[.slice A n c] 30)).heap.size = w.heap.size + 1 := by simp
 have z2 : ((w.alloc (.cells #[.slice A n c] 30)).alloc (.cells #[.slice S sn sc] 22)).heap.size = w.heap.size + 1 + 1 := by simp
 have bW : Below w.heap.size w W := by rw [hW]; exact (((Below.refl _ _).alloc (Nat.le_refl _) _).alloc (by simp) _).alloc (by simp; omega) _
 have hQl : ∀ b, Q b → b < w.heap.size := fun b hb => (hQ b hb).1
 have M0 : MM w Q g R A n c (List.replicate 48 []) (w.heap.size + 1) (w.heap.size + 1 + 1) 1 1 1 1 [s] [t] W := by
  refine ⟨hB.next bW hQl, ?_, ?_, ?_, by omega, ⟨bW.os, bW.tape, bW.output, bW.size, fun j hj _ => bW.block j hj⟩, hQ, ⟨hlt.1, hlt.2, hgR⟩⟩
  ·rw [hW]; exact ((Row.new _ _ _).alloc _).alloc _
  ·have r1 := (Row.new (w.alloc (.cells #[.slice A n c] 30)) 22 #[.slice S sn sc]).alloc (.cells #[.slice T tn tc] 22)
   rw [z1, ← hW] at r1
   exact Stk.single r1 (Nat.le_refl _) (h.keep (Keep.below bW hQl))
  ·have r1 := Row.new ((w.alloc (.cells #[.slice A n c] 30)).alloc (.cells #[.slice S sn sc] 22)) 22 #[.slice T tn tc]
   rw [z2, ← hW] at r1
   exact Stk.single r1 (by omega) (h'.keep (Keep.below bW hQl))
 obtain ⟨N0, hN0⟩ : ∃ N0, gS (unb (List.replicate 48 [])) (SS vt [s] [t]) = N0 := ⟨_, rfl⟩
 have S0 := hid (show HeadM w Q g R A n c sg s t N0 (.slice (some ⟨w.heap.size + 1, 0, none⟩) 1 1) (.slice (some ⟨w.heap.size + 1 + 1, 0, none⟩) 1 1) W from
  ⟨_, _, 1, 1, 1, [s], [t], _, vt, fun _ => 0, 0 :: s, 0, rfl, rfl, Mid.start 48 hf hf', Res.start sg 48, .base _ _ (by have := hf.2.1; simp; omega) (by simp) (fun v hv rk _ => by
   rw [List.mem_singleton.1 hv]
   have h9 : mr rk s ≤ mr rk (0 :: s) := mr_sub fun z hz => List.mem_cons_of_mem _ hz
   unfold pot
   rw [List.length_cons]
   omega), Nat.le_of_eq hN0, M0⟩)
 have HW := hid hW
 have HSG := hid hsg
 have HS := hid hs
 clear hB hQ hQl hsg hs h h' hf hf' hW M0 bW hN0
 go_enter Tryz.func147, Tryz.ntmps147
 go_wp2_with fail
 rw [← HW.out]
 clear HW
 go_loopg [9, 10] N0 (fun N left right wr => HeadM w Q g R A n c sg s t N left right wr)
 case atStart => exact S0.out
 case round =>
  clear S0
  obtain ⟨q1, q2, k, c1, c2, ls, rs, B, L, rk, a, dk, rfl, rfl, hMid, hRes, hChn, hN, hM⟩ := hrel
  by_cases h0 : k = 0
  ·subst h0
   have hl : ls = [] := List.length_eq_zero_iff.1 hM.l.1
   have hr : rs = [] := List.length_eq_zero_iff.1 hM.r.1
   subst hl hr
   have F := hid (show AnsMeet w Q g R sg s t (.returned (.bool true)) wr from ⟨true, B, rfl, hM.bnd, hM.gr, fun _ => ⟨hMid, L, rk, hRes⟩, fun h => by cases h⟩)
   clear hMid hRes hChn hN hM
   go_wp2
   go_ret
   exact F.out
  ·obtain ⟨m, rfl⟩ : ∃ m, k = m + 1 := ⟨k - 1, by omega⟩
   obtain ⟨ls, u0, rfl⟩ : ∃ D' u, ls = D' ++ [u] := ⟨ls.dropLast, ls.getLast (by intro e; have := hM.l.1; rw [e] at this; simp at this), (List.dropLast_concat_getLast _).symm⟩
   obtain ⟨rs, v0, rfl⟩ : ∃ D' u, rs = D' ++ [u] := ⟨rs.dropLast, rs.getLast (by intro e; have := hM.r.1; rw [e] at this; simp at this), (List.dropLast_concat_getLast _).symm⟩
   obtain ⟨X, xn, xc, cX, rX, hmc1, hc19⟩ := hM.topL
   obtain ⟨Y, yn, yc, cY, rY, hmc2, hc29⟩ := hM.topR
   have hm9 : m ≤ 10000 := by have h9 := hChn.small hRes hMid.vb; rw [hM.l.1] at h9; omega
   have fu := hMid.fl u0 (by simp)
   have fv := hMid.fr v0 (by simp)
   have i0 : (0 : Int) ≤ (m : Int) := by omega
   have i1 : (m : Int) < ((m + 1 : Nat) : Int) := by omega
   have i2 : (m : Int) ≤ (c1 : Int) := by omega
   have i3 : (m : Int) ≤ (c2 : Int) := by omega
   have HMid := hid hMid
   have HRes := hid hRes
   have HChn := hid hChn
   have HN := hid hN
   have LH := hid (l11Head Q g R B X xn xc sg u0 L rk wr hM.bnd hRes hMid.vb rX fu.1 fu.2)
   have HRY := hid rY
   clear hMid hRes hChn hN rX rY
   go_wp2_with fail
   refine LH.out.mono ?_
   rintro e w1 ⟨X', xn', xc', u, d1, rfl, rU, hdU, hw1⟩
   have hM1 : MM w Q g R A n c B q1 q2 (m + 1) (m + 1) c1 c2 (ls ++ [u0]) (rs ++ [v0]) w1 := by rw [hw1]; exact hM.drewN d1
   have cY1 : w1.cell? ⟨q2, m, none⟩ = some (.slice Y yn yc) := by rw [hw1]; exact cY
   have rU1 : RdQ w1 Q sI [.slice X' xn' xc'] u := by rw [hw1]; exact rU.keep fun _ _ => rfl
   have LH2 := hid (l11Head Q g R B Y yn yc sg v0 L rk w1 hM1.bnd HRes.out HMid.out.vb (by rw [hw1]; exact HRY.out.keep fun _ _ => rfl) fv.1 fv.2)
   clear hM LH cX cY rU hw1
   go_wp2_with fail
   refine LH2.out.mono ?_
   rintro e w2 ⟨Y', yn', yc', v, d2, rfl, rV, hdV, hw2⟩
   have hM2 := (show MM w Q g R A n c B q1 q2 (m + 1) (m + 1) c1 c2 (ls ++ [u0]) (rs ++ [v0]) w2 by rw [hw2]; exact hM1.drewN d2).pop
   have rU2 : RdQ w2 Q sI [.slice X' xn' xc'] u := by rw [hw2]; exact rU1.keep fun _ _ => rfl
   have rV2 : RdQ w2 Q sI [.slice Y' yn' yc'] v := by rw [hw2]; exact rV.keep fun _ _ => rfl
   clear hM1 LH2 cY1 rU1 rV hw2 HRY
   obtain ⟨hul, hucap, hus⟩ := rdq_nums rU2
   obtain ⟨hvl, hvcap, hvs⟩ := rdq_nums rV2
   obtain ⟨b1, o1, rfl, hqb1, hc1⟩ := hus (by have := hdU.fo.pos; omega)
   obtain ⟨b2, o2, rfl, hqb2, hc2⟩ := hvs (by have := hdV.fo.pos; omega)
   have cu : w2.cell? ⟨b1, o1, none⟩ = some (.int .i64 (u.getD 0 0)) := hc1 0 (by have := hdU.fo.pos; omega)
   have cv : w2.cell? ⟨b2, o2, none⟩ = some (.int .i64 (v.getD 0 0)) := hc2 0 (by have := hdV.fo.pos; omega)
   obtain ⟨x, hx⟩ : ∃ x, u.getD 0 0 = x := ⟨_, rfl⟩
   obtain ⟨y, hy⟩ : ∃ y, v.getD 0 0 = y := ⟨_, rfl⟩
   have p1 : (0 : Int) < (xn' : Int) := by have := hdU.fo.pos; omega
   have p2 : (0 : Int) < (yn' : Int) := by have := hdV.fo.pos; omega
   have p3 : 0 < xn' := by omega
   have p4 : 0 < yn' := by omega
   rw [hx] at cu
   rw [hy] at cv
   clear hus hvs hc1 hc2
   go_wp2_with fail
   have HX := hid hx
   have HY := hid hy
   have HdU := hid hdU
   have HdV := hid hdV
   have HM2 := hid hM2
   have HRU := hid rU2
   have HRV := hid rV2
   have hu60 := hdU.vb.1
   have hv60 := hdV.vb.1
   have hx60 : xn' ≤ 60 := by omega
   have hy60 : yn' ≤ 60 := by omega
   have hxm : x ∈ u := by rw [← hx]; cases u with | nil => simp at hul; omega | cons z r => exact List.mem_cons_self ..
   have hym : y ∈ v := by rw [← hy]; cases v with | nil => simp at hvl; omega | cons z r => exact List.mem_cons_self ..
   have hxv := hdU.vb.2 x hxm
   have hyv := hdV.vb.2 y hym
   clear hx hy hdU hdV hM2 rU2 rV2 fu fv hxm hym
   by_cases hxy : x = y
   ·subst hxy
    have e1 : (x == x) = true := by simp
    by_cases hx0 : x < 0
    ·have F := hid (show ∀ dd, HeadM w Q g R A n c sg s t (gS (unb B) (SS L ls rs)) (.slice (some ⟨q1, 0, none⟩) m c1) (.slice (some ⟨q2, 0, none⟩) m c2) (w2.drewN dd) from fun dd => by
      obtain ⟨a', dk', hc', -⟩ := HChn.out.pop
      exact ⟨q1, q2, m, c1, c2, ls, rs, B, L, rk, a', dk', rfl, rfl, HMid.out.same HdU.out HdV.out (by rw [HX.out]; exact hx0) (by rw [HX.out, HY.out]), HRes.out, hc', Nat.le_refl _, HM2.out.drewN dd⟩)
     have FN := hid (show gS (unb B) (SS L ls rs) < gk from Nat.lt_of_lt_of_le (round_same HdU.out HdV.out HRes.out) HN.out)
     clear hul hvl hucap hvcap
     go_wp2_with fail
     go_quiet (fail)
     go_wp2
     go_roundg (gS (unb B) (SS L ls rs))
     case measure => exact FN.out
     case rel => exact F.out _
    ·have d0 : decide (x < 0) = false := decide_eq_false hx0
     have e2 : (x != x) = false := by simp
     have hpz : 0 ≤ u.getD 0 0 := by rw [HX.out]; exact Int.not_lt.1 hx0
     have hqz : 0 ≤ v.getD 0 0 := by rw [HY.out]; exact Int.not_lt.1 hx0
     have cA : w2.cell? ⟨w.heap.size, 0, none⟩ = some (.slice A n c) := HM2.out.box.cell 0
     clear hul hvl hucap hvcap
     go_wp2_with fail
     go_quiet (fail)
     go_wp2_with fail
     go_quiet (fail)
     go_wp2_with fail
     have HMA := hid (fun d => HM2.out.drewN d)
     have HRUA := hid (fun d => RdQ.keep (w := w2) (w' := w2.drewN d) (fun _ _ => rfl) HRU.out)
     have HRVA := hid (fun d => RdQ.keep (w := w2) (w' := w2.drewN d) (fun _ _ => rfl) HRV.out)
     have LP := hid (fun d => l13Parts Q A (some ⟨b1, o1, none⟩) n c xn' xc' sg u (w2.drewN d) (Rd.seg ((HSG.out.keep (HMA.out d).keep).rd (HMA.out d).q)) (HRUA.out d) (HMA.out d).q hn (by omega) HS.out HdU.out.fo hpz)
     refine (LP.out _).mono ?_
     rintro e w3 ⟨g3, pk, pc, ps, rfl, oP, hP, bb⟩
     have M3 := (HMA.out _).next bb
     have RV3 := (HRVA.out _).keep (Keep.below bb (HMA.out _).q)
     have LQ := hid (fun (w4 : World) (M4 : Row w4 w.heap.size 30 #[.slice A n c]) (h1 : Keep Q w w4) (h2 : ∀ b, Q b → b < w4.heap.size) (h3 : RdQ w4 Q sI [.slice (some ⟨b2, o2, none⟩) yn' yc'] v) => l13Parts Q A (some ⟨b2, o2, none⟩) n c yn' yc' sg v w4 (Rd.seg ((HSG.out.keep h1).rd h2)) h3 h2 hn (by omega) HS.out HdV.out.fo hqz)
     have hpk : pk ≤ 3 := by
      obtain ⟨⟨z, -, -, -, hl⟩, -⟩ := id hP
      have h9 := ar_bd HS.out z
      have := oP.1
      omega
     have hlo3 := M3.lo
     have hQ3 : ∀ b, Q b → b < w.heap.size + 1 := fun b hb => Nat.lt_succ_of_lt (M3.hQ b hb).1
     clear bb LP HMA HRUA HRVA cu cv cA HRU HRV HM2
     go_wp2_with (at_builtin; refine appStk rfl _ _ rfl Q (w.heap.size + 1) _ (some ⟨q1, 0, none⟩) m c1 g3 pk pc ls ps rfl M3.l rfl oP (by omega) (by omega) hlo3 hQ3 ?_; intro A' c' w4 o4 g4 h4; refine (?_ : Hid _).out)
     obtain ⟨q1', rfl, hq1⟩ := some_of (q := q1) o4 h4
     have M4 := M3.pushL g4 o4 hq1
     have RV4 := RV3.keep (M3.far g4 M3.ge.1).2.2.2
     have cA4 : w4.cell? ⟨w.heap.size, 0, none⟩ = some (.slice A n c) := M4.box.cell 0
     have LR := hid (LQ.out w4 M4.box M4.keep M4.q RV4)
     clear M3 RV3 LQ o4 g4 h4 hq1 oP hlo3
     refine hid ?_
     go_wp2_with fail
     refine LR.out.mono ?_
     rintro e w5 ⟨g5, zk, zc, zs, rfl, oZ, hZ, bb⟩
     have M5 := M4.next bb
     have hzk : zk ≤ 3 := by
      obtain ⟨⟨z, -, -, -, hl⟩, -⟩ := id hZ
      have h9 := ar_bd HS.out z
      have := oZ.1
      omega
     have hpz2 : pk = zk := by
      obtain ⟨⟨z, -, -, ez, hl⟩, -⟩ := id hP
      obtain ⟨⟨z', -, -, ez', hl'⟩, -⟩ := id hZ
      have a1 := HX.out
      have a2 := HY.out
      rw [ez] at a1
      rw [ez'] at a2
      have a1 : z = x := a1
      have a2 : z' = x := a2
      have a3 := oZ.1
      rw [a1] at hl
      rw [a2] at hl'
      have a4 : ps.length = pk := by have := M4.l.1; simp at this; have h9 := HMid.out.len; simp at h9; have h10 := M4.r.1; omega
      omega
     subst hpz2
     have hlo5 := M5.lo
     clear bb LR M4 RV4 cA4
     go_wp2_with (at_builtin; refine appStk rfl _ _ rfl Q (w.heap.size + 1) _ (some ⟨q2, 0, none⟩) m c2 g5 pk zc rs zs rfl M5.r rfl oZ (by omega) (by omega) hlo5 hQ3 ?_; intro A' c'' w6 o6 g6 h6; refine (?_ : Hid _).out)
     obtain ⟨q2', rfl, hq2⟩ := some_of (q := q2) o6 h6
     have M6 := M5.pushR g6 o6 hq2
     have F := hid (show HeadM w Q g R A n c sg s t (gS (unb B) (SS L (ls ++ ps) (rs ++ zs))) (.slice (some ⟨q1', 0, none⟩) (m + pk) c') (.slice (some ⟨q2', 0, none⟩) (m + pk) c'') w6 from by
      obtain ⟨a', dk', hc', hu'⟩ := HChn.out.pop
      refine ⟨q1', q2', m + pk, c', c'', ls ++ ps, rs ++ zs, B, L, rk, u0, dk' + 1, rfl, rfl, HMid.out.parts HdU.out HdV.out hP hZ (by rw [HX.out, HY.out]), HRes.out, .push a' u0 ls ps dk' hc' hu' ?_ ?_, Nat.le_refl _, M6⟩
      ·have := M6.l.1; simp at this; have h9 := HMid.out.len; simp at h9; have h10 := M5.r.1; omega
      ·intro z hz rk' hr'
       exact Nat.lt_of_lt_of_le (pot_part hP hz) (HdU.out.pot rk' hr'))
     have FN := hid (show gS (unb B) (SS L (ls ++ ps) (rs ++ zs)) < gk from Nat.lt_of_lt_of_le (round_parts HdU.out HdV.out HRes.out hP hZ) HN.out)
     clear M5 M6 o6 g6 h6 hq2 oZ
     refine hid ?_
     go_wp2
     go_roundg (gS (unb B) (SS L (ls ++ ps) (rs ++ zs)))
     case measure => exact FN.out
     case rel => exact F.out
   ·have e1 : (x == y) = false := by simp [hxy]
    by_cases hx0 : x < 0
    ·obtain ⟨i, hxi⟩ := neg_nat hx0
     subst hxi
     have hi : i < 48 := by omega
     have hwrap : IntKind.i64.wrap (-1 - (-1 - (i : Int))) = (i : Int) := by rw [IntKind.wrap_i64]; omega
     have hvr : vr (-1 - (i : Int)) = i := vr_at i
     have hb : bd B i = [] := by have := HdU.out.top (by rw [HX.out]; exact hx0); rw [HX.out, hvr] at this; exact this
     have j1 : (0 : Int) ≤ (i : Int) := by omega
     have j2 : (i : Int) < 48 := by omega
     have LO := hid (fun dd => l11Occurs Q g R B (some ⟨b2, o2, none⟩) yn' yc' sg v (-1 - (i : Int)) L rk (w2.drewN dd) (HM2.out.bnd.drewN dd) (HM2.out.drewN dd).q HRes.out HMid.out.vb (HRV.out.keep fun _ _ => rfl) HdV.out.fo HdV.out.vb (by omega) hx0 (by rw [hvr]; exact hb))
     have HVR := hid hvr
     clear hul hvl hucap hvcap hvr
     go_wp2_with fail
     go_quiet (fail)
     go_wp2_with fail
     refine (LO.out _).mono ?_
     rintro e w3 ⟨he, bb⟩
     have HM3 := hid ((HM2.out.drewN nq).next bb)
     have HRV3 := hid ((RdQ.keep (w := w2) (w' := w2.drewN nq) (fun _ _ => rfl) HRV.out).keep (w' := w3) (Keep.below bb (HM2.out.drewN nq).q))
     have cu3 : w3.cell? ⟨b1, o1, none⟩ = some (.int .i64 (-1 - (i : Int))) := (bb.cell (p := ⟨b1, o1, none⟩) (HM2.out.q b1 hqb1)).trans cu
     clear bb LO cu cv HRU HRV
     by_cases hoc : (-1 - (i : Int)) ∈ fillL L v
     ·rw [decide_eq_true hoc] at he
      subst he
      have F := hid (show AnsMeet w Q g R sg s t (.returned (.bool false)) w3 from ⟨false, B, rfl, HM3.out.bnd, HM3.out.gr, fun h => (by cases h), fun _ => HMid.out.occurs HdU.out HdV.out HRes.out (by rw [HX.out]; exact hx0) (by rw [HX.out, HY.out]; exact hxy) (by rw [HX.out]; exact hoc)⟩)
      clear HM3 HRV3 cu3 hoc
      go_wp2
      try rw [Exit.noGoto_ret]
      go_ret
      exact F.out
     ·rw [decide_eq_false hoc] at he
      subst he
      have cg3 : w3.cell? ⟨g, 0, none⟩ = some (.slice (some ⟨R, 0, none⟩) 48 48) := HM3.out.bnd.top
      obtain ⟨V, vn, vc, cV3, -⟩ := HM3.out.bnd.at hi
      have fV3 : w3.frozen? ⟨R, i, none⟩ = false := HM3.out.bnd.free i
      have hvne : v ≠ [] := fun e => by have := HdV.out.fo; rw [e] at this; exact absurd this.none (by simp)
      obtain ⟨rk', hR'⟩ := HRes.out.bind (by rw [HMid.out.bl]; exact hi) hb HdV.out.fo hoc
      have hib : i < B.length := by rw [HMid.out.bl]; exact hi
      have F := hid (show HeadM w Q g R A n c sg s t (gS (unb (B.set i v)) (SS (fun j => fillL (ones i (fillL L v)) (L j)) ls rs)) (.slice (some ⟨q1, 0, none⟩) m c1) (.slice (some ⟨q2, 0, none⟩) m c2) ((w3.setCell ⟨R, i, none⟩ (.slice (some ⟨b2, o2, none⟩) yn' yc')).drew) from by
       obtain ⟨a', dk', hc', -⟩ := HChn.out.pop
       have hmb := HMid.out.bind HdU.out HdV.out (by rw [HX.out]; exact hx0)
       rw [HX.out, HVR.out] at hmb
       exact ⟨q1, q2, m, c1, c2, ls, rs, _, _, rk', a', dk', rfl, rfl, hmb, hR', hc'.bind hib hb, Nat.le_refl _, (HM3.out.bind hi HRV3.out).next ⟨rfl, rfl, rfl, Nat.le_refl _, fun _ _ => rfl⟩⟩)
      have FN := hid (show gS (unb (B.set i v)) (SS (fun j => fillL (ones i (fillL L v)) (L j)) ls rs) < gk from Nat.lt_of_lt_of_le (round_bind HdU.out HdV.out HRes.out hib hb) HN.out)
      clear hR' hoc hvne hib HM3 HRV3 hb
      go_wp2_with fail
      go_region_law (fail)
      all_goals
       go_wp2
       go_roundg (gS (unb (B.set i v)) (SS (fun j => fillL (ones i (fillL L v)) (L j)) ls rs))
       case measure => exact FN.out
       case rel => exact F.out
    ·have d0 : decide (x < 0) = false := decide_eq_false hx0
     by_cases hy0 : y < 0
     ·obtain ⟨i, hyi⟩ := neg_nat hy0
      subst hyi
      have hi : i < 48 := by omega
      have hwrap : IntKind.i64.wrap (-1 - (-1 - (i : Int))) = (i : Int) := by rw [IntKind.wrap_i64]; omega
      have hvr : vr (-1 - (i : Int)) = i := vr_at i
      have hb : bd B i = [] := by have := HdV.out.top (by rw [HY.out]; exact hy0); rw [HY.out, hvr] at this; exact this
      have j1 : (0 : Int) ≤ (i : Int) := by omega
      have j2 : (i : Int) < 48 := by omega
      have LO := hid (fun dd => l11Occurs Q g R B (some ⟨b1, o1, none⟩) xn' xc' sg u (-1 - (i : Int)) L rk (w2.drewN dd) (HM2.out.bnd.drewN dd) (HM2.out.drewN dd).q HRes.out HMid.out.vb (HRU.out.keep fun _ _ => rfl) HdU.out.fo HdU.out.vb (by omega) hy0 (by rw [hvr]; exact hb))
      have HVR := hid hvr
      clear hul hvl hucap hvcap hvr
      go_wp2_with fail
      go_quiet (fail)
      go_wp2_with fail
      refine (LO.out _).mono ?_
      rintro e w3 ⟨he, bb⟩
      have HM3 := hid ((HM2.out.drewN nq).next bb)
      have HRU3 := hid ((RdQ.keep (w := w2) (w' := w2.drewN nq) (fun _ _ => rfl) HRU.out).keep (w' := w3) (Keep.below bb (HM2.out.drewN nq).q))
      have cu3 : w3.cell? ⟨b2, o2, none⟩ = some (.int .i64 (-1 - (i : Int))) := (bb.cell (p := ⟨b2, o2, none⟩) (HM2.out.q b2 hqb2)).trans cv
      clear bb LO cu cv HRU HRV
      by_cases hoc : (-1 - (i : Int)) ∈ fillL L u
      ·rw [decide_eq_true hoc] at he
       subst he
       have F := hid (show AnsMeet w Q g R sg s t (.returned (.bool false)) w3 from ⟨false, B, rfl, HM3.out.bnd, HM3.out.gr, fun h => (by cases h), fun _ => fun θ hθ => HMid.out.swap.occurs HdV.out HdU.out HRes.out (by rw [HY.out]; exact hy0) (by rw [HX.out, HY.out]; exact fun e => hxy e.symm) (by rw [HY.out]; exact hoc) θ ⟨hθ.1, hθ.2.symm⟩⟩)
       clear HM3 HRU3 cu3 hoc
       go_wp2
       try rw [Exit.noGoto_ret]
       go_ret
       exact F.out
      ·rw [decide_eq_false hoc] at he
       subst he
       have cg3 : w3.cell? ⟨g, 0, none⟩ = some (.slice (some ⟨R, 0, none⟩) 48 48) := HM3.out.bnd.top
       obtain ⟨V, vn, vc, cV3, -⟩ := HM3.out.bnd.at hi
       have fV3 : w3.frozen? ⟨R, i, none⟩ = false := HM3.out.bnd.free i
       have hvne : u ≠ [] := fun e => by have := HdU.out.fo; rw [e] at this; exact absurd this.none (by simp)
       obtain ⟨rk', hR'⟩ := HRes.out.bind (by rw [HMid.out.bl]; exact hi) hb HdU.out.fo hoc
       have hib : i < B.length := by rw [HMid.out.bl]; exact hi
       have F := hid (show HeadM w Q g R A n c sg s t (gS (unb (B.set i u)) (SS (fun j => fillL (ones i (fillL L u)) (L j)) ls rs)) (.slice (some ⟨q1, 0, none⟩) m c1) (.slice (some ⟨q2, 0, none⟩) m c2) ((w3.setCell ⟨R, i, none⟩ (.slice (some ⟨b1, o1, none⟩) xn' xc')).drew) from by
        obtain ⟨a', dk', hc', -⟩ := HChn.out.pop
        have hmb := (HMid.out.swap.bind HdV.out HdU.out (by rw [HY.out]; exact hy0)).swap
        rw [HY.out, HVR.out] at hmb
        exact ⟨q1, q2, m, c1, c2, ls, rs, _, _, rk', a', dk', rfl, rfl, hmb, hR', hc'.bind hib hb, Nat.le_refl _, (HM3.out.bind hi HRU3.out).next ⟨rfl, rfl, rfl, Nat.le_refl _, fun _ _ => rfl⟩⟩)
       have FN := hid (show gS (unb (B.set i u)) (SS (fun j => fillL (ones i (fillL L u)) (L j)) ls rs) < gk from Nat.lt_of_lt_of_le (by have h9 := round_bind (ls := rs) (rs := ls) HdV.out HdU.out HRes.out hib hb; rw [SS_comm, SS_comm L] at h9; exact h9) HN.out)
       clear hR' hoc hvne hib HM3 HRU3 hb
       go_wp2_with fail
       go_region_law (fail)
       all_goals
        go_wp2
        go_roundg (gS (unb (B.set i u)) (SS (fun j => fillL (ones i (fillL L u)) (L j)) ls rs))
        case measure => exact FN.out
        case rel => exact F.out
     ·have d1 : decide (y < 0) = false := decide_eq_false hy0
      have e2 : (x != y) = true := by simp [hxy]
      have F := hid (show ∀ dd, AnsMeet w Q g R sg s t (.returned (.bool false)) (w2.drewN dd) from fun dd => ⟨false, B, rfl, HM2.out.bnd.drewN dd, (HM2.out.drewN dd).gr, fun h => (by cases h), fun _ => HMid.out.clash HdU.out HdV.out (by rw [HX.out]; exact Int.not_lt.1 hx0) (by rw [HY.out]; exact Int.not_lt.1 hy0) (by rw [HX.out, HY.out]; exact hxy)⟩)
      clear hul hvl hucap hvcap
      go_wp2_with fail
      go_quiet (fail)
      go_wp2_with fail
      go_quiet (fail)
      go_wp2
      try rw [Exit.noGoto_ret]
      go_ret
      rw [World.drewN_drewN]
      exact F.out _
end meetSpec
end
section
open Go.Lib (hid)
namespace look
open Go.RowKit base ints marks app sym segs fillMath
set_option maxRecDepth 100000
theorem varTerm (i : Int) (w : World) (h0 : 0 ≤ i) (h1 : i ≤ 1000) :
  Calls Tryz.prog 134 #[.int .i64 i] w (AnsList w [-1 - i]) := by
 have F : AnsList w [-1 - i] (.returned (.slice (some ⟨w.heap.size, 0, none⟩) 1 1)) (w.alloc (.cells #[.int .i64 (-1 - i)] 2)) :=
  ⟨_, 1, 1, rfl, Own.of_row (Row.new _ _ _) rfl rfl (Nat.le_refl _) (by omega) (Nat.le_refl _) (fun j hj => by
   have e : j = 0 := by omega
   subst e
   rfl), (Below.refl _ _).alloc (Nat.le_refl _) _⟩
 have HF := hid F
 clear F
 go_enter Tryz.func134, Tryz.ntmps134
 go_wp2
 go_ret
 exact HF.out
def AnsLook (B : Nat) (w : World) (ys : List Int) (e : Ending) (w' : World) : Prop := ∃ A n c, e = .returned (.slice A n c) ∧ Seg w' w'.heap.size A n ys ∧ Cap A n c ∧ (∀ k, blk A = some k → k < B ∨ w.heap.size ≤ k) ∧ Below w.heap.size w w'
def Looks (g : Nat) (lb : Array Value) (w : World) (L : Nat → List Int) (N : Nat) : Prop :=
 ∀ (W : World) (i : Nat), Below w.heap.size w W → i < N → Calls Tryz.prog g (#[.int .i64 (i : Int)] ++ lb) W (AnsLook w.heap.size W (L i))
theorem Looks.next {g : Nat} {lb : Array Value} {w w' : World} {L : Nat → List Int} {N : Nat} (h : Looks g lb w L N) (hb : Below w.heap.size w w') : Looks g lb w' L N :=
 fun W i hW hi => (h W i (next_trans hb hW) hi).mono fun _ _ ⟨A, n, c, he, h1, h2, h3, h4⟩ => ⟨A, n, c, he, h1, h2, fun k hk => by have := h3 k hk; have := hb.size; omega, h4⟩
theorem own_cap {w : World} {base : Nat} {A : Option Addr} {n c : Nat} {xs : List Int} (h : Own w base (.slice A n c) xs) : Cap A n c := by
 have hl := Own.len h
 rcases own_form (n := n) (vs := xs.map (Value.int .i64)) (by rw [hl]; rw [hl] at h; exact h) with ⟨rfl, h1, rfl, _⟩ | ⟨g, cur, rfl, _, _, h1, h2, h3, _⟩
 ·exact ⟨by omega, by omega, fun _ => rfl⟩
 ·exact ⟨h1, h3, fun e => by cases e⟩
theorem look_new {w w' : World} {B : Nat} {ys : List Int} {A : Option Addr} {n c : Nat} (ho : Own w' w.heap.size (.slice A n c) ys) (hb : Below w.heap.size w w') : AnsLook B w ys (.returned (.slice A n c)) w' :=
 ⟨A, n, c, rfl, Own.seg ho, own_cap ho, fun k hk => .inr (World.ownsRow.lt ho k (by cases A with | none => cases hk | some a => exact hk)).1, hb⟩
def HeadFill (w : World) (m : Nat) (t : List Int) (L : Nat → List Int) (out i : Value) (wr : World) : Prop :=
 ∃ (k : Nat) (O : Option Addr) (on oc : Nat), k ≤ m ∧ i = .int .i64 k ∧ out = .slice O on oc ∧ Own wr w.heap.size (.slice O on oc) (fillL L (t.take k)) ∧ Below w.heap.size w wr
theorem fill_bound {L : Nat → List Int} {t : List Int} {m k : Nat} (hM : ∀ i, (L i).length ≤ 4096) (hm : t.length = m) (h60 : m ≤ 60) : (fillL L (t.take k)).length ≤ 245760 := by
 have h := fill_len (M := 4096) (by omega) hM (t.take k)
 have h2 : (t.take k).length ≤ 60 := by simp; omega
 have h3 : (t.take k).length * 4096 ≤ 60 * 4096 := Nat.mul_le_mul_right _ h2
 omega
set_option maxHeartbeats 2000000 in
theorem fill (g : Nat) (lb : Array Value) (eg : ∀ args w, (callFunc g args).run Tryz.prog w = .ok (.enter g args) w) (A : Option Addr) (m c : Nat) (t : List Int) (L : Nat → List Int) (w : World)
  (hL : Looks g lb w L 24) (h : Seg w w.heap.size A m t) (hm : m ≤ 60) (hv : ∀ x ∈ t, -24 ≤ x) (hM : ∀ i, (L i).length ≤ 4096) :
  Calls Tryz.prog 104 #[.func (.func g) #[] lb, .slice A m c] w (AnsList w (fillL L t)) := by
 have HL := hid h.1
 have HV := hid hv
 have HM := hid hM
 have HK := hid hL
 have S0 : HeadFill w m t L (.slice none 0 0) (.int .i64 0) w := ⟨0, _, _, _, Nat.zero_le _, rfl, rfl, by simpa [fillL] using Own.nil w w.heap.size, Below.refl _ _⟩
 have HS0 := hid S0
 clear S0 hv hM hL
 go_enter Tryz.func104, Tryz.ntmps104
 go_wp2
 go_loopw [5, 10] (fun out i wr => HeadFill w m t L out i wr) (fun _ i _ => m - (intOf i).toNat)
 case atStart => exact HS0.out
 case round =>
  obtain ⟨k, O, on, oc, hk, rfl, rfl, ho, hb⟩ := hrel
  clear HS0
  have hon : on ≤ 245760 := by rw [Own.len ho]; exact fill_bound HM.out HL.out hm
  by_cases hlt : k < m
  ·obtain ⟨b, off, x, rfl, hbb, hx, ex⟩ := h.spot hlt
   have hx1 : wr.cell? ⟨b, off + k, none⟩ = some (.int .i64 x) := (hb.cell (p := ⟨b, off + k, none⟩) hbb).trans hx
   have hmem : x ∈ t := by
    have hkl : k < t.length := by rw [HL.out]; exact hlt
    have := ex.out
    rw [← this]
    simp [List.getD, hkl]
   have hx24 : -24 ≤ x := HV.out x hmem
   have E := hid (fill_take (L := L) (t := t) (k := k) (by rw [HL.out]; exact hlt) ex.out)
   have hsz := hb.size
   clear hmem hx h ex
   by_cases hpos : 0 ≤ x
   ·have R := hid (rep_sym (L := L) hpos)
    go_wp2_with (at_builtin; refine app1 rfl _ _ rfl w.heap.size O on oc (fillL L (t.take k)) rfl (Own.alloc ho _) wr.heap.size 1 x rfl ((Row.new _ _ _).cell 0) (by omega) (by simp; omega) ?_; intro O' oc' w2 ho2 b2)
    have S : HeadFill w m t L (.slice O' (on + 1) oc') (.int .i64 ((k : Int) + 1)) w2 := ⟨k + 1, O', on + 1, oc', hlt, by simp, rfl, by rw [E.out, R.out]; exact ho2, (hb.alloc hsz _).trans b2⟩
    replace S := hid S
    clear ho2 b2 ho hb R E
    go_wp2
    go_roundw
    case rel => exact S.out
    case measure => simp [intOf]; omega
   ·have hneg : x < 0 := by omega
    have R := hid (rep_var (L := L) hneg)
    have hcall := HK.out wr (-1 - x).toNat hb (by omega)
    rw [show (((-1 - x).toNat : Nat) : Int) = -1 - x by omega] at hcall
    have hLM : (L (-1 - x).toNat).length ≤ 4096 := HM.out _
    generalize hys : L (-1 - x).toNat = ys at hcall R hLM
    replace hcall := hid hcall
    clear hys
    go_wp2_with (first
     | (go_at_fn g; refine hcall.out.mono ?_; rintro e w1 ⟨A', n', c', rfl, s', cap', -, bb⟩; have hn' : n' ≤ 4096 := (by rw [← s'.1]; exact hLM); have ho1 := ho.next bb; have hb1 := hb.trans (bb.mono hb.size))
     | (at_builtin; refine appAll rfl _ _ rfl w.heap.size O on oc (fillL L (t.take k)) rfl ho1 A' n' c' w1.heap.size ys rfl s' cap'.2.2 (by omega) (by omega) hb1.size ?_; intro O' oc' w2 ho2 b2))
    have S : HeadFill w m t L (.slice O' (on + n') oc') (.int .i64 ((k : Int) + 1)) w2 := ⟨k + 1, O', on + n', oc', hlt, by simp, rfl, by rw [E.out, R.out]; exact ho2, hb1.trans b2⟩
    replace S := hid S
    clear ho2 b2 ho hb R E ho1 hb1 s' cap' bb hcall
    go_wp2
    go_roundw
    case rel => exact S.out
    case measure => simp [intOf]; omega
  ·have F : AnsList w (fillL L t) (.returned (.slice O on oc)) wr := by
    rw [List.take_of_length_le (by rw [HL.out]; omega)] at ho
    exact ⟨O, on, oc, rfl, ho, hb⟩
   have HF := hid F
   clear F ho hb h
   go_wp2
   go_ret
   exact HF.out
end look
end
section
open Go.Lib (hid)
namespace fullSpec
open Go.RowKit base ints sig term sym varsOf marks app appAt segs kinds shape drawX fillMath matchMath unifMath forest triMath stk bnd Go.Proofs.YtlmofkeemlfpgaaGreat.look
set_option maxRecDepth 100000
def fl (L : Nat → List Int) (t : List Int) : List Int := if (fillL L t).length ≤ 60 then fillL L t else []
def HeadF (w : World) (L : Nat → List Int) (m : Nat) (t : List Int) (out i : Value) (wr : World) : Prop :=
 ∃ (k on oc : Nat) (O : Option Addr), k ≤ m ∧ i = .int .i64 (k : Int) ∧ out = .slice O on oc ∧ Own wr w.heap.size (.slice O on oc) (fillL L (t.take k)) ∧ on ≤ 60 ∧ Below w.heap.size w wr
theorem fl_long {L : Nat → List Int} {t : List Int} {k : Nat} (h : 60 < (fillL L (t.take k)).length) : fl L t = [] := by
 unfold fl
 rw [if_neg]
 have e : fillL L t = fillL L (t.take k) ++ fillL L (t.drop k) := by rw [← fill_append, List.take_append_drop]
 rw [e, List.length_append]
 omega
set_option maxHeartbeats 1000000 in
theorem l11Full (Q : Nat → Prop) (g R : Nat) (B : List (List Int)) (sg : List Int) (L : Nat → List Int) (rk : Nat → Nat) (hR : Res sg B L rk) (hV : ∀ i, Vb 48 (bd B i)) : ∀ (K : Nat) (A : Option Addr) (n c : Nat) (t : List Int) (w : World), Bnd w Q g R B → (∀ b, Q b → b < w.heap.size) → RdQ w Q sI [.slice A n c] t → n ≤ 1048576 → (∀ z ∈ t, z < 0 → vr z < 48 ∧ rk (vr z) < K) →
  Calls Tryz.prog 114 #[.pointer (some ⟨g, 0, none⟩), .slice A n c] w (AnsList w (fl L t)) := by
 intro K
 induction K using Nat.strongRecOn with
 | _ K IH =>
 intro A n c t w hB hQ h hn hK
 obtain ⟨hl, hcap, hspot⟩ := rdq_nums h
 have HB := hid hB
 have HQ := hid hQ
 have H := hid h
 have HR := hid hR
 have HL := hid hl
 have HK := hid hK
 have HIH := hid IH
 have HS := hid hspot
 have S0 := hid (show HeadF w L n t (.slice (some ⟨w.heap.size, 0, none⟩) 0 0) (.int .i64 0) (w.alloc (.cells #[] 2)) from ⟨0, 0, 0, _, Nat.zero_le _, rfl, rfl, own_empty w w.heap.size (Nat.le_refl _), by omega, (Below.refl _ _).alloc (Nat.le_refl _) _⟩)
 clear hB hQ h hR hK hspot IH hl
 go_enter Tryz.func114, Tryz.ntmps114
 go_wp2_with fail
 go_loopw [5, 6] (fun out i wr => HeadF w L n t out i wr) (fun _ i _ => n - (intOf i).toNat)
 case atStart => exact S0.out
 case round =>
  clear S0
  obtain ⟨k, on, oc, O, hk, rfl, rfl, hO, hon, hb⟩ := hrel
  have HOL := hid (Own.len hO)
  by_cases hlt : k < n
  ·obtain ⟨b, off, rfl, hqb, hc⟩ := HS.out (by omega)
   obtain ⟨x, hx⟩ : ∃ x, t.getD k 0 = x := ⟨_, rfl⟩
   have cx : wr.cell? ⟨b, off + k, none⟩ = some (.int .i64 x) := by
    have h9 := hc k hlt
    rw [hx] at h9
    exact (hb.cell (p := ⟨b, off + k, none⟩) (HQ.out b hqb)).trans h9
   have HE := hid (show fillL L (t.take (k + 1)) = fillL L (t.take k) ++ rep L x from fill_take (by rw [HL.out]; exact hlt) hx)
   have hxm : x ∈ t := by
    rw [← hx, List.getD_eq_getElem?_getD, List.getElem?_eq_getElem (by rw [HL.out]; exact hlt)]
    exact List.getElem_mem _
   have i0 : (0 : Int) ≤ (k : Int) := by omega
   have i1 : (k : Int) < (n : Int) := by omega
   have hsz := hb.size
   clear hx hc
   have one : ∀ (dd : Nat) (w2 : World) (O' : Option Addr) (oc' : Nat), rep L x = [x] → Own w2 w.heap.size (.slice O' (on + 1) oc') (fillL L (t.take k) ++ [x]) → Below w.heap.size ((wr.drewN dd).alloc (.cells #[.int .i64 x] 2)) w2 →
     (on + 1 ≤ 60 → HeadF w L n t (.slice O' (on + 1) oc') (.int .i64 ((k : Int) + 1)) w2) ∧ (60 < on + 1 → AnsList w (fl L t) (.returned (.slice (some ⟨w2.heap.size, 0, none⟩) 0 0)) (w2.alloc (.cells #[] 2))) := by
    intro dd w2 O' oc' hrep ho2 b2
    have hb2 : Below w.heap.size w w2 := ((base.below_drewN hb dd).alloc hsz _).trans b2
    refine ⟨fun h60 => ⟨k + 1, on + 1, oc', O', hlt, by simp, rfl, by rw [HE.out, hrep]; exact ho2, h60, hb2⟩, fun h60 => ?_⟩
    rw [fl_long (k := k + 1) (by rw [HE.out, hrep, List.length_append, ← HOL.out]; simpa using h60)]
    exact ⟨_, 0, 0, rfl, own_empty w2 w.heap.size hb2.size, hb2.alloc hb2.size _⟩
   by_cases hx0 : x < 0
   ·obtain ⟨hv48, hrk⟩ := HK.out x hxm hx0
    obtain ⟨i, rfl⟩ : ∃ i : Nat, x = -1 - (i : Int) := ⟨(-1 - x).toNat, by omega⟩
    have hvr : vr (-1 - (i : Int)) = i := vr_at i
    rw [hvr] at hv48 hrk
    have hwrap : IntKind.i64.wrap (-1 - (-1 - (i : Int))) = (i : Int) := by rw [IntKind.wrap_i64]; omega
    have j1 : (0 : Int) ≤ (i : Int) := by omega
    have j2 : (i : Int) < 48 := by omega
    have HBr := hid (HB.out.next hb HQ.out)
    obtain ⟨V, vn, vc, cV, rV⟩ := HBr.out.at hv48
    have hvl : (bd B i).length = vn := (rdq_nums rV).1
    have cg : wr.cell? ⟨g, 0, none⟩ = some (.slice (some ⟨R, 0, none⟩) 48 48) := HBr.out.top
    by_cases hvn : vn = 0
    ·subst hvn
     have hbe : bd B i = [] := List.length_eq_zero_iff.1 hvl
     have ONE := hid (fun dd w2 O' oc' => one dd w2 O' oc' (by rw [rep_vr hx0, hvr, HR.out.free i hbe]; rfl))
     have hOd := hid (fun dd => Own.drewN hO dd)
     clear one hvl rV hbe hb hO HE
     by_cases h60 : on + 1 ≤ 60
     ·have i4 : ¬ (60 : Int) < (on : Int) + 1 := by omega
      go_wp2_with fail
      go_quiet (fail)
      go_wp2_with (at_builtin; refine app1 rfl _ _ rfl w.heap.size O on oc _ rfl (Own.alloc (hOd.out nq) _) wr.heap.size 1 (-1 - (i : Int)) rfl ((Row.new _ _ _).cell 0) (by omega) (by simp; omega) ?_; intro O' oc' w2 ho2 b2; have G := hid ((ONE.out nq w2 O' oc' ho2 b2).1 h60); clear ho2 b2 hOd HOL ONE)
      go_roundw
      case rel => exact G.out
      case measure => simp [intOf]; omega
     ·have i4 : (60 : Int) < (on : Int) + 1 := by omega
      have h61 : 60 < on + 1 := by omega
      go_wp2_with fail
      go_quiet (fail)
      go_wp2_with (at_builtin; refine app1 rfl _ _ rfl w.heap.size O on oc _ rfl (Own.alloc (hOd.out nq) _) wr.heap.size 1 (-1 - (i : Int)) rfl ((Row.new _ _ _).cell 0) (by omega) (by simp; omega) ?_; intro O' oc' w2 ho2 b2; have G := hid ((ONE.out nq w2 O' oc' ho2 b2).2 h61); clear ho2 b2 hOd HOL ONE)
      try rw [Exit.noGoto_ret]
      go_ret
      exact G.out
    ·have hbn : bd B i ≠ [] := fun e => hvn (by rw [← hvl, e]; rfl)
     have hv0 : 0 < vn := by omega
     have hw0 : ¬ vn = 0 := hvn
     have i7 : ((vn : Int) == 0) = false := by simpa using hvn
     have i8 : decide ((i : Int) ≤ -1) = false := decide_eq_false (by omega)
     have hLi : L i = fillL L (bd B i) := HR.out.bnd i hbn
     have hfo := (HR.out.fo i hbn).fill HR.out.sb
     have HREP := hid (show rep L (-1 - (i : Int)) = fillL L (bd B i) by rw [rep_vr hx0, hvr, hLi])
     have LF := hid (fun dd => HIH.out (rk i) hrk V vn vc (bd B i) (wr.drewN dd).drew (HBr.out.keep rfl rfl fun _ _ => rfl) (fun b' hb' => Nat.lt_of_lt_of_le (HQ.out b' hb') hsz) (rV.keep fun _ _ => rfl) (by have := (hV i).1; omega) (fun z hz h0 => ⟨(hV i).vr hz h0, HR.out.rnk i z hz h0⟩))
     have zg : g < wr.heap.size := HBr.out.lt.1
     have zR : R < wr.heap.size := HBr.out.lt.2
     have zb : b < wr.heap.size := Nat.lt_of_lt_of_le (HQ.out b hqb) hsz
     have HO := hid hO
     have HBB := hid hb
     obtain ⟨Z, hZ⟩ : ∃ Z, fillL L (bd B i) = Z := ⟨_, rfl⟩
     have hfl : fl L (bd B i) = if Z.length ≤ 60 then Z else [] := by unfold fl; rw [hZ]
     rw [hfl] at LF
     rw [hZ] at HREP
     have hz1 : 1 ≤ Z.length := by rw [← hZ]; exact hfo.pos
     clear one hvl rV hbn hb hO hLi hfo hZ hfl hvr hvn
     by_cases hz60 : Z.length ≤ 60
     ·rw [if_pos hz60] at LF
      obtain ⟨zl, hzl⟩ : ∃ zl, Z.length = zl := ⟨_, rfl⟩
      rw [hzl] at hz1 hz60
      have HZL := hid hzl
      clear hzl
      have R1 := hid (fun (w3 w4 : World) (O' : Option Addr) (oc' : Nat) (b3 : Below wr.heap.size wr w3) (ho : Own w4 w.heap.size (.slice O' (on + zl) oc') (fillL L (t.take k) ++ Z)) (b4 : Below w.heap.size w3 w4) =>
       (show (on + zl ≤ 60 → HeadF w L n t (.slice O' (on + zl) oc') (.int .i64 ((k : Int) + 1)) w4) ∧ (60 < on + zl → AnsList w (fl L t) (.returned (.slice (some ⟨w4.heap.size, 0, none⟩) 0 0)) (w4.alloc (.cells #[] 2))) from by
        have hb2 : Below w.heap.size w w4 := (HBB.out.trans (b3.mono hsz)).trans b4
        refine ⟨fun h60 => ⟨k + 1, on + zl, oc', O', hlt, by simp, rfl, by rw [HE.out, HREP.out]; exact ho, h60, hb2⟩, fun h60 => ?_⟩
        rw [fl_long (k := k + 1) (by rw [HE.out, HREP.out, List.length_append, ← HOL.out, HZL.out]; exact h60)]
        exact ⟨_, 0, 0, rfl, own_empty w4 w.heap.size hb2.size, hb2.alloc hb2.size _⟩))
      have i5 : ¬ (zl : Int) = 0 := by omega
      have i6 : ((zl : Int) == 0) = false := by simpa using i5
      by_cases h60 : on + zl ≤ 60
      ·have i4 : ¬ (60 : Int) < (on : Int) + (zl : Int) := by omega
       go_wp2_with fail
       go_quiet (fail)
       go_wp2_with fail
       go_region_held3 (fun w' => w'.cell? ⟨g, 0, none⟩ = some (.slice (some ⟨R, 0, none⟩) 48 48) ∧ w'.cell? ⟨R, i, none⟩ = some (.slice V vn vc) ∧ w'.cell? ⟨b, off + k, none⟩ = some (.int .i64 (-1 - (i : Int))))
        (go_keep)
        (first
         | (go_at_call 114; refine (LF.out nq).mono ?_; rintro e w3 ⟨Y, yn, yc, rfl, oY, bb⟩; obtain rfl : yn = zl := (Own.len oY).trans HZL.out; have b3 : Below wr.heap.size wr w3 := next_trans ((base.below_drewN (Below.refl wr.heap.size wr) nq).drew) bb; have m0 : w3.cell? ⟨g, 0, none⟩ = some (.slice (some ⟨R, 0, none⟩) 48 48) := (b3.cell (p := ⟨g, 0, none⟩) zg).trans cg; have m1 : w3.cell? ⟨R, i, none⟩ = some (.slice V vn vc) := (b3.cell (p := ⟨R, i, none⟩) zR).trans cV; have m2 : w3.cell? ⟨b, off + k, none⟩ = some (.int .i64 (-1 - (i : Int))) := (b3.cell (p := ⟨b, off + k, none⟩) zb).trans cx))
       have hO3 := Own.next HO.out b3
       clear LF m0 m1 m2 bb
       go_wp2_with (at_builtin; refine appAll rfl _ _ rfl w.heap.size O on oc _ rfl hO3 Y yn yc _ Z rfl (Own.seg oY) (own_cap oY).2.2 (by omega) (by omega) (Nat.le_trans hsz b3.size) ?_; intro O' oc' w4 ho4 b4; have G := hid ((R1.out w3 w4 O' oc' b3 ho4 b4).1 h60); clear ho4 b4 hO3 oY R1)
       go_roundw
       case rel => exact G.out
       case measure => simp [intOf]; omega
      ·have i4 : (60 : Int) < (on : Int) + (zl : Int) := by omega
       have h61 : 60 < on + zl := by omega
       go_wp2_with fail
       go_quiet (fail)
       go_wp2_with fail
       go_region_held3 (fun w' => w'.cell? ⟨g, 0, none⟩ = some (.slice (some ⟨R, 0, none⟩) 48 48) ∧ w'.cell? ⟨R, i, none⟩ = some (.slice V vn vc) ∧ w'.cell? ⟨b, off + k, none⟩ = some (.int .i64 (-1 - (i : Int))))
        (go_keep)
        (first
         | (go_at_call 114; refine (LF.out nq).mono ?_; rintro e w3 ⟨Y, yn, yc, rfl, oY, bb⟩; obtain rfl : yn = zl := (Own.len oY).trans HZL.out; have b3 : Below wr.heap.size wr w3 := next_trans ((base.below_drewN (Below.refl wr.heap.size wr) nq).drew) bb; have m0 : w3.cell? ⟨g, 0, none⟩ = some (.slice (some ⟨R, 0, none⟩) 48 48) := (b3.cell (p := ⟨g, 0, none⟩) zg).trans cg; have m1 : w3.cell? ⟨R, i, none⟩ = some (.slice V vn vc) := (b3.cell (p := ⟨R, i, none⟩) zR).trans cV; have m2 : w3.cell? ⟨b, off + k, none⟩ = some (.int .i64 (-1 - (i : Int))) := (b3.cell (p := ⟨b, off + k, none⟩) zb).trans cx))
       have hO3 := Own.next HO.out b3
       clear LF m0 m1 m2 bb
       go_wp2_with (at_builtin; refine appAll rfl _ _ rfl w.heap.size O on oc _ rfl hO3 Y yn yc _ Z rfl (Own.seg oY) (own_cap oY).2.2 (by omega) (by omega) (Nat.le_trans hsz b3.size) ?_; intro O' oc' w4 ho4 b4; have G := hid ((R1.out w3 w4 O' oc' b3 ho4 b4).2 h61); clear ho4 b4 hO3 oY R1)
       try rw [Exit.noGoto_ret]
       go_ret
       exact G.out
     ·rw [if_neg hz60] at LF
      have HLO := hid (show fl L t = [] from fl_long (k := k + 1) (by rw [HE.out, HREP.out, List.length_append]; omega))
      go_wp2_with fail
      go_quiet (fail)
      go_wp2_with fail
      go_region_held3 (fun w' => w'.cell? ⟨g, 0, none⟩ = some (.slice (some ⟨R, 0, none⟩) 48 48) ∧ w'.cell? ⟨R, i, none⟩ = some (.slice V vn vc) ∧ w'.cell? ⟨b, off + k, none⟩ = some (.int .i64 (-1 - (i : Int))))
       (go_keep)
       (first
        | (go_at_call 114; refine (LF.out nq).mono ?_; rintro e w3 ⟨Y, yn, yc, rfl, oY, bb⟩; obtain rfl : yn = 0 := Own.len oY; have b3 : Below wr.heap.size wr w3 := next_trans ((base.below_drewN (Below.refl wr.heap.size wr) nq).drew) bb; have m0 : w3.cell? ⟨g, 0, none⟩ = some (.slice (some ⟨R, 0, none⟩) 48 48) := (b3.cell (p := ⟨g, 0, none⟩) zg).trans cg; have m1 : w3.cell? ⟨R, i, none⟩ = some (.slice V vn vc) := (b3.cell (p := ⟨R, i, none⟩) zR).trans cV; have m2 : w3.cell? ⟨b, off + k, none⟩ = some (.int .i64 (-1 - (i : Int))) := (b3.cell (p := ⟨b, off + k, none⟩) zb).trans cx))
      have hb3 : Below w.heap.size w w3 := HBB.out.trans (b3.mono hsz)
      have F := hid (show AnsList w (fl L t) (.returned (.slice (some ⟨w3.heap.size, 0, none⟩) 0 0)) (w3.alloc (.cells #[] 2)) from by rw [HLO.out]; exact ⟨_, 0, 0, rfl, own_empty w3 w.heap.size hb3.size, hb3.alloc hb3.size _⟩)
      clear LF m0 m1 m2 bb hb3 b3 oY
      go_wp2
      try rw [Exit.noGoto_ret]
      go_ret
      exact F.out
   ·have d0 : decide (0 ≤ x) = true := decide_eq_true (Int.not_lt.1 hx0)
    have d1 : (0 : Int) ≤ x := Int.not_lt.1 hx0
    have ONE := hid (fun dd w2 O' oc' => one dd w2 O' oc' (rep_sym d1))
    have hOd := hid (fun dd => Own.drewN hO dd)
    clear one hb hO HE
    by_cases h60 : on + 1 ≤ 60
    ·have i4 : ¬ (60 : Int) < (on : Int) + 1 := by omega
     go_wp2_with fail
     go_quiet (fail)
     go_wp2_with (at_builtin; refine app1 rfl _ _ rfl w.heap.size O on oc _ rfl (Own.alloc (hOd.out nq) _) wr.heap.size 1 x rfl ((Row.new _ _ _).cell 0) (by omega) (by simp; omega) ?_; intro O' oc' w2 ho2 b2; have G := hid ((ONE.out nq w2 O' oc' ho2 b2).1 h60); clear ho2 b2 hOd HOL ONE)
     go_roundw
     case rel => exact G.out
     case measure => simp [intOf]; omega
    ·have i4 : (60 : Int) < (on : Int) + 1 := by omega
     have h61 : 60 < on + 1 := by omega
     go_wp2_with fail
     go_quiet (fail)
     go_wp2_with (at_builtin; refine app1 rfl _ _ rfl w.heap.size O on oc _ rfl (Own.alloc (hOd.out nq) _) wr.heap.size 1 x rfl ((Row.new _ _ _).cell 0) (by omega) (by simp; omega) ?_; intro O' oc' w2 ho2 b2; have G := hid ((ONE.out nq w2 O' oc' ho2 b2).2 h61); clear ho2 b2 hOd HOL ONE)
     try rw [Exit.noGoto_ret]
     go_ret
     exact G.out
  ·have hkn : k = n := by omega
   have i1 : ¬ (k : Int) < (n : Int) := by omega
   have e : t.take k = t := List.take_of_length_le (by rw [HL.out]; omega)
   rw [e] at hO
   have F := hid (show AnsList w (fl L t) (.returned (.slice O on oc)) wr from ⟨O, on, oc, rfl, by unfold fl; rw [if_pos (by rw [← Own.len hO]; exact hon)]; exact hO, hb⟩)
   clear hO hb e HOL hkn
   go_wp2
   go_ret
   exact F.out
def HeadW (w : World) (m : Nat) (t : List Int) (out i : Value) (wr : World) : Prop :=
 ∃ (k oc : Nat) (O : Option Addr), k ≤ m ∧ i = .int .i64 (k : Int) ∧ out = .slice O k oc ∧ Own wr w.heap.size (.slice O k oc) (shiftL 24 (t.take k)) ∧ Below w.heap.size w wr
set_option maxHeartbeats 1000000 in
theorem l11Away (A : Option Addr) (n c : Nat) (t : List Int) (w : World) (h : Seg w w.heap.size A n t) (hn : n ≤ 1048576) (hv : ∀ x ∈ t, -1000 ≤ x) :
  Calls Tryz.prog 113 #[.slice A n c, .int .i64 24] w (AnsList w (shiftL 24 t)) := by
 have HL := hid h.1
 have H := hid h
 have HV := hid hv
 have S0 := hid (show HeadW w n t (.slice (some ⟨w.heap.size, 0, none⟩) 0 0) (.int .i64 0) (w.alloc (.cells #[] 2)) from ⟨0, 0, _, Nat.zero_le _, rfl, rfl, own_empty w w.heap.size (Nat.le_refl _), (Below.refl _ _).alloc (Nat.le_refl _) _⟩)
 clear h hv
 go_enter Tryz.func113, Tryz.ntmps113
 go_wp2_with fail
 go_loopw [5, 6] (fun out i wr => HeadW w n t out i wr) (fun _ i _ => n - (intOf i).toNat)
 case atStart => exact S0.out
 case round =>
  clear S0
  obtain ⟨k, oc, O, hk, rfl, rfl, hO, hb⟩ := hrel
  by_cases hlt : k < n
  ·obtain ⟨b, off, x, rfl, hbb, hx, ex⟩ := H.out.spot hlt
   have cx : wr.cell? ⟨b, off + k, none⟩ = some (.int .i64 x) := (hb.cell (p := ⟨b, off + k, none⟩) hbb).trans hx
   have hE := shift_take (k := 24) (show k < t.length by rw [HL.out]; exact hlt) ex.out
   have hxm : x ∈ t := by
    rw [← ex.out, List.getD_eq_getElem?_getD, List.getElem?_eq_getElem (by rw [HL.out]; exact hlt)]
    exact List.getElem_mem _
   have hxv := HV.out x hxm
   have i0 : (0 : Int) ≤ (k : Int) := by omega
   have i1 : (k : Int) < (n : Int) := by omega
   have hsz := hb.size
   have HE := hid hE
   have HO := hid hO
   have HBB := hid hb
   clear hx hE hO hb hxm
   by_cases hx0 : x < 0
   ·have e1 : sh 24 x = x - 24 := by unfold sh; rw [if_pos hx0]
    have R := hid (fun (w2 : World) (O' : Option Addr) (oc' : Nat) (ho : Own w2 w.heap.size (.slice O' (k + 1) oc') (shiftL 24 (t.take k) ++ [x - 24])) (b2 : Below w.heap.size (wr.alloc (.cells #[.int .i64 (x - 24)] 2)) w2) =>
     (show HeadW w n t (.slice O' (k + 1) oc') (.int .i64 ((k : Int) + 1)) w2 from ⟨k + 1, oc', O', hlt, by simp, rfl, by rw [HE.out, e1]; exact ho, (HBB.out.alloc hsz _).trans b2⟩))
    clear e1
    go_wp2_with (at_builtin; refine app1 rfl _ _ rfl w.heap.size O k oc _ rfl (Own.alloc HO.out _) wr.heap.size 1 (x - 24) rfl ((Row.new _ _ _).cell 0) (by omega) (by simp; omega) ?_; intro O' oc' w2 ho2 b2; have G := hid (R.out w2 O' oc' ho2 b2); clear ho2 b2 R)
    go_roundw
    case rel => exact G.out
    case measure => simp [intOf]; omega
   ·have e1 : sh 24 x = x := by unfold sh; rw [if_neg hx0]
    have d0 : decide (x < 0) = false := decide_eq_false hx0
    have R := hid (fun (w2 : World) (O' : Option Addr) (oc' : Nat) (ho : Own w2 w.heap.size (.slice O' (k + 1) oc') (shiftL 24 (t.take k) ++ [x])) (b2 : Below w.heap.size (wr.alloc (.cells #[.int .i64 x] 2)) w2) =>
     (show HeadW w n t (.slice O' (k + 1) oc') (.int .i64 ((k : Int) + 1)) w2 from ⟨k + 1, oc', O', hlt, by simp, rfl, by rw [HE.out, e1]; exact ho, (HBB.out.alloc hsz _).trans b2⟩))
    clear e1
    go_wp2_with (at_builtin; refine app1 rfl _ _ rfl w.heap.size O k oc _ rfl (Own.alloc HO.out _) wr.heap.size 1 x rfl ((Row.new _ _ _).cell 0) (by omega) (by simp; omega) ?_; intro O' oc' w2 ho2 b2; have G := hid (R.out w2 O' oc' ho2 b2); clear ho2 b2 R)
    go_roundw
    case rel => exact G.out
    case measure => simp [intOf]; omega
  ·have hkn : k = n := by omega
   have i1 : ¬ (k : Int) < (n : Int) := by omega
   have e : t.take k = t := List.take_of_length_le (by rw [HL.out]; omega)
   rw [e] at hO
   have F := hid (show AnsList w (shiftL 24 t) (.returned (.slice O k oc)) wr from ⟨O, k, oc, rfl, hO, hb⟩)
   clear hO hb e hkn
   go_wp2
   go_ret
   exact F.out
end fullSpec
end
section
namespace putMath
open sig term termOk termFacts endAt sub args depth termMath posMath
def putL (t : List Int) (a i : Nat) (u : List Int) : List Int := t.take a ++ (u ++ t.drop (a + i))
section
variable {sg t u : List Int} {a : Nat}
end
end putMath
end
section
namespace substOk
open Go.RowKit base ints sig term termOk marks app sym sub segs segsHelp termFacts varsMath varsOf fillMath Go.Proofs.YtlmofkeemlfpgaaGreat.look
set_option maxRecDepth 100000
def goodB (sg t : List Int) : Bool := decide (t.length = 0) || termOkB sg t
def HeadSO (w : World) (A : Option Addr) (n c : Nat) (S : Option Addr) (m c' : Nat) (sg : List Int) (ss : List (List Int)) (i : Value) (wr : World) : Prop :=
 ∃ k : Nat, k ≤ m ∧ i = .int .i64 k ∧ (∀ j, j < k → goodB sg (ss.getD j []) = true) ∧ Row wr w.heap.size 30 #[.slice A n c] ∧ Row wr (w.heap.size + 1) 156 #[.slice S m c'] ∧ Below w.heap.size w wr
theorem headSO_step {w wr : World} {A : Option Addr} {n c : Nat} {S : Option Addr} {m c' : Nat} {sg : List Int} {ss : List (List Int)} {k : Nat} (hk : k < m) (hlow : ∀ j, j < k → goodB sg (ss.getD j []) = true) (hg : goodB sg (ss.getD k []) = true)
  (r1 : Row wr w.heap.size 30 #[.slice A n c]) (r2 : Row wr (w.heap.size + 1) 156 #[.slice S m c']) (hb : Below w.heap.size w wr) : HeadSO w A n c S m c' sg ss (.int .i64 ((k : Int) + 1)) wr :=
 ⟨k + 1, hk, by simp, fun j hj => by
  by_cases e : j = k
  ·subst e; exact hg
  ·exact hlow j (by omega), r1, r2, hb⟩
end substOk
end
section
open Go.Lib (hid)
namespace gives
open Go.RowKit base ints sig term termOk marks app sym sub segs segsHelp termFacts varsMath varsOf fillMath Go.Proofs.YtlmofkeemlfpgaaGreat.look substOk
set_option maxRecDepth 100000
def givesL (ss : List (List Int)) (i : Nat) : List Int := if (ss.getD i []).length = 0 then vt i else ss.getD i []
theorem gives_var {ss : List (List Int)} {i : Nat} (h : (ss.getD i []).length = 0) : givesL ss i = vt i := by unfold givesL; rw [if_pos h]
theorem gives_term {ss : List (List Int)} {i : Nat} (h : ¬ (ss.getD i []).length = 0) : givesL ss i = ss.getD i [] := by unfold givesL; rw [if_neg h]
theorem gives_out {ss : List (List Int)} {i : Nat} (h : ¬ i < ss.length) : givesL ss i = vt i := gives_var (by simp [List.getD, h])
theorem gives_pos (ss : List (List Int)) (i : Nat) : 1 ≤ (givesL ss i).length := by
 unfold givesL
 split
 ·simp [vt]
 ·omega
set_option maxHeartbeats 2000000 in
theorem l2Gives (S : Option Addr) (m c : Nat) (ss : List (List Int)) (i : Nat) (w : World) (h : Segs w w.heap.size S m ss) (ht : tot ss ≤ 1048576) (hi : i ≤ 1048576) :
  Calls Tryz.prog 172 #[.agg #[.slice S m c], .int .i64 (i : Int)] w (AnsList w (givesL ss i)) := by
 have hm : m ≤ 1048576 := tot_len h.1 ht
 have HT := hid (tot_each ht)
 have HL := hid h.1
 clear ht
 have bel : Below w.heap.size w (w.alloc (.cells #[.slice S m c] 156)) := (Below.refl _ _).alloc (Nat.le_refl _) _
 have i0 : (0 : Int) ≤ (i : Int) := by omega
 have var : ∀ (hv : givesL ss i = vt i), AnsList w (givesL ss i) (.returned (.slice (some ⟨w.heap.size + 1, 0, none⟩) 1 1)) ((w.alloc (.cells #[.slice S m c] 156)).alloc (.cells #[.int .i64 (-1 - (i : Int))] 2)) := fun hv => by
  refine ⟨_, 1, 1, rfl, ?_, bel.alloc (by simp) _⟩
  rw [hv]
  have := Own.of_row (base := w.heap.size) (n := 1) (c := 1) (xs := vt i) (Row.new (w.alloc (.cells #[.slice S m c] 156)) 2 #[.int .i64 (-1 - (i : Int))]) rfl rfl (Nat.le_refl _) (by omega) (by simp) (fun j hj => by
   have e : j = 0 := by omega
   subst e
   rfl)
  simpa using this
 have VAR := hid var
 clear var
 by_cases hlt : i < m
 ·obtain ⟨b, off, A', n', cc, rfl, hbB, hx, hseg, hcap⟩ := h.spot hlt
  have hx1 : (w.alloc (.cells #[.slice (some ⟨b, off, none⟩) m c] 156)).cell? ⟨b, off + i, none⟩ = some (.slice A' n' cc) := (bel.cell (p := ⟨b, off + i, none⟩) hbB).trans hx
  by_cases hz : n' = 0
  ·subst hz
   have F := hid (VAR.out (gives_var hseg.1))
   clear h hseg hcap hx bel VAR
   go_enter Tryz.func172, Tryz.ntmps172
   go_wp2
   go_ret
   exact F.out
  ·have hpos : 0 < n' := by omega
   have E := hid (gives_term (ss := ss) (i := i) (by rw [hseg.1]; exact hz))
   have L := hid (copyInts A' n' cc _ _ ((hseg.below bel).more bel.size) hcap.2.2 (by rw [← hseg.1]; exact HT.out i))
   clear h hseg hcap hx VAR
   go_enter Tryz.func172, Tryz.ntmps172
   go_wp2_with fail
   refine L.out.mono ?_
   rintro e w1 ⟨D, dn, dc, rfl, o1, b1⟩
   have F : AnsList w (givesL ss i) (.returned (.slice D dn dc)) w1 := ⟨D, dn, dc, rfl, by rw [E.out]; exact Own.lower o1 bel.size, next_trans bel b1⟩
   have HF := hid F
   clear F o1 b1 bel L
   go_wp2
   go_ret
   exact HF.out
 ·have hge : ¬ (i : Int) < (m : Int) := by omega
  have F := hid (VAR.out (gives_out (by rw [HL.out]; exact hlt)))
  clear h bel VAR
  go_enter Tryz.func172, Tryz.ntmps172
  go_wp2
  go_ret
  exact F.out
theorem lookupIn (S : Option Addr) (m c : Nat) (w : World) :
  Calls Tryz.prog 181 #[.agg #[.slice S m c]] w fun e w' => e = .returned (.func (.func 193) #[] #[.pointer (some ⟨w.heap.size, 0, none⟩)]) ∧ w' = w.alloc (.cells #[.slice S m c] 156) := by
 have hmf : ∀ (fn : Fn) (first cap : Array Value) (w : World), (Instr.makeFunc fn first cap).run Tryz.prog w = .ok (.func fn first cap) w := fun _ _ _ _ => rfl
 go_enter Tryz.func181, Tryz.ntmps181
 go_wp2
 go_ret
 exact ⟨rfl, rfl⟩
set_option maxHeartbeats 2000000 in
theorem lookSubstC (B : Nat) (S : Option Addr) (m c : Nat) (ss : List (List Int)) (w : World) (hB : B < w.heap.size) (hc : w.cell? ⟨B, 0, none⟩ = some (.slice S m c)) (h : Segs w w.heap.size S m ss) (hm : m ≤ 1048576) :
  Looks 193 #[.pointer (some ⟨B, 0, none⟩)] w (givesL ss) 24 := by
 intro W i hb hi
 have cB : W.cell? ⟨B, 0, none⟩ = some (.slice S m c) := (hb.cell (p := ⟨B, 0, none⟩) hB).trans hc
 have h1 := h.below hb
 have HL := hid h.1
 have i0 : (0 : Int) ≤ (i : Int) := by omega
 have LV := hid (varTerm (i : Int) W (by omega) (by omega))
 have hws := hb.size
 clear hB hc h hb
 show Calls Tryz.prog 193 #[.int .i64 (i : Int), .pointer (some ⟨B, 0, none⟩)] W _
 by_cases hlt : i < m
 ·obtain ⟨b, off, A', n', cc, rfl, hbB, hx, hseg0, hcap⟩ := h1.spot hlt
  have hseg := hseg0.more hws
  by_cases hz : n' = 0
  ·subst hz
   have E := hid (gives_var (ss := ss) (i := i) hseg.1)
   clear h1 hseg hseg0 hcap
   go_enter Tryz.func193, Tryz.ntmps193
   go_wp2_with fail
   refine LV.out.mono ?_
   rintro e w1 ⟨D, dn, dc, rfl, o1, b1⟩
   have F : AnsLook w.heap.size W (givesL ss i) (.returned (.slice D dn dc)) w1 := by rw [E.out]; exact look_new o1 b1
   have HF := hid F
   clear F o1 b1 LV
   go_wp2
   go_ret
   exact HF.out
  ·have hpos : 0 < n' := by omega
   have F : AnsLook w.heap.size W (givesL ss i) (.returned (.slice A' n' cc)) W := ⟨A', n', cc, rfl, by rw [gives_term (by rw [hseg.1]; exact hz)]; exact hseg, hcap, fun k hk => .inl (by obtain ⟨b2, off2, e2, hb2, _⟩ := hseg0.2 hpos; rw [e2] at hk; have : b2 = k := Option.some.inj hk; omega), Below.refl _ _⟩
   have HF := hid F
   clear F h1 hseg hseg0 hcap LV
   go_enter Tryz.func193, Tryz.ntmps193
   go_wp2
   go_ret
   exact HF.out
 ·have hge : ¬ (i : Int) < (m : Int) := by omega
  have E := hid (gives_out (ss := ss) (i := i) (by rw [HL.out]; exact hlt))
  clear h1
  go_enter Tryz.func193, Tryz.ntmps193
  go_wp2_with fail
  refine LV.out.mono ?_
  rintro e w1 ⟨D, dn, dc, rfl, o1, b1⟩
  have F : AnsLook w.heap.size W (givesL ss i) (.returned (.slice D dn dc)) w1 := by rw [E.out]; exact look_new o1 b1
  have HF := hid F
  clear F o1 b1 LV
  go_wp2
  go_ret
  exact HF.out
theorem lookSubst (B : Nat) (S : Option Addr) (m c : Nat) (ss : List (List Int)) (w : World) (hr : Row w B 156 #[.slice S m c]) (h : Segs w w.heap.size S m ss) (hm : m ≤ 1048576) :
  Looks 193 #[.pointer (some ⟨B, 0, none⟩)] w (givesL ss) 24 := lookSubstC B S m c ss w hr.lt (hr.cell 0) h hm
theorem tooLong (A : Option Addr) (n c : Nat) (w : World) (hn : n ≤ 9223372036854775807) :
  Calls Tryz.prog 140 #[.slice A n c] w fun e w' => w = w' ∧ e = .returned (.bool (decide (60 < n))) := by
 have E : decide ((60 : Int) < (n : Int)) = decide (60 < n) := decide_eq_decide.2 (by omega)
 rw [← E]
 have HE := hid E
 clear E
 generalize hz : decide ((60 : Int) < (n : Int)) = z
 have HZ := hid hz
 clear hz
 go_enter Tryz.func140, Tryz.ntmps140
 go_wp2
 go_ret
 exact ⟨rfl, by rw [← HZ.out]; rfl⟩
end gives
end
section
namespace stepMath
open sig term termOk termFacts fillMath gives endAt sub matchMath termMath posMath putMath ruleMath
def putAt (sg t u : List Int) (a : Nat) : List Int := putL t a (len1 sg t a) u
def stepO (sg : List Int) (x : Rl) (t : List Int) (a : Nat) : Option (List Int) :=
 match mst sg (subL sg t a) x.1 0 s0 with
 | none => none
 | some ss => if (fillL (givesL ss) x.2).length ≤ 60 ∧ (putAt sg t (fillL (givesL ss) x.2) a).length ≤ 60 then some (putAt sg t (fillL (givesL ss) x.2) a) else none
def redB (sg : List Int) (x : Rl) (t : List Int) (a : Nat) : Bool := (mst sg (subL sg t a) x.1 0 s0).isSome
theorem sub_ok {sg t : List Int} (h : termOkB sg t = true) {a : Nat} (ha : a < t.length) : termOkB sg (subL sg t a) = true := by
 obtain ⟨h1, h2, h3⟩ := term_parts h
 obtain ⟨e1, e2, e3⟩ := sub_len1 h ha
 have h4 := term_at h ha
 exact term_mk h1 (by omega) e3
theorem gives_of {sg l s : List Int} {ss : List (List Int)} (h1 : termOkB sg l = true) (h2 : termOkB sg s = true) (h : mst sg s l 0 s0 = some ss) : Turns sg l s (givesL ss) ∧ ∀ x ∈ l, x < 0 → givesL ss (vr x) = ss.getD (vr x) [] := by
 have hm : matchO sg l s = some ss := by rw [match_yes h1 h2]; exact h
 obtain ⟨e, t1, t2⟩ := match_turns hm
 have hg : ∀ x ∈ l, x < 0 → givesL ss (vr x) = ss.getD (vr x) [] := fun x hx h0 => by
  have this : scan sg 1 (ss.getD (vr x) []) = some (ss.getD (vr x) []).length := t2 x hx h0
  unfold givesL
  rw [if_neg ?_]
  intro e0
  have e1 : ss.getD (vr x) [] = [] := List.length_eq_zero_iff.1 e0
  rw [e1] at this
  exact absurd this (by simp [scan])
 refine ⟨⟨?_, fun x hx h0 => by rw [hg x hx h0]; exact t2 x hx h0⟩, hg⟩
 rw [fill_ext (L' := fun i => ss.getD i []) (fun x hx h0 => hg x hx h0)]
 exact t1
end stepMath
end
section
namespace walkMath
open sig term termOk termFacts fillMath gives sub matchMath putMath ruleMath stepMath
abbrev St := Int × Int × List Int
def inB (x : Int) (n : Nat) : Bool := decide (0 ≤ x ∧ x < n)
def rightB (sg : List Int) (rs : List Rl) (t : List Int) : Bool := sysOkB sg rs && termOkB sg t
def thereR (sg : List Int) (rs : List Rl) (t : List Int) (a r : Int) : Bool := rightB sg rs t && (inB a t.length && inB r rs.length)
def rl (rs : List Rl) (r : Int) : Rl := rs.getD r.toNat ([], [])
def redexB (sg : List Int) (rs : List Rl) (t : List Int) (a r : Int) : Bool := thereR sg rs t a r && redB sg (rl rs r) t a.toNat
def stepAtO (sg : List Int) (rs : List Rl) (t : List Int) (a r : Int) : Option (List Int) := if thereR sg rs t a r = true then stepO sg (rl rs r) t a.toNat else none
def stepsL (sg : List Int) (rs : List Rl) (t : List Int) : List St := (List.range t.length).flatMap fun a => (List.range rs.length).filterMap fun r => (stepO sg (rs.getD r ([], [])) t a).map fun v => ((a : Int), (r : Int), v)
theorem there_parts {sg : List Int} {rs : List Rl} {t : List Int} {a r : Int} (h : thereR sg rs t a r = true) : sysOkB sg rs = true ∧ termOkB sg t = true ∧ (0 ≤ a ∧ a < t.length) ∧ (0 ≤ r ∧ r < rs.length) := by
 unfold thereR rightB inB at h
 simp only [Bool.and_eq_true, decide_eq_true_eq] at h
 exact ⟨h.1.1, h.1.2, h.2.1, h.2.2⟩
theorem there_mk {sg : List Int} {rs : List Rl} {t : List Int} {a r : Int} (h1 : sysOkB sg rs = true) (h2 : termOkB sg t = true) (h3 : 0 ≤ a ∧ a < t.length) (h4 : 0 ≤ r ∧ r < rs.length) : thereR sg rs t a r = true := by
 unfold thereR rightB inB
 rw [h1, h2, decide_eq_true h3, decide_eq_true h4]
 rfl
theorem rl_ok {sg : List Int} {rs : List Rl} {r : Int} (h : sysOkB sg rs = true) (hr : 0 ≤ r ∧ r < rs.length) : ruleOkB sg (rl rs r) = true := (sys_parts h).2.2 _ (rl_mem (by omega))
theorem stepAt_parts {sg : List Int} {rs : List Rl} {t v : List Int} {a r : Int} (h : stepAtO sg rs t a r = some v) : thereR sg rs t a r = true ∧ stepO sg (rl rs r) t a.toNat = some v := by
 unfold stepAtO at h
 split at h
 ·exact ⟨by assumption, h⟩
 ·cases h
theorem stepAt_redex {sg : List Int} {rs : List Rl} {t v : List Int} {a r : Int} (h : stepAtO sg rs t a r = some v) : redexB sg rs t a r = true := by
 obtain ⟨h1, h2⟩ := stepAt_parts h
 unfold redexB
 rw [h1, Bool.true_and]
 unfold stepO at h2
 unfold redB
 cases hm : mst sg (subL sg t a.toNat) (rl rs r).1 0 s0 with
 | none => rw [hm] at h2; cases h2
 | some ss => rfl
end walkMath
end
section
namespace inside
open Go.RowKit base ints sig term arity endOf cursor termOk endAt
set_option maxRecDepth 100000
def Tells (w : World) (b : Bool) (e : Ending) (w' : World) : Prop := e = .returned (.bool b) ∧ Below w.heap.size w w'
structure Fr (w wr : World) (A : Option Addr) (n c : Nat) (sg : List Int) (A' : Option Addr) (m : Nat) (t : List Int) : Prop where
 r : Row wr w.heap.size 30 #[.slice A n c]
 s : Seg wr w.heap.size A n sg
 s' : Seg wr w.heap.size A' m t
 b : Below w.heap.size w wr
section
variable {w wr w' : World} {A : Option Addr} {n c : Nat} {sg : List Int} {A' : Option Addr} {m : Nat} {t : List Int}
theorem Fr.start (h : Seg w w.heap.size A n sg) (h' : Seg w w.heap.size A' m t) : Fr w (w.alloc (.cells #[.slice A n c] 30)) A n c sg A' m t :=
 have b : Below w.heap.size w (w.alloc (.cells #[.slice A n c] 30)) := (Below.refl _ _).alloc (Nat.le_refl _) _
 ⟨Row.new _ _ _, h.below b, h'.below b, b⟩
theorem Fr.next (f : Fr w wr A n c sg A' m t) (hb : Below wr.heap.size wr w') : Fr w w' A n c sg A' m t :=
 have b : Below w.heap.size wr w' := hb.mono (Nat.le_of_lt f.r.lt)
 ⟨f.r.next hb, f.s.below b, f.s'.below b, f.b.trans b⟩
theorem Fr.over (f : Fr w wr A n c sg A' m t) (hb : Below (w.heap.size + 1) wr w') : Fr w w' A n c sg A' m t :=
 have b : Below w.heap.size wr w' := hb.mono (Nat.le_succ _)
 ⟨f.r.below hb (Nat.lt_succ_self _), f.s.below b, f.s'.below b, f.b.trans b⟩
theorem Fr.alloc (f : Fr w wr A n c sg A' m t) (o : Obj) : Fr w (wr.alloc o) A n c sg A' m t := f.next ((Below.refl _ _).alloc (Nat.le_refl _) _)
theorem Fr.cell (f : Fr w wr A n c sg A' m t) : wr.cell? ⟨w.heap.size, 0, none⟩ = some (.slice A n c) := f.r.cell 0
theorem Fr.s1 (f : Fr w wr A n c sg A' m t) : Seg wr wr.heap.size A n sg := f.s.more (Nat.le_of_lt f.r.lt)
theorem Fr.t1 (f : Fr w wr A n c sg A' m t) : Seg wr wr.heap.size A' m t := f.s'.more (Nat.le_of_lt f.r.lt)
theorem Fr.size (f : Fr w wr A n c sg A' m t) : w.heap.size < wr.heap.size := f.r.lt
end
set_option maxHeartbeats 1000000 in
theorem placeIn (A A' : Option Addr) (n c m c' : Nat) (sg t : List Int) (x : Int) (w : World) (h : Seg w w.heap.size A n sg) (h' : Seg w w.heap.size A' m t) (hn : n ≤ 1048576) (hm : m ≤ 1048576) :
  Calls Tryz.prog 180 #[.agg #[.slice A n c], .slice A' m c', .int .i64 x] w (Tells w (thereB sg t x)) := by
 obtain ⟨W, hW⟩ : ∃ W, W = w.alloc (.cells #[.slice A n c] 30) := ⟨_, rfl⟩
 have f : Fr w W A n c sg A' m t := by rw [hW]; exact Fr.start h h'
 have HW := Lib.hid hW
 have L := Lib.hid (cursorAt A A' n c m c' sg t x W f.s1 f.t1 hn hm)
 clear hW h h'
 go_enter Tryz.func180, Tryz.ntmps180
 go_wp2_with fail
 rw [← HW.out]
 refine L.out.mono ?_
 rintro e w1 ⟨bb, ⟨ht, p, rfl, hp, hc⟩ | ⟨ht, rfl⟩⟩
 ·have F := Lib.hid (show Tells w (thereB sg t x) (.returned (.bool true)) w1 from ⟨by rw [ht], (f.next bb).b⟩)
  clear f L bb hc hp
  go_wp2
  go_ret
  exact F.out
 ·have F := Lib.hid (show Tells w (thereB sg t x) (.returned (.bool false)) w1 from ⟨by rw [ht], (f.next bb).b⟩)
  clear f L bb
  go_wp2
  go_ret
  exact F.out
end inside
end
section
namespace plain
open Go.RowKit base ints cursor same marks app appAt sym sub segs segsHelp kinds fillMath Go.Proofs.YtlmofkeemlfpgaaGreat.look plainMath
set_option maxRecDepth 100000
theorem inn_own {w : World} {lo : Nat} {A : Option Addr} {n c : Nat} {xs : List Int} (h : Own w lo (.slice A n c) xs) : Inn w lo w.heap.size (.slice A n c) xs := by
 have hl := Own.len h
 subst hl
 exact ⟨A, c, rfl, h, fun k hk => (World.ownsRow.lt h k (by rw [blk_own]; exact hk)).2⟩
set_option maxHeartbeats 1000000 in
theorem appS1 {w : World} {ops : Array Oper} {rest : List Oper} {o : Oper} {a : Act} {Q : Exit → Act → World → Prop} (hgd : o.guard = none) (s x : Operand)
  (ho : o.op = .call { callee := .builtin .append, args := #[s, x], argTypes := #[61, 61] })
  (lo mid : Nat) (A : Option Addr) (n c : Nat) (xss : List (List Int)) (hs : a.eval s = .slice A n c) (hown : Owns w lo mid A n c xss)
  (g c2 : Nat) (v : Value) (ys : List Int) (hx : a.eval x = .slice (some ⟨g, 0, none⟩) 1 c2) (hy : w.cell? ⟨g, 0, none⟩ = some v) (hv : Inn w mid w.heap.size v ys) (hn : n ≤ 1048576) (hlo : lo ≤ mid) (hmid : mid ≤ w.heap.size)
  (h : ∀ A' c' w', Owns w' lo w'.heap.size A' (n + 1) c' (xss ++ [ys]) → w.grownBy w' (blk A) → (blk A' = blk A ∨ blk A' = some w.heap.size) → Below lo w w' → wpList Tryz.prog ops Q rest (a.put o.dst (.slice A' (n + 1) c')) w') : wpList Tryz.prog ops Q (o :: rest) a w := by
 obtain ⟨i0, hi, hz0, hz1, hz2⟩ := info_parts info_list
 obtain ⟨hlen, ⟨vs, hr, hin, hap⟩, htop⟩ := hown
 have hvl : vs.length = n := by have := hr.1; omega
 have hvc : v.oneCell' = true := by obtain ⟨A1, c1, rfl, _⟩ := hv; rfl
 refine wpList_append_own_at w hgd s x 61 ho lo 22 i0 (.slice none 0 0) 1 24 Tryz.underlying61 hi hz0 hz1 hz2 rfl (by decide) (.slice A n c) n vs hs hr
  ⟨g, 0, none⟩ 1 c2 [v] hx rfl (fun j u hj => ?_) (fun u hu => ?_) (by unfold maxLen; omega) (by omega) (by omega) ?_
 ·match j, hj with
  | 0, hj => simp at hj; subst hj; simpa [Addr.add] using hy
 ·simp at hu; subst hu; exact hvc
 ·intro v' w' hown' hg _ hat
  have hform : ∃ A' c', v' = .slice A' (n + 1) c' := by
   rcases hown'.2 with ⟨_, h0⟩ | ⟨g', cap, cur, e, _⟩
   ·omega
   ·exact ⟨_, _, e⟩
  obtain ⟨A', c', rfl⟩ := hform
  rw [blk_own] at hg
  rw [blk_own, blk_own] at hat
  have hsz := hg.size
  have hne : ∀ {u : Value} {zs : List Int} {l2 h2 : Nat}, Inn w l2 h2 u zs → u.ownBlock = none ∨ u.ownBlock ≠ blk A := fun {u zs l2 h2} hu => by
   rcases own_form hr with ⟨rfl, _⟩ | ⟨g', cur, rfl, _, hrow, _⟩
   ·cases e : u.ownBlock with
    | none => exact .inl rfl
    | some z => exact .inr (fun e2 => by cases e2)
   ·exact .inr (hu.ne hrow)
  have hget : ∀ j, j < n → (vs ++ [v]).getD j undef = vs.getD j undef := fun j hj => by simp [List.getD, List.getElem?_append_left (show j < vs.length by omega)]
  have hget2 : ∀ j, j < n → (xss ++ [ys]).getD j [] = xss.getD j [] := fun j hj => by simp [List.getD, List.getElem?_append_left (show j < xss.length by omega)]
  have hnew : (vs ++ [v]).getD n undef = v := by simp [List.getD, ← hvl]
  have hnew2 : (xss ++ [ys]).getD n [] = ys := by simp [List.getD, ← hlen]
  refine h A' c' w' ⟨by simp [hlen], ⟨vs ++ [v], hown', fun j hj => ?_, fun i j k hij hj e1 e2 => ?_⟩, fun k hk => (World.ownsRow.lt hown' k (by rw [blk_own]; exact hk)).2⟩ hg hat ?_
  ·by_cases e : j = n
   ·subst e
    rw [hnew, hnew2]
    exact (hv.kept hg (hne hv)).wider (by omega) (by omega)
   ·rw [hget j (by omega), hget2 j (by omega)]
    exact ((hin j (by omega)).kept hg (hne (hin j (by omega)))).wider (Nat.le_refl _) (by omega)
  ·by_cases e : j = n
   ·subst e
    rw [hget i hij] at e1
    rw [hnew] at e2
    have h1 := ((hin i hij).blk k e1).2.1
    have h2 := (hv.blk k e2).1
    omega
   ·rw [hget i (by omega)] at e1
    rw [hget j (by omega)] at e2
    exact hap i j k hij (by omega) e1 e2
  ·refine (Below.refl lo w).grown hg (by omega) (fun k hk => ?_)
   exact (World.ownsRow.lt hr k (by rw [blk_own]; exact hk)).1
def AnsSubst (w : World) (xss : List (List Int)) (e : Ending) (w' : World) : Prop := ∃ A n c, e = .returned (.agg #[.slice A n c]) ∧ Owns w' w.heap.size w'.heap.size A n c xss ∧ Below w.heap.size w w'
def HeadP (w : World) (L : Nat → List Int) (terms i : Value) (wr : World) : Prop :=
 ∃ (k : Nat) (A : Option Addr) (n c : Nat), k ≤ 24 ∧ i = .int .i64 k ∧ terms = .slice A n c ∧ n ≤ k ∧ Owns wr (w.heap.size + 1) wr.heap.size A n c (plainL L k) ∧ Row wr w.heap.size 156 #[.slice none 0 0] ∧ Below w.heap.size w wr
end plain
end
section
open Go.Lib (hid)
namespace plainOf
open Go.RowKit base ints sig cursor marks app appAt sym sub segs segsHelp kinds varsOf fillMath Go.Proofs.YtlmofkeemlfpgaaGreat.look substOk gives plainMath plain
set_option maxRecDepth 100000
theorem own_one {w : World} {base : Nat} {D : Option Addr} {c : Nat} {x : Int} (h : Own w base (.slice D 1 c) [x]) : ∃ g, D = some ⟨g, 0, none⟩ ∧ w.cell? ⟨g, 0, none⟩ = some (.int .i64 x) := by
 rcases own_form (n := 1) (vs := [x].map (Value.int .i64)) h with ⟨_, h1, _⟩ | ⟨g, cur, e, _, hr, _, _, _, _, hc⟩
 ·omega
 ·refine ⟨g, e, ?_⟩
  rw [hr.cell 0, hc 0 (by omega)]
  rfl
theorem Owns.shrink {w : World} {lo hi m n c : Nat} {A : Option Addr} {xss : List (List Int)} (h : Owns w lo hi A m c xss) (hn : n ≤ m) : Owns w lo hi A n c (xss.take n) := by
 obtain ⟨h1, ⟨vs, hr, hin, hap⟩, h3⟩ := h
 rcases own_form hr with ⟨rfl, h0, rfl, rfl⟩ | ⟨g, cur, rfl, hlo, hrow, hmc, hsz, hmax, hlen, hc⟩
 ·obtain rfl : n = 0 := by omega
  simpa using Owns.nil w lo hi
 ·have e1 : ∀ j, j < n → (cur.toList.take n).getD j undef = vs.getD j undef := fun j hj => by
   have := hc j (by omega)
   simp [List.getD, List.getElem?_take, hj, this]
  have e2 : ∀ j, j < n → (xss.take n).getD j [] = xss.getD j [] := fun j hj => by simp [List.getD, List.getElem?_take, hj]
  refine ⟨by rw [List.length_take, h1]; omega, ⟨_, rowsOf hrow hsz (by omega) hmax hlo, fun j hj => ?_, fun i j k hij hj a b => ?_⟩, h3⟩
  ·rw [e1 j hj, e2 j hj]
   exact hin j (by omega)
  ·rw [e1 i (by omega)] at a
   rw [e1 j hj] at b
   exact hap i j k hij (by omega) a b
def HeadL1 (w : World) (S : Option Addr) (m c : Nat) (ss : List (List Int)) (i : Value) (wr : World) : Prop :=
 ∃ (k : Nat) (A : Option Addr) (cA : Nat), k ≤ m ∧ i = .int .i64 k ∧ Owns wr (w.heap.size + 3) wr.heap.size A k cA (rowsL (givesL ss) k) ∧ Row wr w.heap.size 156 #[.slice S m c] ∧ Row wr (w.heap.size + 1) 156 #[.slice none 0 0] ∧
  Row wr (w.heap.size + 2) 156 #[.slice A k cA] ∧ Below w.heap.size w wr
theorem headL1_step {w wr w1 w5 w6 : World} {S A A' : Option Addr} {m c k cA c' : Nat} {ss : List (List Int)} (hk : k < m) (ho : Owns w6 (w.heap.size + 3) w6.heap.size A' (k + 1) c' (rowsL (givesL ss) (k + 1)))
  (r0 : Row wr w.heap.size 156 #[.slice S m c]) (r1 : Row wr (w.heap.size + 1) 156 #[.slice none 0 0]) (r2 : Row wr (w.heap.size + 2) 156 #[.slice A k cA]) (hb : Below w.heap.size w wr)
  (b1 : Below wr.heap.size wr w1) (b5 : Below w1.heap.size w1 w5) (hg : w5.grownBy w6 (blk A)) (hA : ∀ z, blk A = some z → w.heap.size + 3 ≤ z) :
  HeadL1 w S m c ss (.int .i64 ((k : Int) + 1)) (w6.setCell ⟨w.heap.size + 2, 0, none⟩ (.slice A' (k + 1) c')) := by
 have bb := next_trans b1 b5
 have q0 := Row.away (r0.next bb) hg (fun e => by have := hA _ e; omega)
 have q1 := Row.away (r1.next bb) hg (fun e => by have := hA _ e; omega)
 have q2 := Row.away (r2.next bb) hg (fun e => by have := hA _ e; omega)
 have hbb : Below w.heap.size w w6 := (hb.trans (bb.mono hb.size)).grown hg (by have := hb.size; have := bb.size; omega) (fun z hz => by have := hA z hz; omega)
 refine ⟨k + 1, A', c', hk, by simp, ?_, q0.far (by simp) _, q1.far (by simp) _, ?_, hbb.setCell (by simp) _⟩
 ·have := owns_put ho q2 (by omega) 0 (.slice A' (k + 1) c')
  simpa using this
 ·have := q2.put 0 (.slice A' (k + 1) c')
  simpa using this
def HeadL2 (w : World) (L : Nat → List Int) (m : Nat) (A : Option Addr) (cA : Nat) (p : Value) (wr : World) : Prop :=
 ∃ n : Nat, n ≤ m ∧ p = .pointer (some ⟨w.heap.size + 2, 0, none⟩) ∧ strip ((rowsL L m).take n) = plainL L m ∧ Owns wr (w.heap.size + 3) wr.heap.size A m cA (rowsL L m) ∧ Row wr (w.heap.size + 1) 156 #[.slice none 0 0] ∧
  Row wr (w.heap.size + 2) 156 #[.slice A n cA] ∧ Below w.heap.size w wr
def lenAt (w : World) (p : Addr) : Nat := match w.cell? p with
 | some (.slice _ n _) => n
 | _ => 0
theorem headL2_end {w wr : World} {L : Nat → List Int} {m n cA : Nat} {A : Option Addr} (hn : n ≤ m) (hs : strip ((rowsL L m).take n) = plainL L m) (ho : Owns wr (w.heap.size + 3) wr.heap.size A m cA (rowsL L m))
  (r1 : Row wr (w.heap.size + 1) 156 #[.slice none 0 0]) (hb : Below w.heap.size w wr) (hend : n = 0 ∨ (rowsL L m).getD (n - 1) [] ≠ []) :
  AnsSubst w (plainL L m) (.returned (.agg #[.slice A n cA])) (wr.setCell ⟨w.heap.size + 1, 0, none⟩ (.slice A n cA)) := by
 have e : (rowsL L m).take n = plainL L m := by
  rw [← hs]
  rcases hend with rfl | h
  ·simp [strip]
  ·by_cases h0 : n = 0
   ·subst h0; simp [strip]
   ·have := strip_last (l := rowsL L m) (q := n - 1) (by rw [rows_len]; omega) h
    rw [show n - 1 + 1 = n by omega] at this
    exact this.symm
 have h1 := Owns.shrink (owns_put ho r1 (by omega) 0 (.slice A n cA)) hn
 rw [e] at h1
 exact ⟨A, n, cA, rfl, h1.wider (by omega) (by simp), hb.setCell (by simp) _⟩
set_option maxHeartbeats 8000000 in
theorem l2Plain (S : Option Addr) (m c : Nat) (ss : List (List Int)) (w : World) (h : Segs w w.heap.size S m ss) (ht : tot ss ≤ 1048576) :
  Calls Tryz.prog 155 #[.agg #[.slice S m c]] w (AnsSubst w (plainL (givesL ss) m)) := by
 have HT := hid ht
 have hm : m ≤ 1048576 := tot_len h.1 ht
 have HE := hid (tot_each ht)
 clear ht
 go_enter Tryz.func155, Tryz.ntmps155
 go_wp2_with fail
 go_loopw [4] (fun i wr => HeadL1 w S m c ss i wr) (fun i _ => m - (intOf i).toNat)
 case atStart =>
  have b0 : Below w.heap.size w (((w.alloc (.cells #[.slice S m c] 156)).alloc (.cells #[.slice none 0 0] 156)).alloc (.cells #[.slice none 0 0] 156)) := (((Below.refl _ _).alloc (Nat.le_refl _) _).alloc (by simp) _).alloc (by simp; omega) _
  have q1 := Row.new (w.alloc (.cells #[.slice S m c] 156)) 156 #[.slice none 0 0]
  have q2 := Row.new ((w.alloc (.cells #[.slice S m c] 156)).alloc (.cells #[.slice none 0 0] 156)) 156 #[.slice none 0 0]
  refine ⟨0, none, 0, Nat.zero_le _, rfl, by simpa [rowsL] using Owns.nil _ _ _, ((Row.new w 156 #[.slice S m c]).alloc _).alloc _, ?_, ?_, b0⟩
  ·have := q1.alloc (.cells #[.slice none 0 0] 156); simpa using this
  ·simpa using q2
 case round =>
  obtain ⟨k, A, cA, hk, rfl, ho, r0, r1, r2, hb⟩ := hrel
  have c0 : wr.cell? ⟨w.heap.size, 0, none⟩ = some (.slice S m c) := r0.cell 0
  have cO : wr.cell? ⟨w.heap.size + 2, 0, none⟩ = some (.slice A k cA) := r2.cell 0
  have i0 : (0 : Int) ≤ (k : Int) := by omega
  by_cases hlt : k < m
  ·have i1 : (k : Int) < (m : Int) := by omega
   have LG := hid (l2Gives S m c ss k wr ((h.below hb).more hb.size) HT.out (by omega))
   have HA : Hid (∀ z, blk A = some z → w.heap.size + 3 ≤ z) := hid (fun z hz => by
    obtain ⟨vs, hown, _⟩ := ho.row
    exact (World.ownsRow.lt hown z (by rw [blk_own]; exact hz)).1)
   have hw1 : IntKind.i64.wrap (-1 - (k : Int)) = -1 - (k : Int) := by rw [IntKind.wrap_i64]; omega
   have hrl := r2.lt
   obtain ⟨ys, hys⟩ : ∃ ys, givesL ss k = ys := ⟨_, rfl⟩
   rw [hys] at LG
   have hlen : ys.length ≤ 1048576 := by
    rw [← hys]
    unfold givesL
    split
    ·simp [vt]
    ·exact HE.out k
   have RS := hid (rows_succ (givesL ss) k)
   by_cases h1 : ys.length = 1
   ·obtain ⟨x, rfl⟩ : ∃ x, ys = [x] := by
     match ys, h1 with
     | [x], _ => exact ⟨x, rfl⟩
    by_cases hx : x = -1 - (k : Int)
    ·have RB := hid (show bare (givesL ss) k = [] by unfold bare; rw [if_pos (by rw [hys, hx]; rfl)])
     have DX : (x == -1 - (k : Int)) = true := by simp [hx]
     clear hx hys
     go_wp2_with (first
      | (go_at_call 172; go_must (refine LG.out.mono ?_; rintro e w1 ⟨D, dn, dc, rfl, od, bb⟩; obtain rfl : dn = 1 := Own.len od; obtain ⟨gD, rfl, cD⟩ := own_one od; have cO1 : w1.cell? ⟨w.heap.size + 2, 0, none⟩ = some (.slice A k cA) := (r2.next bb).cell 0; have e5 : ((w1.alloc (.cells #[] 2)).alloc (.cells #[.slice (some ⟨w1.heap.size, 0, none⟩) 0 0] 22)).cell? ⟨w1.heap.size + 1, 0, none⟩ = some (.slice (some ⟨w1.heap.size, 0, none⟩) 0 0) := (by simp); have c15 : (w1.alloc (.cells #[] 2)).cell? ⟨w.heap.size + 2, 0, none⟩ = some (.slice A k cA) := ((r2.next bb).alloc (.cells #[] 2)).cell 0; have B5 : Below w1.heap.size w1 ((w1.alloc (.cells #[] 2)).alloc (.cells #[.slice (some ⟨w1.heap.size, 0, none⟩) 0 0] 22)) := ((Below.refl _ _).alloc (Nat.le_refl _) _).alloc (by simp) _; have hz5 := B5.size; have hz1 := bb.size; have ho5 := (ho.next bb).next B5; have i5 : Inn ((w1.alloc (.cells #[] 2)).alloc (.cells #[.slice (some ⟨w1.heap.size, 0, none⟩) 0 0] 22)) wr.heap.size ((w1.alloc (.cells #[] 2)).alloc (.cells #[.slice (some ⟨w1.heap.size, 0, none⟩) 0 0] 22)).heap.size (.slice (some ⟨w1.heap.size, 0, none⟩) 0 0) [] := Inn.wider ((inn_own (own_empty w1 wr.heap.size bb.size)).next ((Below.refl _ _).alloc (Nat.le_refl _) _)) (Nat.le_refl _) (by simp); have r25 := (r2.next bb).next B5; have c25 : ((w1.alloc (.cells #[] 2)).alloc (.cells #[.slice (some ⟨w1.heap.size, 0, none⟩) 0 0] 22)).cell? ⟨w.heap.size + 2, 0, none⟩ = some (.slice A k cA) := r25.cell 0))
      | (at_builtin; go_must (refine appS1 rfl _ _ rfl (w.heap.size + 3) wr.heap.size A k cA (rowsL (givesL ss) k) rfl ho5 _ 1 (.slice (some ⟨w1.heap.size, 0, none⟩) 0 0) [] rfl e5 i5 (by omega) (by omega) (by omega) ?_; intro A' c' w6 ho6 hg6 hat6 b6; have q2 := Row.away r25 hg6 (fun e => by have := HA.out _ e; omega); have c26 : w6.cell? ⟨w.heap.size + 2, 0, none⟩ = some (.slice A k cA) := q2.cell 0; have f26 : w6.frozen? ⟨w.heap.size + 2, 0, none⟩ = false := q2.free 0)))
     have S := hid (headL1_step (ss := ss) hlt (by rw [RS.out, RB.out]; exact ho6) r0 r1 r2 hb bb B5 hg6 HA.out)
     clear ho6 hg6 hat6 b6 ho5 i5 r25 c25 c15 q2 od bb B5 r0 r1 r2 hb ho RS RB LG cO1
     go_wp2
     go_roundw
     case rel => exact S.out
     case measure => simp [intOf]; omega
    ·have RB := hid (show bare (givesL ss) k = [x] by unfold bare; rw [if_neg (by rw [hys]; unfold vt; intro e; injection e with e; exact hx e), hys])
     have DX : (x == -1 - (k : Int)) = false := by simp [hx]
     clear hx hys
     go_wp2_with (first
      | (go_at_call 172; refine LG.out.mono ?_; rintro e w1 ⟨D, dn, dc, rfl, od, bb⟩; obtain rfl : dn = 1 := Own.len od; obtain ⟨gD, rfl, cD⟩ := own_one od; have cO1 : w1.cell? ⟨w.heap.size + 2, 0, none⟩ = some (.slice A k cA) := (r2.next bb).cell 0; have B5 : Below w1.heap.size w1 (w1.alloc (.cells #[.slice (some ⟨gD, 0, none⟩) 1 dc] 22)) := (Below.refl _ _).alloc (Nat.le_refl _) _; have hz5 := B5.size; have hz1 := bb.size; have ho5 := (ho.next bb).next B5; have i5 : Inn (w1.alloc (.cells #[.slice (some ⟨gD, 0, none⟩) 1 dc] 22)) wr.heap.size (w1.alloc (.cells #[.slice (some ⟨gD, 0, none⟩) 1 dc] 22)).heap.size (.slice (some ⟨gD, 0, none⟩) 1 dc) [x] := Inn.wider ((inn_own od).next ((Below.refl _ _).alloc (Nat.le_refl _) _)) (Nat.le_refl _) (by simp); have r25 := (r2.next bb).next B5; have c25 : (w1.alloc (.cells #[.slice (some ⟨gD, 0, none⟩) 1 dc] 22)).cell? ⟨w.heap.size + 2, 0, none⟩ = some (.slice A k cA) := r25.cell 0)
      | (at_builtin; refine appS1 rfl _ _ rfl (w.heap.size + 3) wr.heap.size A k cA (rowsL (givesL ss) k) rfl ho5 _ 1 (.slice (some ⟨gD, 0, none⟩) 1 dc) [x] rfl ((Row.new _ _ _).cell 0) i5 (by omega) (by omega) (by omega) ?_; intro A' c' w6 ho6 hg6 hat6 b6; have q2 := Row.away r25 hg6 (fun e => by have := HA.out _ e; omega); have c26 : w6.cell? ⟨w.heap.size + 2, 0, none⟩ = some (.slice A k cA) := q2.cell 0; have f26 : w6.frozen? ⟨w.heap.size + 2, 0, none⟩ = false := q2.free 0))
     have S := hid (headL1_step (ss := ss) hlt (by rw [RS.out, RB.out]; exact ho6) r0 r1 r2 hb bb B5 hg6 HA.out)
     clear ho6 hg6 hat6 b6 ho5 i5 r25 c25 q2 od bb B5 r0 r1 r2 hb ho RS RB LG cO1
     go_wp2
     go_roundw
     case rel => exact S.out
     case measure => simp [intOf]; omega
   ·have RB := hid (show bare (givesL ss) k = ys by unfold bare; rw [if_neg (by rw [hys]; unfold vt; intro e; rw [e] at h1; exact h1 rfl), hys])
    clear hys
    go_wp2_with (first
     | (go_at_call 172; refine LG.out.mono ?_; rintro e w1 ⟨D, dn, dc, rfl, od, bb⟩; have hdn : ¬ dn = 1 := (by rw [Own.len od]; exact h1); have hdz : ¬ (dn : Int) = 1 := (by omega); have hdb : (((dn : Nat) : Int) == 1) = false := (by simp; omega); have cO1 : w1.cell? ⟨w.heap.size + 2, 0, none⟩ = some (.slice A k cA) := (r2.next bb).cell 0; have B5 : Below w1.heap.size w1 (w1.alloc (.cells #[.slice D dn dc] 22)) := (Below.refl _ _).alloc (Nat.le_refl _) _; have hz5 := B5.size; have hz1 := bb.size; have ho5 := (ho.next bb).next B5; have i5 : Inn (w1.alloc (.cells #[.slice D dn dc] 22)) wr.heap.size (w1.alloc (.cells #[.slice D dn dc] 22)).heap.size (.slice D dn dc) ys := Inn.wider ((inn_own od).next ((Below.refl _ _).alloc (Nat.le_refl _) _)) (Nat.le_refl _) (by simp); have r25 := (r2.next bb).next B5; have c25 : (w1.alloc (.cells #[.slice D dn dc] 22)).cell? ⟨w.heap.size + 2, 0, none⟩ = some (.slice A k cA) := r25.cell 0)
     | (at_builtin; refine appS1 rfl _ _ rfl (w.heap.size + 3) wr.heap.size A k cA (rowsL (givesL ss) k) rfl ho5 _ 1 (.slice D dn dc) ys rfl ((Row.new _ _ _).cell 0) i5 (by omega) (by omega) (by omega) ?_; intro A' c' w6 ho6 hg6 hat6 b6; have q2 := Row.away r25 hg6 (fun e => by have := HA.out _ e; omega); have c26 : w6.cell? ⟨w.heap.size + 2, 0, none⟩ = some (.slice A k cA) := q2.cell 0; have f26 : w6.frozen? ⟨w.heap.size + 2, 0, none⟩ = false := q2.free 0))
    have S := hid (headL1_step (ss := ss) hlt (by rw [RS.out, RB.out]; exact ho6) r0 r1 r2 hb bb B5 hg6 HA.out)
    clear ho6 hg6 hat6 b6 ho5 i5 r25 c25 q2 od bb B5 r0 r1 r2 hb ho RS RB LG cO1
    go_wp2
    go_roundw
    case rel => exact S.out
    case measure => simp [intOf]; omega
  ·obtain rfl : k = m := by omega
   have HC := hid ho.cap
   have H2 : HeadL2 w (givesL ss) k A cA (.pointer (some ⟨w.heap.size + 2, 0, none⟩)) wr := ⟨k, Nat.le_refl _, rfl, by rw [List.take_of_length_le (by rw [rows_len]; exact Nat.le_refl _)]; rfl, ho, r1, r2, hb⟩
   have HH2 := hid H2
   have hc1 : cA ≤ 9223372036854775807 := ho.cap.2.1
   have hc0 : k ≤ cA := ho.cap.1
   clear H2 ho r0 r1 r2 hb cO h
   go_wp2_with fail
   go_loopw [] (fun wr => HeadL2 w (givesL ss) k A cA (.pointer (some ⟨w.heap.size + 2, 0, none⟩)) wr) (fun wr => lenAt wr ⟨w.heap.size + 2, 0, none⟩)
   case atStart => exact HH2.out
   case round =>
    obtain ⟨n, hn, -, hs, ho, r1, r2, hb⟩ := hrel
    clear HH2
    have cO : wr.cell? ⟨w.heap.size + 2, 0, none⟩ = some (.slice A n cA) := r2.cell 0
    have fO : wr.frozen? ⟨w.heap.size + 2, 0, none⟩ = false := r2.free 0
    have cR : wr.cell? ⟨w.heap.size + 1, 0, none⟩ = some (.slice none 0 0) := r1.cell 0
    have fR : wr.frozen? ⟨w.heap.size + 1, 0, none⟩ = false := r1.free 0
    by_cases h0 : n = 0
    ·subst h0
     have F := hid (headL2_end hn hs ho r1 hb (.inl rfl))
     clear hs ho r1 r2 hb
     go_wp2
     exact bodyPost_ret (v := .agg #[.slice A 0 cA]) (by simp [results, Tryz.results155, go_sem, cR]) rfl F.out
    ·obtain ⟨p, rfl⟩ : ∃ p, n = p + 1 := ⟨n - 1, by omega⟩
     obtain ⟨b, off, A', q, cq, rfl, hbb, hx, hseg, hcap⟩ := ho.segs.spot (k := p) (by omega)
     have p0 : (0 : Int) ≤ (p : Int) := by omega
     have p1 : ((p + 1 : Nat) : Int) - 1 = (p : Int) := by omega
     have p2 : (p : Int) ≤ (cA : Int) := by omega
     have p3 : (p : Int) < ((p + 1 : Nat) : Int) := by omega
     have p4 : (0 : Int) < ((p + 1 : Nat) : Int) := by omega
     have hw2 : IntKind.i64.wrap (p : Int) = (p : Int) := by rw [IntKind.wrap_i64]; omega
     by_cases hq : q = 0
     ·subst hq
      have hnil : (rowsL (givesL ss) k).getD p [] = [] := List.eq_nil_of_length_eq_zero hseg.1
      have S1 : HeadL2 w (givesL ss) k (some ⟨b, off, none⟩) cA (.pointer (some ⟨w.heap.size + 2, 0, none⟩)) (wr.setCell ⟨w.heap.size + 2, 0, none⟩ (.slice (some ⟨b, off, none⟩) p cA)) := by
       refine ⟨p, by omega, rfl, by rw [← strip_drop (by rw [rows_len]; omega) hnil]; exact hs, ?_, r1.far (by simp) _, ?_, hb.setCell (by simp) _⟩
       ·have := owns_put ho r2 (by omega) 0 (.slice (some ⟨b, off, none⟩) p cA)
        simpa using this
       ·have := r2.put 0 (.slice (some ⟨b, off, none⟩) p cA)
        simpa using this
      have HS1 := hid S1
      have E1 : (wr.setCell ⟨w.heap.size + 2, 0, none⟩ (.slice (some ⟨b, off, none⟩) p cA)).cell? ⟨w.heap.size + 2, 0, none⟩ = some (.slice (some ⟨b, off, none⟩) p cA) := by have := (r2.put 0 (.slice (some ⟨b, off, none⟩) p cA)).cell 0; simpa using this
      have HLT := hid (show lenAt (wr.setCell ⟨w.heap.size + 2, 0, none⟩ (.slice (some ⟨b, off, none⟩) p cA)) ⟨w.heap.size + 2, 0, none⟩ < lenAt wr ⟨w.heap.size + 2, 0, none⟩ by simp only [lenAt, E1, cO]; omega)
      clear S1 E1 hs ho r1 r2 hb hseg hcap hnil
      go_wp2
      go_roundw
      case rel => exact HS1.out
      case measure => exact HLT.out
     ·have hq1 : (0 : Int) < (q : Int) := by omega
      have F := hid (headL2_end hn hs ho r1 hb (.inr (fun e => by rw [show p + 1 - 1 = p by omega] at e; rw [e] at hseg; exact hq hseg.1.symm)))
      clear hs ho r1 r2 hb hseg hcap
      go_wp2
      exact bodyPost_ret (v := .agg #[.slice (some ⟨b, off, none⟩) (p + 1) cA]) (by simp [results, Tryz.results155, go_sem, cR]) rfl F.out
theorem tot_le {xss : List (List Int)} {M : Nat} (h : ∀ j, (xss.getD j []).length ≤ M) : tot xss ≤ xss.length + xss.length * M := by
 have : ∀ k, k ≤ xss.length → sumL xss k ≤ k * M := fun k => by
  induction k with
  | zero => intro _; simp [sumL]
  | succ k ih =>
   intro hk
   rw [sumL_succ (by omega)]
   have h1 := ih (by omega)
   have h2 := h k
   rw [Nat.succ_mul]
   omega
 unfold tot
 have := this xss.length (Nat.le_refl _)
 omega
end plainOf
end
end Go.Proofs.YtlmofkeemlfpgaaGreat
