/-
  MERGED: my texts DrawSig, DrawTerm, DrawAny, DrawNew, DrawPairL, DrawOne, FillMath, Look, Shifted, DrawVar, RenMath, RenPure, RenFacts, Rename, one behind the other, as they are. By an AI agent.
-/
import Derived.Test.YtfclafbdbdmlhaaMFnRenamed1
import Derived.Deep.AppendLies
import Derived.Deep.RegionLaw
import Derived.Deep.RegionHeld3
import Derived.Shelf.Abstract
import Derived.Deep.QuietTactic
import Derived.BigQuiet
namespace Go.Proofs.Ytfclafbdbdmlhaa
section
open Go.Lib (hid)
namespace drawSig
open Go.RowKit base ints sig cursor marks app sym dice
set_option maxRecDepth 100000
theorem stepApp1 {w : World} {ops : Array Oper} {o : Oper} {a : Act} {K : Act → World → Prop} {Q : Exit → Act → World → Prop} {E : Prop} (hgd : o.guard = none) (s x : Operand)
  (ho : o.op = .call { callee := .builtin .append, args := #[s, x], argTypes := #[24, 24] })
  (base : Nat) (A : Option Addr) (n c : Nat) (xs : List Int) (hs : a.eval s = .slice A n c) (hown : Own w base (.slice A n c) xs)
  (g c2 : Nat) (y : Int) (hx : a.eval x = .slice (some ⟨g, 0, none⟩) 1 c2) (hy : w.cell? ⟨g, 0, none⟩ = some (.int .i64 y)) (hn : n ≤ 2097152) (hbase : base ≤ w.heap.size)
  (h : ∀ g' c' w', Own w' base (.slice (some ⟨g', 0, none⟩) (n + 1) c') (xs ++ [y]) → w.grownBy w' (blk A) → (blk A = some g' ∨ g' = w.heap.size) → g' < w'.heap.size → K (a.put o.dst (.slice (some ⟨g', 0, none⟩) (n + 1) c')) w') :
  if Region.wanted o (yielded ops a.tmps) = true then Oper.wp Try.prog o a w K Q else E := by
 obtain ⟨i0, hi, hz0, hz1, hz2⟩ := info_parts info_i64
 have hl : xs.length = n := by
  obtain ⟨A', c', e⟩ := hown.slice
  injection e with _ e _
  exact e.symm
 have hob : (Value.slice A n c).ownBlock = blk A := by cases A <;> rfl
 refine step_append_lies w hgd s x 24 ho base 2 i0 (.int .i64 0) 1 8 Try.underlying24 hi hz0 hz1 hz2 rfl (by decide) (.slice A n c) n (xs.map (Value.int .i64)) hs (by rw [← hl]; rw [← hl] at hown; exact hown)
  ⟨g, 0, none⟩ 1 c2 [.int .i64 y] hx rfl (fun j u hj => ?_) (fun u hu => ?_) (by omega) (by unfold maxLen; omega) (by omega) hbase w.heap.size rfl ?_
 ·match j, hj with
  | 0, hj => simp at hj; subst hj; simpa [Addr.add] using hy
 ·simp at hu; subst hu; rfl
 ·intro g' c' w' hown' hg hat hlt
  have e : xs.map (Value.int .i64) ++ [.int .i64 y] = (xs ++ [y]).map (Value.int .i64) := by simp
  rw [e] at hown'
  rw [hob] at hg hat
  refine h g' c' w' ?_ hg hat hlt
  have hl2 : (xs ++ [y]).length = n + 1 := by simp [hl]
  unfold Own
  rw [hl2]
  exact hown'
def AnsSigD (w : World) (p : Nat) (A : Option Addr) (n c : Nat) (P : List Int → Prop) (e : Ending) (w' : World) : Prop :=
 ∃ O on oc xs, e = .returned (.agg #[.slice O on oc]) ∧ Own w' w.heap.size (.slice O on oc) xs ∧ P xs ∧ Dice w' p A n c ∧ w.grownBy w' (some p)
def Good (xs : List Int) : Prop := 1 ≤ xs.length ∧ xs.length ≤ 4 ∧ ∀ j, j < xs.length → 0 ≤ xs.getD j 0 ∧ xs.getD j 0 ≤ 2
theorem good_snoc {xs : List Int} {x : Int} (h1 : 1 ≤ xs.length) (h2 : xs.length ≤ 3) (h : ∀ j, j < xs.length → 0 ≤ xs.getD j 0 ∧ xs.getD j 0 ≤ 2) (h0 : 0 ≤ x) (hx : x ≤ 2) : Good (xs ++ [x]) := by
 refine ⟨by simp, by simp; omega, fun j hj => ?_⟩
 by_cases e : j < xs.length
 ·have := h j e
  simpa [List.getD, e, List.getElem?_append_left e] using this
 ·have e2 : j = xs.length := by simp at hj; omega
  subst e2
  simp [List.getD]
  omega
structure SigSt (w : World) (p : Nat) (A : Option Addr) (n c : Nat) (v : Nat) (wr : World) (O : Option Addr) (on oc : Nat) (xs : List Int) : Prop where
 own : Own wr w.heap.size (.slice O on oc) xs
 rV : Row wr v 26 #[.slice O on oc]
 rN : Row wr w.heap.size 26 #[.slice none 0 0]
 nV : blk O ≠ some v
 nN : blk O ≠ some w.heap.size
 hv : w.heap.size < v
 d : Dice wr p A n c
 g : w.grownBy wr (some p)
 hp : p < w.heap.size
section
variable {w : World} {p : Nat} {A : Option Addr} {n c v : Nat} {wr : World} {O : Option Addr} {on oc : Nat} {xs : List Int}
theorem SigSt.dice {w' : World} (s : SigSt w p A n c v wr O on oc xs) (d : Dice w' p A n c) (hg : wr.grownBy w' (some p)) : SigSt w p A n c v w' O on oc xs :=
 ⟨Own.far s.own hg (fun k hk => by injection hk; have := s.hp; omega), Row.away s.rV hg (fun e => by injection e; have := s.hp; have := s.hv; omega), Row.away s.rN hg (fun e => by injection e; have := s.hp; omega), s.nV, s.nN, s.hv, d, grown_trans s.g hg, s.hp⟩
theorem SigSt.alloc (s : SigSt w p A n c v wr O on oc xs) (o : Obj) : SigSt w p A n c v (wr.alloc o) O on oc xs :=
 ⟨Own.alloc s.own o, s.rV.alloc o, s.rN.alloc o, s.nV, s.nN, s.hv, s.d.alloc o, grown_trans s.g (World.grownBy_alloc wr o _), s.hp⟩
theorem SigSt.drew (s : SigSt w p A n c v wr O on oc xs) : SigSt w p A n c v wr.drew O on oc xs :=
 ⟨Own.drew s.own, s.rV.drew, s.rN.drew, s.nV, s.nN, s.hv, s.d.drewN 1, grown_drewN s.g 1, s.hp⟩
theorem SigSt.put {w' : World} {O' : Option Addr} {on' oc' : Nat} {ys : List Int} (s : SigSt w p A n c v wr O on oc xs) (ho : Own w' w.heap.size (.slice O' on' oc') ys) (hg : wr.grownBy w' (blk O)) (hat : blk O' = blk O ∨ blk O' = some wr.heap.size) (hO : ∀ k, blk O = some k → w.heap.size ≤ k) :
  SigSt w p A n c v (w'.setCell ⟨v, 0, none⟩ (.slice O' on' oc')) O' on' oc' ys := by
 have hpk : ∀ k, blk O = some k → p + 1 ≤ k := fun k hk => by have := hO k hk; have := s.hp; omega
 have zw := s.rV.lt
 have zn := s.rN.lt
 have nV' : blk O' ≠ some v := by
  rcases hat with h | h
  ·rw [h]; exact s.nV
  ·rw [h]; intro e; injection e; omega
 have nN' : blk O' ≠ some w.heap.size := by
  rcases hat with h | h
  ·rw [h]; exact s.nN
  ·rw [h]; intro e; injection e; omega
 have r1 := Row.away s.rV hg s.nV
 have r2 := Row.away s.rN hg s.nN
 have b1 : Below (p + 1) wr w' := (Below.refl _ _).grown hg (by have := s.hp; omega) hpk
 have b0 : Below w.heap.size wr w' := (Below.refl _ _).grown hg (by have := s.g.size; omega) hO
 refine ⟨?_, r1.put 0 _, r2.far (p := ⟨v, 0, none⟩) (by have := s.hv; simp; omega) _, nV', nN', s.hv, ?_, ?_, s.hp⟩
 ·have hk : w'.grownBy (w'.setCell ⟨v, 0, none⟩ (.slice O' on' oc')) (some v) := grown_put (World.grownBy.refl _ _) 0 _
  refine World.ownsRow.kept ho hk ?_
  cases O' with
  | none => exact .inl rfl
  | some a => exact .inr (fun e => nV' (by simpa [Value.ownBlock, blk] using e))
 ·have d1 := s.d.keep b1
  obtain ⟨i, h, d1⟩ := d1
  have hvp : p < v := by have := s.hp; have := s.hv; omega
  exact ⟨i, h, d1.row.far (p := ⟨v, 0, none⟩) (by simp; omega) _, d1.le, d1.s.keep fun q hq => World.cell?_setCell_other w' _ q _ (fun e => by subst e; have hq : v < p := hq; omega), d1.hn⟩
 ·refine ⟨b0.os.trans s.g.os, b0.tape.trans s.g.tape, b0.output.trans s.g.output, by have := s.g.size; have := b0.size; simp only [World.size_setCell]; omega, fun k hk hne => ?_⟩
  rw [Below.heap_setCell _ _ _ _ (by have := s.hv; intro e; have e : k = v := e; omega), b0.block k hk]
  exact s.g.block k hk hne
theorem SigSt.result {P : List Int → Prop} (s : SigSt w p A n c v wr O on oc xs) (hP : P xs) (hO : blk O ≠ some w.heap.size) : AnsSigD w p A n c P (.returned (.agg #[.slice O on oc])) (wr.setCell ⟨w.heap.size, 0, none⟩ (.slice O on oc)) := by
 refine ⟨O, on, oc, xs, rfl, ?_, hP, ?_, ?_⟩
 ·have hk : wr.grownBy (wr.setCell ⟨w.heap.size, 0, none⟩ (.slice O on oc)) (some w.heap.size) := grown_put (World.grownBy.refl _ _) 0 _
  refine World.ownsRow.kept s.own hk ?_
  cases O with
  | none => exact .inl rfl
  | some a => exact .inr (fun e => hO (by simpa [Value.ownBlock, blk] using e))
 ·obtain ⟨i, h, d1⟩ := s.d
  have hp := s.hp
  exact ⟨i, h, d1.row.far (p := ⟨w.heap.size, 0, none⟩) (by simp; omega) _, d1.le, d1.s.keep fun q hq => World.cell?_setCell_other wr _ q _ (fun e => by subst e; have hq : w.heap.size < p := hq; omega), d1.hn⟩
 ·refine ⟨s.g.os, s.g.tape, s.g.output, by simpa using s.g.size, fun k hk hne => ?_⟩
  rw [Below.heap_setCell _ _ _ _ (by intro e; have e : k = w.heap.size := e; omega)]
  exact s.g.block k hk hne
end
def HeadSigD (w : World) (p : Nat) (A : Option Addr) (n c v : Nat) (i : Value) (wr : World) : Prop :=
 ∃ (k : Nat) (O : Option Addr) (on oc : Nat) (xs : List Int), i = .int .i64 k ∧ SigSt w p A n c v wr O on oc xs ∧ 1 ≤ xs.length ∧ xs.length + k ≤ 4 ∧ ∀ j, j < xs.length → 0 ≤ xs.getD j 0 ∧ xs.getD j 0 ≤ 2
set_option maxHeartbeats 4000000 in
theorem drawSig (p : Nat) (A : Option Addr) (n c : Nat) (w : World) (hd : Dice w p A n c) :
  Calls Try.prog 123 #[.pointer (some ⟨p, 0, none⟩)] w (AnsSigD w p A n c Good) := by
 have hp := hd.lt
 obtain ⟨W, hW⟩ : ∃ W, W = ((w.alloc (.cells #[.slice none 0 0] 26)).alloc (.cells #[.int .i64 2, .int .i64 1, .int .i64 0] 2)).alloc (.cells #[.slice (some ⟨w.heap.size + 1, 0, none⟩) 3 3] 26) := ⟨_, rfl⟩
 have S0 : SigSt w p A n c (w.heap.size + 1 + 1) W (some ⟨w.heap.size + 1, 0, none⟩) 3 3 [2, 1, 0] := by
  rw [hW]
  have r1 : Row (((w.alloc (.cells #[.slice none 0 0] 26)).alloc (.cells #[.int .i64 2, .int .i64 1, .int .i64 0] 2)).alloc (.cells #[.slice (some ⟨w.heap.size + 1, 0, none⟩) 3 3] 26)) (w.heap.size + 1) 2 #[.int .i64 2, .int .i64 1, .int .i64 0] := by
   have := (Row.new (w.alloc (.cells #[.slice none 0 0] 26)) 2 #[.int .i64 2, .int .i64 1, .int .i64 0]).alloc (.cells #[.slice (some ⟨w.heap.size + 1, 0, none⟩) 3 3] 26)
   simpa using this
  refine ⟨Own.of_row r1 rfl rfl (Nat.le_refl _) (by omega) (by omega) (fun j hj => ?_), ?_, ((Row.new _ _ _).alloc _).alloc _, by simp [blk], by simp [blk], by omega, ((hd.alloc _).alloc _).alloc _, grown_trans (grown_trans (World.grownBy_alloc _ _ _) (World.grownBy_alloc _ _ _)) (World.grownBy_alloc _ _ _), hp⟩
  ·match j, hj with
   | 0, _ => rfl
   | 1, _ => rfl
   | 2, _ => rfl
  ·have := Row.new ((w.alloc (.cells #[.slice none 0 0] 26)).alloc (.cells #[.int .i64 2, .int .i64 1, .int .i64 0] 2)) 26 #[.slice (some ⟨w.heap.size + 1, 0, none⟩) 3 3]
   simpa using this
 have HW := hid hW
 clear hW
 have L := hid (once p A n c 4 W S0.d (by omega) (by omega))
 clear hd
 go_enter Try.func123, Try.ntmps123
 go_wp2_with fail
 rw [← HW.out]
 refine L.out.mono ?_
 rintro e w1 ⟨b, rfl, d1, g1⟩
 have S1 := S0.dice d1 g1
 have cV : w1.cell? ⟨w.heap.size + 1 + 1, 0, none⟩ = some (.slice (some ⟨w.heap.size + 1, 0, none⟩) 3 3) := S1.rV.cell 0
 have cN : w1.cell? ⟨w.heap.size, 0, none⟩ = some (.slice none 0 0) := S1.rN.cell 0
 have fV : w1.frozen? ⟨w.heap.size + 1 + 1, 0, none⟩ = false := S1.rV.free 0
 have fN : w1.frozen? ⟨w.heap.size, 0, none⟩ = false := S1.rN.free 0
 clear d1 g1 S0 L
 cases b with
 | false =>
  have F := hid (S1.result (P := Good) ⟨by decide, by decide, fun j hj => by match j, hj with | 0, _ => decide | 1, _ => decide | 2, _ => decide⟩ S1.nN)
  clear S1
  go_wp2
  exact bodyPost_ret (v := .agg #[.slice (some ⟨w.heap.size + 1, 0, none⟩) 3 3]) (by simp [results, Try.results123, go_sem, cN]) rfl F.out
 | true =>
  have zV : w.heap.size + 1 + 1 < w1.heap.size := S1.rV.lt
  obtain ⟨W2, hW2⟩ : ∃ W2, W2 = (w1.setCell ⟨w.heap.size + 1 + 1, 0, none⟩ (.slice (some ⟨w1.heap.size, 0, none⟩) 1 1)).alloc (.cells #[.int .i64 0] 2) := ⟨_, rfl⟩
  have S2 : SigSt w p A n c (w.heap.size + 1 + 1) W2 (some ⟨w1.heap.size, 0, none⟩) 1 1 [0] := by
   rw [hW2, ← World.setCell_alloc_past (hn := zV)]
   exact S1.put (Own.of_row (Row.new _ _ _) rfl rfl (Nat.le_refl _) (by omega) (by omega) (fun j hj => by match j, hj with | 0, _ => rfl)) (World.grownBy_alloc _ _ _) (.inr rfl) (fun k hk => by have hk : w.heap.size + 1 = k := Option.some.inj hk; omega)
  have HW2 := hid hW2
  have L2 := hid (below p A n c 4 W2 S2.d (by omega) (by omega))
  clear hW2 S1
  go_wp2_with fail
  rw [← HW2.out]
  refine L2.out.mono ?_
  rintro e w3 ⟨x, rfl, x0, x1, d3, g3⟩
  obtain ⟨k0, rfl⟩ := Int.eq_ofNat_of_zero_le x0
  have S3 := S2.dice d3 g3
  have H0 : HeadSigD w p A n c (w.heap.size + 1 + 1) (.int .i64 (k0 : Int)) w3 := ⟨k0, _, _, _, _, rfl, S3, by decide, by simp; omega, fun j hj => by match j, hj with | 0, _ => decide⟩
  have HH := hid H0
  clear H0 S3 S2 d3 g3 L2 cV cN fV fN
  go_wp2_with fail
  go_loopw [4] (fun i wr => HeadSigD w p A n c (w.heap.size + 1 + 1) i wr) (fun i _ => (intOf i).toNat)
  case atStart => exact HH.out
  case round =>
   obtain ⟨k, O, on, oc, xs, rfl, S, hx1, hx2, hxs⟩ := hrel
   clear HH
   have cV : wr.cell? ⟨w.heap.size + 1 + 1, 0, none⟩ = some (.slice O on oc) := S.rV.cell 0
   have cN : wr.cell? ⟨w.heap.size, 0, none⟩ = some (.slice none 0 0) := S.rN.cell 0
   have fV : wr.frozen? ⟨w.heap.size + 1 + 1, 0, none⟩ = false := S.rV.free 0
   have fN : wr.frozen? ⟨w.heap.size, 0, none⟩ = false := S.rN.free 0
   have zV : w.heap.size + 1 + 1 < wr.heap.size := S.rV.lt
   by_cases hk : k = 0
   ·subst hk
    have F := hid (S.result (P := Good) ⟨hx1, by omega, hxs⟩ S.nN)
    clear S
    go_wp2
    exact bodyPost_ret (v := .agg #[.slice O on oc]) (by simp [results, Try.results123, go_sem, cN]) rfl F.out
   ·have k1 : (0 : Int) < (k : Int) := by omega
    have S' := S.drew
    clear S
    go_wp2_with fail
    go_region_law (first
     | (refine stepApp1 rfl _ _ rfl w.heap.size O on oc xs (by simp [Act.eval, Act.put]) (Own.alloc S5.own _) w5.heap.size 1 x (by simp [Act.eval, Act.put]) ((Row.new _ _ _).cell 0) (by omega) (by simp; omega) ?_; intro O' oc' w6 ho6 hg6 hat6 hlt6; have r6 := Row.away (S5.alloc _).rV hg6 S5.nV; have cV6 : w6.cell? ⟨w.heap.size + 1 + 1, 0, none⟩ = some (.slice O on oc) := r6.cell 0; have fV6 : w6.frozen? ⟨w.heap.size + 1 + 1, 0, none⟩ = false := r6.free 0)
     | (go_simp; go_at_call 61; refine (below p A n c 3 _ S'.d (by omega) (by omega)).mono ?_; rintro e w5 ⟨x, rfl, x0, x1, d5, g5⟩; have S5 := S'.dice d5 g5; have cV5 : w5.cell? ⟨w.heap.size + 1 + 1, 0, none⟩ = some (.slice O on oc) := S5.rV.cell 0; have zV5 : w.heap.size + 1 + 1 < w5.heap.size := S5.rV.lt; have hon : on ≤ 4 := by have := Own.len S5.own; omega))
    all_goals
     have S6 := SigSt.put (S5.alloc (.cells #[.int .i64 x] 2)) ho6 hg6 (hat6.elim (fun h => .inl h.symm) (fun h => .inr (by rw [h]; rfl))) (Own.ge S5.own)
     have G := good_snoc hx1 (by omega) hxs x0 (by omega)
     have F : HeadSigD w p A n c (w.heap.size + 1 + 1) (.int .i64 ((k : Int) - 1)) (w6.setCell ⟨w.heap.size + 1 + 1, 0, none⟩ (.slice (some ⟨O', 0, none⟩) (on + 1) oc')) :=
      ⟨k - 1, _, _, _, _, congrArg (Value.int .i64) (by omega), S6, G.1, by simp; omega, G.2.2⟩
     have HF := hid F
     clear F G S6 S5 S' ho6 hg6 hat6 hlt6 r6 cV6 fV6 d5 g5 cV5
     go_wp2
     go_roundw
     case rel => exact HF.out
     case measure => simp [intOf]; omega
def Short (xs : List Int) : Prop := xs.length ≤ 9
theorem Own.blk_lt {w : World} {base : Nat} {O : Option Addr} {on oc : Nat} {xs : List Int} (h : Own w base (.slice O on oc) xs) : ∀ k, blk O = some k → k < w.heap.size := fun k hk => by
 refine (World.ownsRow.lt h k ?_).2
 cases O with
 | none => cases hk
 | some a => exact hk
set_option maxHeartbeats 4000000 in
theorem drawSigAny (p : Nat) (A : Option Addr) (n c : Nat) (w : World) (hd : Dice w p A n c) :
  Calls Try.prog 100 #[.pointer (some ⟨p, 0, none⟩)] w (AnsSigD w p A n c Short) := by
 have hp := hd.lt
 obtain ⟨W, hW⟩ : ∃ W, W = w.alloc (.cells #[.slice none 0 0] 26) := ⟨_, rfl⟩
 have rN : Row W w.heap.size 26 #[.slice none 0 0] := by rw [hW]; exact Row.new _ _ _
 have g0 : w.grownBy W (some p) := by rw [hW]; exact World.grownBy_alloc _ _ _
 have d0 : Dice W p A n c := by rw [hW]; exact hd.alloc _
 have zW : W.heap.size = w.heap.size + 1 := by rw [hW]; simp
 have HW := hid hW
 have L := hid (drawSig p A n c W d0)
 clear hW hd d0
 go_enter Try.func100, Try.ntmps100
 go_wp2_with fail
 rw [← HW.out]
 refine L.out.mono ?_
 rintro e w2 ⟨O, on, oc, xs, rfl, ho, hgood, d2, g2⟩
 rw [zW] at ho
 have rN2 : Row w2 w.heap.size 26 #[.slice none 0 0] := Row.away rN g2 (fun e => by injection e; omega)
 have zN := rN2.lt
 have hxs := hgood.2.1
 have hx1 := hgood.1
 obtain ⟨W3, hW3⟩ : ∃ W3, W3 = w2.alloc (.cells #[.slice O on oc] 26) := ⟨_, rfl⟩
 have S3 : SigSt w p A n c w2.heap.size W3 O on oc xs := by
  rw [hW3]
  refine ⟨Own.alloc (Own.lower ho (Nat.le_succ _)) _, Row.new _ _ _, rN2.alloc _, fun e => ?_, fun e => ?_, zN, d2.alloc _, grown_trans (grown_trans g0 g2) (World.grownBy_alloc _ _ _), hp⟩
  ·have := Own.blk_lt ho _ e; omega
  ·have := Own.ge ho _ e; omega
 have HW3 := hid hW3
 have L3 := hid (once p A n c 15 W3 S3.d (by omega) (by omega))
 obtain ⟨v, hv⟩ : ∃ v, w2.heap.size = v := ⟨_, rfl⟩
 have HV := hid hv
 clear ho hgood d2 g2 rN rN2 g0 L hW3 hv
 go_wp2_with fail
 rw [← HW3.out]
 refine L3.out.mono ?_
 rintro e w4 ⟨b, rfl, d4, g4⟩
 have S4 := S3.dice d4 g4
 rw [HV.out] at S4 ⊢
 have cV : w4.cell? ⟨v, 0, none⟩ = some (.slice O on oc) := S4.rV.cell 0
 have cN : w4.cell? ⟨w.heap.size, 0, none⟩ = some (.slice none 0 0) := S4.rN.cell 0
 have fN : w4.frozen? ⟨w.heap.size, 0, none⟩ = false := S4.rN.free 0
 have zV : v < w4.heap.size := S4.rV.lt
 have zNv := S4.hv
 clear d4 g4 S3 L3
 cases b with
 | false =>
  have F := hid (S4.result (P := Short) (by unfold Short; omega) S4.nN)
  clear S4
  go_wp2
  exact bodyPost_ret (v := .agg #[.slice O on oc]) (by simp [results, Try.results100, go_sem, cN]) rfl F.out
 | true =>
  have L4 := hid (below p A n c 3 w4 S4.d (by omega) (by omega))
  go_wp2_with fail
  refine L4.out.mono ?_
  rintro e w5 ⟨x, rfl, x0, x1, d5, g5⟩
  have S5 := S4.dice d5 g5
  replace cV : w5.cell? ⟨v, 0, none⟩ = some (.slice O on oc) := S5.rV.cell 0
  replace cN : w5.cell? ⟨w.heap.size, 0, none⟩ = some (.slice none 0 0) := S5.rN.cell 0
  replace fN : w5.frozen? ⟨w.heap.size, 0, none⟩ = false := S5.rN.free 0
  have fV : w5.frozen? ⟨v, 0, none⟩ = false := S5.rV.free 0
  replace zV : v < w5.heap.size := S5.rV.lt
  clear d5 g5 S4 L4
  by_cases hx0 : x = 0
  ·subst hx0
   have S6 := S5.drew
   clear S5 x0 x1
   go_wp2_with fail
   go_region_law (first
    | (refine stepApp1 rfl _ _ rfl w.heap.size O on oc xs (by simp [Act.eval, Act.put]) (Own.alloc S7.own _) w7.heap.size 1 y (by simp [Act.eval, Act.put]) ((Row.new _ _ _).cell 0) (by omega) (by simp; omega) ?_; intro O' oc' w8 ho8 hg8 hat8 hlt8; have r8 := Row.away (S7.alloc _).rV hg8 S7.nV; have cV8 : w8.cell? ⟨v, 0, none⟩ = some (.slice O on oc) := r8.cell 0; have fV8 : w8.frozen? ⟨v, 0, none⟩ = false := r8.free 0)
    | (go_simp; go_at_call 101; refine (fromTo p A n c (-1) 4 _ S6.d (by omega) (by omega) (by omega) (by omega)).mono ?_; rintro e w7 ⟨y, rfl, y0, y1, d7, g7⟩; have S7 := S6.dice d7 g7; have cV7 : w7.cell? ⟨v, 0, none⟩ = some (.slice O on oc) := S7.rV.cell 0; have zV7 : v < w7.heap.size := S7.rV.lt; have hon : on ≤ 4 := by have := Own.len S7.own; omega))
   all_goals
    have S8 := SigSt.put (S7.alloc (.cells #[.int .i64 y] 2)) ho8 hg8 (hat8.elim (fun h => .inl h.symm) (fun h => .inr (by rw [h]; rfl))) (Own.ge S7.own)
    have F := hid (S8.result (P := Short) (by unfold Short; simp; omega) S8.nN)
    have cN8 : (w8.setCell ⟨v, 0, none⟩ (.slice (some ⟨O', 0, none⟩) (on + 1) oc')).cell? ⟨w.heap.size, 0, none⟩ = some (.slice none 0 0) := S8.rN.cell 0
    have fN8 : (w8.setCell ⟨v, 0, none⟩ (.slice (some ⟨O', 0, none⟩) (on + 1) oc')).frozen? ⟨w.heap.size, 0, none⟩ = false := S8.rN.free 0
    clear S8 S7 S6 ho8 hg8 hat8 hlt8 r8 d7 g7 cV7
    go_wp2
    exact bodyPost_ret (v := .agg #[.slice (some ⟨O', 0, none⟩) (on + 1) oc']) (by simp [results, Try.results100, go_sem, cN8]) rfl F.out
  ·by_cases hx1' : x = 1
   ·subst hx1'
    have S6 : SigSt w p A n c v ((w5.alloc (.cells #[] 2)).setCell ⟨v, 0, none⟩ (.slice (some ⟨w5.heap.size, 0, none⟩) 0 0)) (some ⟨w5.heap.size, 0, none⟩) 0 0 [] :=
     S5.put (own_empty w5 w.heap.size (by omega)) (World.grownBy_alloc _ _ _) (.inr rfl) (Own.ge S5.own)
    have F := S6.result (P := Short) (by unfold Short; simp) S6.nN
    rw [World.setCell_alloc_past (hn := zV), World.setCell_alloc_past (hn := by simp; omega)] at F
    have HF := hid F
    have zz : w.heap.size < w5.heap.size := by omega
    have znv : ¬ w.heap.size = v := by omega
    have zvn : ¬ v = w.heap.size := by omega
    clear F S6 S5 x0 x1 hx0
    go_wp2
    exact bodyPost_ret (v := .agg #[.slice (some ⟨w5.heap.size, 0, none⟩) 0 0]) (by simp [results, Try.results100, go_sem, cN, zz, znv, zvn]) rfl HF.out
   ·have e2 : x = 2 := by omega
    subst e2
    have L6 := hid (below p A n c 2 w5 S5.d (by omega) (by omega))
    clear x0 x1 hx0 hx1'
    go_wp2_with fail
    refine L6.out.mono ?_
    rintro e w7 ⟨y, rfl, y0, y1, d7, g7⟩
    have S7 := S5.dice d7 g7
    replace cV : w7.cell? ⟨v, 0, none⟩ = some (.slice O on oc) := S7.rV.cell 0
    replace cN : w7.cell? ⟨w.heap.size, 0, none⟩ = some (.slice none 0 0) := S7.rN.cell 0
    replace fN : w7.frozen? ⟨w.heap.size, 0, none⟩ = false := S7.rN.free 0
    replace fV : w7.frozen? ⟨v, 0, none⟩ = false := S7.rV.free 0
    replace zV : v < w7.heap.size := S7.rV.lt
    obtain ⟨k, rfl⟩ := Int.eq_ofNat_of_zero_le y0
    have hmk : ∀ W : World, (Instr.makeSlice 24 (.int .i64 (8 + (k : Int))) (.int .i64 (8 + (k : Int)))).run Try.prog W = .ok (.slice (some ⟨W.heap.size, 0, none⟩) (8 + k) (8 + k)) (W.alloc (.cells (madeCells #[.int .i64 0] (8 + k)) 2)) := fun W => by
     have := run_make_i64 (8 + k) (by omega) W
     rwa [show ((8 + k : Nat) : Int) = 8 + (k : Int) by simp] at this
    have hcells : ∀ j, j < 8 + k → (madeCells #[Value.int .i64 0] (8 + k))[j]? = some (.int .i64 ((List.replicate (8 + k) (0 : Int)).getD j 0)) := fun j hj => by
     simp [madeCells, List.getD, hj, Nat.mod_one]
    have S8 : SigSt w p A n c v ((w7.alloc (.cells (madeCells #[.int .i64 0] (8 + k)) 2)).setCell ⟨v, 0, none⟩ (.slice (some ⟨w7.heap.size, 0, none⟩) (8 + k) (8 + k))) (some ⟨w7.heap.size, 0, none⟩) (8 + k) (8 + k) (List.replicate (8 + k) 0) :=
     S7.put (Own.of_row (Row.new _ _ _) (by simp) (size_madeCells _ _) (Nat.le_refl _) (by omega) (by omega) hcells) (World.grownBy_alloc _ _ _) (.inr rfl) (Own.ge S7.own)
    have F := S8.result (P := Short) (by unfold Short; simp; omega) S8.nN
    rw [World.setCell_alloc_past (hn := zV), World.setCell_alloc_past (hn := by simp; omega)] at F
    have HF := hid F
    have zz : w.heap.size < w7.heap.size := by omega
    have znv : ¬ w.heap.size = v := by omega
    have zvn : ¬ v = w.heap.size := by omega
    clear F S8 S7 S5 d7 g7 hcells L6
    go_wp2
    exact bodyPost_ret (v := .agg #[.slice (some ⟨w7.heap.size, 0, none⟩) (8 + k) (8 + k)]) (by simp [results, Try.results100, go_sem, cN, zz, znv, zvn]) rfl HF.out
end drawSig
end
section
open Go.Lib (hid)
namespace drawTerm
open Go.RowKit base ints sig term cursor marks app sym dice drawSig
set_option maxRecDepth 100000
def Rd (w : World) (p B : Nat) (A : Option Addr) (n : Nat) (xs : List Int) : Prop :=
 xs.length = n ∧ (0 < n → ∃ b off, A = some ⟨b, off, none⟩ ∧ b < B ∧ b ≠ p ∧ ∀ j, j < n → w.cell? ⟨b, off + j, none⟩ = some (.int .i64 (xs.getD j 0)))
theorem Rd.more {w : World} {p B B' : Nat} {A : Option Addr} {n : Nat} {xs : List Int} (h : Rd w p B A n xs) (hB : B ≤ B') : Rd w p B' A n xs :=
 ⟨h.1, fun hn => by obtain ⟨b, off, e, hb, hne, hc⟩ := h.2 hn; exact ⟨b, off, e, by omega, hne, hc⟩⟩
theorem Rd.keep {w w' : World} {p B : Nat} {A : Option Addr} {n : Nat} {xs : List Int} (h : Rd w p B A n xs) (hk : ∀ q : Addr, q.block < B → q.block ≠ p → w'.cell? q = w.cell? q) : Rd w' p B A n xs :=
 ⟨h.1, fun hn => by obtain ⟨b, off, e, hb, hne, hc⟩ := h.2 hn; exact ⟨b, off, e, hb, hne, fun j hj => (hk ⟨b, off + j, none⟩ hb hne).trans (hc j hj)⟩⟩
theorem Rd.grown {w w' : World} {p B : Nat} {A : Option Addr} {n : Nat} {xs : List Int} (h : Rd w p B A n xs) (hg : w.grownBy w' (some p)) (hB : B ≤ w.heap.size) : Rd w' p B A n xs :=
 h.keep fun q hq hne => World.cell?_of_block (hg.block q.block (by omega) (fun e => hne (by injection e)))
theorem Rd.below {w w' : World} {p B B' : Nat} {A : Option Addr} {n : Nat} {xs : List Int} (h : Rd w p B A n xs) (hb : Below B' w w') (hB : B ≤ B') : Rd w' p B A n xs :=
 h.keep fun q hq _ => hb.cell (by omega)
theorem Rd.seg {w : World} {p B : Nat} {A : Option Addr} {n : Nat} {xs : List Int} (h : Rd w p B A n xs) : Seg w B A n xs :=
 ⟨h.1, fun hn => by obtain ⟨b, off, e, hb, _, hc⟩ := h.2 hn; exact ⟨b, off, e, hb, hc⟩⟩
theorem Rd.of_own {w : World} {p base : Nat} {A : Option Addr} {n c : Nat} {xs : List Int} (h : Own w base (.slice A n c) xs) (hp : p < base) : Rd w p w.heap.size A n xs := by
 have hs := Own.seg h
 refine ⟨hs.1, fun hn => ?_⟩
 obtain ⟨b, off, e, hb, hc⟩ := hs.2 hn
 subst e
 exact ⟨b, off, rfl, hb, by have := Own.ge h b rfl; omega, hc⟩
theorem Own.none_cap {w : World} {base : Nat} {A : Option Addr} {n c : Nat} {xs : List Int} (h : Own w base (.slice A n c) xs) : A = none → c = 0 := by
 rintro rfl
 rcases h.form with ⟨e, _⟩ | ⟨g, c', cur, e, _⟩
 ·injection e
 ·injection e with e _ _; cases e
structure DT (w : World) (p : Nat) (A : Option Addr) (n c : Nat) (S : Option Addr) (sn sc : Nat) (sg : List Int) (wr : World) : Prop where
 d : Dice wr p A n c
 r : Row wr w.heap.size 26 #[.slice S sn sc]
 s : Rd wr p w.heap.size S sn sg
 g : w.grownBy wr (some p)
 hp : p < w.heap.size
section
variable {w : World} {p : Nat} {A : Option Addr} {n c : Nat} {S : Option Addr} {sn sc : Nat} {sg : List Int} {wr w' : World}
theorem DT.dice (t : DT w p A n c S sn sc sg wr) (d : Dice w' p A n c) (hg : wr.grownBy w' (some p)) : DT w p A n c S sn sc sg w' :=
 ⟨d, Row.away t.r hg (fun e => by injection e; have := t.hp; omega), t.s.grown hg t.g.size, grown_trans t.g hg, t.hp⟩
theorem DT.below (t : DT w p A n c S sn sc sg wr) (hb : Below (w.heap.size + 1) wr w') : DT w p A n c S sn sc sg w' :=
 ⟨t.d.keep (hb.mono (by have := t.hp; omega)), t.r.below hb (Nat.lt_succ_self _), t.s.below hb (Nat.le_succ _), ⟨hb.os.trans t.g.os, hb.tape.trans t.g.tape, hb.output.trans t.g.output, Nat.le_trans t.g.size hb.size, fun k hk hne => (hb.block k (by omega)).trans (t.g.block k hk hne)⟩, t.hp⟩
theorem DT.drew (t : DT w p A n c S sn sc sg wr) : DT w p A n c S sn sc sg wr.drew := ⟨t.d.drewN 1, t.r.drew, t.s, grown_drewN t.g 1, t.hp⟩
theorem DT.start (hd : Dice w p A n c) (hs : Rd w p w.heap.size S sn sg) : DT w p A n c S sn sc sg (w.alloc (.cells #[.slice S sn sc] 26)) :=
 ⟨hd.alloc _, Row.new _ _ _, hs.below ((Below.refl _ _).alloc (Nat.le_refl _) _) (Nat.le_refl _), World.grownBy_alloc _ _ _, hd.lt⟩
end
def AnsT (w : World) (p : Nat) (A : Option Addr) (n c L : Nat) (e : Ending) (w' : World) : Prop :=
 ∃ O on oc xs, e = .returned (.slice O on oc) ∧ Own w' w.heap.size (.slice O on oc) xs ∧ 1 ≤ on ∧ on ≤ L ∧ Dice w' p A n c ∧ w.grownBy w' (some p)
theorem leaf {w : World} {p : Nat} {A : Option Addr} {n c L : Nat} {S : Option Addr} {sn sc : Nat} {sg : List Int} {u : World} (t : DT w p A n c S sn sc sg u) (hL : 1 ≤ L) (y : Int) :
  AnsT w p A n c L (.returned (.slice (some ⟨u.heap.size, 0, none⟩) 1 1)) (u.alloc (.cells #[.int .i64 y] 2)) :=
 ⟨_, _, _, [y], rfl, Own.of_row (Row.new _ _ _) rfl rfl (Nat.le_refl _) (by omega) t.g.size (fun j hj => by match j, hj with | 0, _ => rfl), Nat.le_refl _, hL, t.d.alloc _, grown_trans t.g (World.grownBy_alloc _ _ _)⟩
def HeadT (w : World) (p : Nat) (A : Option Addr) (n c : Nat) (S : Option Addr) (sn sc : Nat) (sg : List Int) (M : Nat) (out k : Value) (wr : World) : Prop :=
 ∃ (q : Nat) (O : Option Addr) (on oc : Nat) (xs : List Int), k = .int .i64 q ∧ q ≤ 3 ∧ out = .slice O on oc ∧ Own wr (w.heap.size + 1) (.slice O on oc) xs ∧ 1 ≤ on ∧ on + q * M ≤ 1 + 3 * M ∧ DT w p A n c S sn sc sg wr
theorem one_le_four (f : Nat) : 1 ≤ 4 ^ f := Nat.one_le_pow _ _ (by omega)
set_option maxHeartbeats 4000000 in
theorem drawTerm (p : Nat) (A : Option Addr) (n c : Nat) (S : Option Addr) (sn sc : Nat) (sg : List Int) (vars : Int) (hs : Arities sg) (hn1 : 1 ≤ sn) (hn2 : sn ≤ 256) (hv0 : 1 ≤ vars) (hv1 : vars ≤ 256) : ∀ (f0 : Nat) (depth : Int) (w : World),
  Dice w p A n c → Rd w p w.heap.size S sn sg → f0 ≤ 4 → -1000 ≤ depth → depth ≤ (f0 : Int) + 1 →
  Calls Try.prog 102 #[.pointer (some ⟨p, 0, none⟩), .agg #[.slice S sn sc], .int .i64 depth, .int .i64 vars] w (AnsT w p A n c (4 ^ f0)) := by
 intro f0
 induction f0 with
 | zero =>
  intro depth w hd hr hf hlo hdep
  obtain ⟨LL, hLe⟩ : ∃ LL, 4 ^ 0 = LL := ⟨_, rfl⟩
  have hLL : 1 ≤ LL := by rw [← hLe]; exact one_le_four 0
  rw [hLe]
  clear hLe
  have T0 := DT.start (sc := sc) hd hr
  have hz : depth ≤ 1 := by omega
  obtain ⟨W, hW⟩ : ∃ W, W = w.alloc (.cells #[.slice S sn sc] 26) := ⟨_, rfl⟩
  rw [← hW] at T0
  have HW := hid hW
  clear hd hr hW
  go_enter Try.func102, Try.ntmps102
  go_wp2_with fail
  rw [← HW.out]
  have cS : W.cell? ⟨w.heap.size, 0, none⟩ = some (.slice S sn sc) := T0.r.cell 0
  go_wp2_with fail
  refine (once p A n c 2 _ T0.d (by omega) (by omega)).mono ?_
  rintro e u1 ⟨b, rfl, d1, g1⟩
  have T1 := T0.dice d1 g1
  clear d1 g1 cS T0
  cases b with
  | true =>
   go_wp2_with fail
   refine (below p A n c vars _ T1.d hv0 hv1).mono ?_
   rintro e u2 ⟨x, rfl, x0, x1, d2, g2⟩
   have F := hid (leaf (T1.dice d2 g2) hLL (-1 - x))
   clear T1 d2 g2
   go_wp2
   go_ret
   exact F.out
  | false =>
   have cS1 : u1.cell? ⟨w.heap.size, 0, none⟩ = some (.slice S sn sc) := T1.r.cell 0
   go_wp2_with fail
   go_loop [9] (fun i => ∃ k : Nat, k ≤ sn ∧ i = .int .i64 ((k : Int) - 1)) (fun i => (intOf i + 1).toNat)
   case atStart => exact ⟨sn, Nat.le_refl _, rfl⟩
   case round =>
    obtain ⟨k, hk, rfl⟩ := hrel
    by_cases hk0 : k = 0
    ·subst hk0
     have F := hid (leaf T1 hLL (-1))
     clear T1
     go_wp2
     go_ret
     exact F.out
    ·obtain ⟨k1, rfl⟩ : ∃ k1, k = k1 + 1 := ⟨k - 1, by omega⟩
     obtain ⟨b, off, y, rfl, hb, hy, ey⟩ := T1.s.seg.spot (show k1 < sn by omega)
     by_cases hy0 : y = 0
     ·subst hy0
      have F := hid (leaf T1 hLL (k1 : Int))
      clear T1 ey
      go_wp2
      go_ret
      exact F.out
     ·have e2 : (y == 0) = false := by simp [hy0]
      clear T1 ey
      go_wp2
      go_round
      case rel => exact ⟨k1, by omega, congrArg (Value.int .i64) (by omega)⟩
      case measure => first | (simp [intOf]; done) | (simp [intOf]; omega)
 | succ f ih =>
  intro depth w hd hr hf hlo hdep
  have IH := hid ih
  clear ih
  obtain ⟨M, hM⟩ : ∃ M, 4 ^ f = M := ⟨_, rfl⟩
  have hM1 : 1 ≤ M := by rw [← hM]; exact one_le_four f
  have hM2 : M ≤ 64 := by rw [← hM]; exact Nat.pow_le_pow_right (n := 4) (by omega) (show f ≤ 3 by omega)
  obtain ⟨LL, hLe⟩ : ∃ LL, 4 ^ (f + 1) = LL := ⟨_, rfl⟩
  have hLM : LL = 4 * M := by rw [← hLe, ← hM, Nat.pow_succ, Nat.mul_comm]
  have hLL : 1 ≤ LL := by omega
  rw [hLe]
  rw [hM] at IH
  clear hLe hM
  have HLM := hid hLM
  clear hLM
  have T0 := DT.start (sc := sc) hd hr
  obtain ⟨W, hW⟩ : ∃ W, W = w.alloc (.cells #[.slice S sn sc] 26) := ⟨_, rfl⟩
  rw [← hW] at T0
  have HW := hid hW
  clear hd hr hW
  by_cases hz : depth ≤ 1
  ·go_enter Try.func102, Try.ntmps102
   go_wp2_with fail
   rw [← HW.out]
   have cS : W.cell? ⟨w.heap.size, 0, none⟩ = some (.slice S sn sc) := T0.r.cell 0
   go_wp2_with fail
   refine (once p A n c 2 _ T0.d (by omega) (by omega)).mono ?_
   rintro e u1 ⟨b, rfl, d1, g1⟩
   have T1 := T0.dice d1 g1
   clear d1 g1 cS T0
   cases b with
   | true =>
    go_wp2_with fail
    refine (below p A n c vars _ T1.d hv0 hv1).mono ?_
    rintro e u2 ⟨x, rfl, x0, x1, d2, g2⟩
    have F := hid (leaf (T1.dice d2 g2) hLL (-1 - x))
    clear T1 d2 g2
    go_wp2
    go_ret
    exact F.out
   | false =>
    have cS1 : u1.cell? ⟨w.heap.size, 0, none⟩ = some (.slice S sn sc) := T1.r.cell 0
    go_wp2_with fail
    go_loop [9] (fun i => ∃ k : Nat, k ≤ sn ∧ i = .int .i64 ((k : Int) - 1)) (fun i => (intOf i + 1).toNat)
    case atStart => exact ⟨sn, Nat.le_refl _, rfl⟩
    case round =>
     obtain ⟨k, hk, rfl⟩ := hrel
     by_cases hk0 : k = 0
     ·subst hk0
      have F := hid (leaf T1 hLL (-1))
      clear T1
      go_wp2
      go_ret
      exact F.out
     ·obtain ⟨k1, rfl⟩ : ∃ k1, k = k1 + 1 := ⟨k - 1, by omega⟩
      obtain ⟨b, off, y, rfl, hb, hy, ey⟩ := T1.s.seg.spot (show k1 < sn by omega)
      by_cases hy0 : y = 0
      ·subst hy0
       have F := hid (leaf T1 hLL (k1 : Int))
       clear T1 ey
       go_wp2
       go_ret
       exact F.out
      ·have e2 : (y == 0) = false := by simp [hy0]
       clear T1 ey
       go_wp2
       go_round
       case rel => exact ⟨k1, by omega, congrArg (Value.int .i64) (by omega)⟩
       case measure => first | (simp [intOf]; done) | (simp [intOf]; omega)
  ·have hz1 : (1 : Int) < depth := by omega
   go_enter Try.func102, Try.ntmps102
   go_wp2_with fail
   rw [← HW.out]
   refine (once p A n c 4 _ T0.d (by omega) (by omega)).mono ?_
   rintro e u0 ⟨b, rfl, d0, g0⟩
   have T2 := T0.dice d0 g0
   clear d0 g0 T0
   cases b with
   | true =>
    have cS : u0.cell? ⟨w.heap.size, 0, none⟩ = some (.slice S sn sc) := T2.r.cell 0
    go_wp2_with fail
    refine (once p A n c 2 _ T2.d (by omega) (by omega)).mono ?_
    rintro e u1 ⟨b, rfl, d1, g1⟩
    have T1 := T2.dice d1 g1
    clear d1 g1 cS T2
    cases b with
    | true =>
     go_wp2_with fail
     refine (below p A n c vars _ T1.d hv0 hv1).mono ?_
     rintro e u2 ⟨x, rfl, x0, x1, d2, g2⟩
     have F := hid (leaf (T1.dice d2 g2) hLL (-1 - x))
     clear T1 d2 g2
     go_wp2
     go_ret
     exact F.out
    | false =>
     have cS1 : u1.cell? ⟨w.heap.size, 0, none⟩ = some (.slice S sn sc) := T1.r.cell 0
     go_wp2_with fail
     go_loop [9] (fun i => ∃ k : Nat, k ≤ sn ∧ i = .int .i64 ((k : Int) - 1)) (fun i => (intOf i + 1).toNat)
     case atStart => exact ⟨sn, Nat.le_refl _, rfl⟩
     case round =>
      obtain ⟨k, hk, rfl⟩ := hrel
      by_cases hk0 : k = 0
      ·subst hk0
       have F := hid (leaf T1 hLL (-1))
       clear T1
       go_wp2
       go_ret
       exact F.out
      ·obtain ⟨k1, rfl⟩ : ∃ k1, k = k1 + 1 := ⟨k - 1, by omega⟩
       obtain ⟨b, off, y, rfl, hb, hy, ey⟩ := T1.s.seg.spot (show k1 < sn by omega)
       by_cases hy0 : y = 0
       ·subst hy0
        have F := hid (leaf T1 hLL (k1 : Int))
        clear T1 ey
        go_wp2
        go_ret
        exact F.out
       ·have e2 : (y == 0) = false := by simp [hy0]
        clear T1 ey
        go_wp2
        go_round
        case rel => exact ⟨k1, by omega, congrArg (Value.int .i64) (by omega)⟩
        case measure => first | (simp [intOf]; done) | (simp [intOf]; omega)
   | false =>
    have cS : u0.cell? ⟨w.heap.size, 0, none⟩ = some (.slice S sn sc) := T2.r.cell 0
    go_wp2_with fail
    refine (below p A n c (sn : Int) _ T2.d (by omega) (by omega)).mono ?_
    rintro e u1 ⟨x, rfl, x0, x1, d1, g1⟩
    obtain ⟨k, rfl⟩ := Int.eq_ofNat_of_zero_le x0
    have T3 := T2.dice d1 g1
    have hks : k < sn := by omega
    have hsl := T3.s.1
    obtain ⟨b, off, y, rfl, hb, hy, ey⟩ := T3.s.seg.spot hks
    have hyb := hs k (by omega)
    rw [ey.out] at hyb
    obtain ⟨q, rfl⟩ := Int.eq_ofNat_of_zero_le hyb.1
    have hq3 : q ≤ 3 := by omega
    have T4 : DT w p A n c (some ⟨b, off, none⟩) sn sc sg (u1.alloc (.cells #[.int .i64 (k : Int)] 2)) := T3.below ((Below.refl _ _).alloc (by have := T3.r.lt; omega) _)
    have O4 : Own (u1.alloc (.cells #[.int .i64 (k : Int)] 2)) (w.heap.size + 1) (.slice (some ⟨u1.heap.size, 0, none⟩) 1 1) [(k : Int)] :=
     Own.of_row (Row.new _ _ _) rfl rfl (Nat.le_refl _) (by omega) (by have := T3.r.lt; omega) (fun j hj => by match j, hj with | 0, _ => rfl)
    have H0 : HeadT w p A n c (some ⟨b, off, none⟩) sn sc sg M (.slice (some ⟨u1.heap.size, 0, none⟩) 1 1) (.int .i64 (q : Int)) (u1.alloc (.cells #[.int .i64 (k : Int)] 2)) :=
     ⟨q, _, _, _, _, rfl, hq3, rfl, O4, Nat.le_refl _, by have := Nat.mul_le_mul_right M hq3; omega, T4⟩
    have HH := hid H0
    have cS1 : u1.cell? ⟨w.heap.size, 0, none⟩ = some (.slice (some ⟨b, off, none⟩) sn sc) := T3.r.cell 0
    have zN : w.heap.size < u1.heap.size := T3.r.lt
    have zb : b < u1.heap.size := by omega
    have i1 : (k : Int) < (sn : Int) := by omega
    clear H0 T4 O4 T3 T2 d1 g1 cS ey hsl hyb
    go_wp2_with fail
    go_loopw [11, 12] (fun out kk wr => HeadT w p A n c (some ⟨b, off, none⟩) sn sc sg M out kk wr) (fun _ kk _ => (intOf kk).toNat)
    case atStart => exact HH.out
    case round =>
     obtain ⟨q, O, on, oc, xs, rfl, hq3, rfl, ho, ho1, hoM, T⟩ := hrel
     clear HH
     have cS : wr.cell? ⟨w.heap.size, 0, none⟩ = some (.slice (some ⟨b, off, none⟩) sn sc) := T.r.cell 0
     cases q with
     | zero =>
      have F : AnsT w p A n c LL (.returned (.slice O on oc)) wr := ⟨O, on, oc, xs, rfl, Own.lower ho (Nat.le_succ _), ho1, by have := HLM.out; omega, T.d, T.g⟩
      have HF := hid F
      clear F T ho
      go_wp2
      go_ret
      exact HF.out
     | succ q =>
      have e0 : (0 : Int) < ((q + 1 : Nat) : Int) := by omega
      have hoM' : on + q * M + M ≤ 1 + 3 * M := by have e : (q + 1) * M = q * M + M := Nat.succ_mul q M; omega
      have hon : on ≤ 193 := by have := Nat.zero_le (q * M); omega
      go_wp2_with fail
      refine (IH.out (depth - 1) wr T.d (T.s.more T.g.size) (by omega) (by omega) (by omega)).mono ?_
      rintro e u2 ⟨O2, on2, oc2, ys, rfl, o2, h1, h2, d2, g2⟩
      have T2 := T.dice d2 g2
      have ho2 := Own.far ho g2 (fun k hk => by injection hk; have := T.hp; omega)
      have z2 := T2.r.lt
      clear ho T d2 g2 cS
      go_wp2_with (at_builtin; refine appAll rfl _ _ rfl (w.heap.size + 1) O on oc xs rfl ho2 O2 on2 oc2 u2.heap.size ys rfl (Own.seg o2) (Own.none_cap o2) (by omega) (by omega) (by omega) ?_; intro O3 oc3 u3 ho3 b3)
      have F : HeadT w p A n c (some ⟨b, off, none⟩) sn sc sg M (.slice O3 (on + on2) oc3) (.int .i64 (q : Int)) u3 := ⟨q, O3, on + on2, oc3, _, rfl, by omega, rfl, ho3, by omega, by omega, T2.below b3⟩
      have HF := hid F
      clear F ho3 b3 T2 ho2 o2
      go_wp2
      go_roundw
      case rel => first | exact HF.out | simpa using HF.out
      case measure => simp [intOf]
end drawTerm
end
section
open Go.Lib (hid)
namespace drawAny
open Go.RowKit base ints sig term cursor termOk marks app sym dice drawSig drawTerm
set_option maxRecDepth 100000
def AnsR (w : World) (p : Nat) (A : Option Addr) (n c L : Nat) (e : Ending) (w' : World) : Prop :=
 ∃ O on oc xs, e = .returned (.slice O on oc) ∧ Rd w' p w'.heap.size O on xs ∧ on ≤ oc ∧ oc ≤ 9223372036854775807 ∧ (O = none → oc = 0) ∧ on ≤ L ∧ Dice w' p A n c ∧ w.grownBy w' (some p)
theorem Own.cap {w : World} {base : Nat} {O : Option Addr} {on oc : Nat} {xs : List Int} (h : Own w base (.slice O on oc) xs) : on ≤ oc ∧ oc ≤ 9223372036854775807 := by
 rcases h.2 with ⟨e, _⟩ | ⟨g, cap, cur, e, _, _, h1, h2, _⟩
 ·injection e with _ e1 e2; omega
 ·injection e with _ e1 e2
  have := Own.len h
  unfold maxLen at h2
  omega
def AnsRN (w : World) (p : Nat) (A : Option Addr) (n c L : Nat) (e : Ending) (w' : World) : Prop :=
 ∃ O on oc xs, e = .returned (.slice O on oc) ∧ Rd w' p w'.heap.size O on xs ∧ on ≤ oc ∧ oc ≤ 9223372036854775807 ∧ (O = none → oc = 0) ∧ on ≤ L ∧ Dice w' p A n c ∧ w.grownBy w' (some p) ∧ ∀ k, blk O = some k → w.heap.size ≤ k
theorem ansRN_own {w w' : World} {p : Nat} {A : Option Addr} {n c L : Nat} {O : Option Addr} {on oc base : Nat} {xs : List Int} (h : Own w' base (.slice O on oc) xs) (hp : p < base) (hb : w.heap.size ≤ base) (hL : on ≤ L) (d : Dice w' p A n c) (g : w.grownBy w' (some p)) : AnsRN w p A n c L (.returned (.slice O on oc)) w' :=
 ⟨O, on, oc, xs, rfl, Rd.of_own h hp, (Own.cap h).1, (Own.cap h).2, Own.none_cap h, hL, d, g, fun k hk => Nat.le_trans hb (Own.ge h k hk)⟩
theorem Own.some_ {w : World} {base : Nat} {O : Option Addr} {on oc : Nat} {xs : List Int} (h : Own w base (.slice O on oc) xs) (h1 : 1 ≤ on) : ∃ g, O = some ⟨g, 0, none⟩ := by
 rcases h.2 with ⟨e, _⟩ | ⟨g, cap, cur, e, _⟩
 ·injection e with _ e1 e2; omega
 ·injection e with e _ _; exact ⟨g, e⟩
theorem Own.cellAt {w : World} {base g on oc : Nat} {xs : List Int} (h : Own w base (.slice (some ⟨g, 0, none⟩) on oc) xs) {k : Nat} (hk : k < on) : ∃ u, w.cell? ⟨g, k, none⟩ = some u := by
 have hl := Own.len h
 subst hl
 have := World.ownsRow.cellAt h k (by omega)
 exact ⟨_, this.trans (List.getElem?_eq_getElem (by simpa using hk))⟩
theorem Own.frozenAt {w : World} {base g on oc : Nat} {xs : List Int} (h : Own w base (.slice (some ⟨g, 0, none⟩) on oc) xs) (k : Nat) : w.frozen? ⟨g, k, none⟩ = false := by
 have hl := Own.len h
 subst hl
 exact World.ownsRow.frozenAt h k
theorem Own.put {w : World} {base g on oc : Nat} {xs : List Int} (h : Own w base (.slice (some ⟨g, 0, none⟩) on oc) xs) (k : Nat) (y : Int) : Own (w.setCell ⟨g, k, none⟩ (.int .i64 y)) base (.slice (some ⟨g, 0, none⟩) on oc) (xs.set k y) := by
 have hl := Own.len h
 subst hl
 have := World.ownsRow.stored h k (.int .i64 y)
 unfold Own
 rw [List.length_set, List.map_set]
 exact this.1
theorem Rd.tail {w : World} {p B b off n : Nat} {xs : List Int} (h : Rd w p B (some ⟨b, off, none⟩) n xs) (h1 : 1 ≤ n) : Rd w p B (some ⟨b, off + 1, none⟩) (n - 1) (xs.drop 1) := by
 refine ⟨by have := h.1; simp; omega, fun hn => ?_⟩
 obtain ⟨b', off', e, hb, hne, hc⟩ := h.2 (by omega)
 injection e with e
 injection e with e1 e2
 subst e1 e2
 refine ⟨_, _, rfl, hb, hne, fun j hj => ?_⟩
 rw [Nat.add_assoc, hc (1 + j) (by omega)]
 simp [List.getD, Nat.add_comm]
theorem Rd.none_ {w : World} {p B : Nat} {O : Option Addr} : Rd w p B O 0 [] := ⟨rfl, fun h => absurd h (by omega)⟩
set_option maxHeartbeats 4000000 in
theorem drawAnyN (p : Nat) (A : Option Addr) (n c : Nat) (S : Option Addr) (sn sc : Nat) (sg : List Int) (w : World) (hd : Dice w p A n c) (hr : Rd w p w.heap.size S sn sg) (hsn : sn ≤ 1048576) :
  Calls Try.prog 59 #[.pointer (some ⟨p, 0, none⟩), .agg #[.slice S sn sc]] w (AnsRN w p A n c 65) := by
 have T0 := DT.start (sc := sc) hd hr
 obtain ⟨W, hW⟩ : ∃ W, W = w.alloc (.cells #[.slice S sn sc] 26) := ⟨_, rfl⟩
 rw [← hW] at T0
 have HW := hid hW
 clear hd hr hW
 have hN := T0.hp
 by_cases hs0 : sn = 0
 ·subst hs0
  go_enter Try.func59, Try.ntmps59
  go_wp2_with fail
  rw [← HW.out]
  refine (fromTo p A n c (-2) 2 _ T0.d (by omega) (by omega) (by omega) (by omega)).mono ?_
  rintro e u1 ⟨x, rfl, x0, x1, d1, g1⟩
  obtain ⟨O, on, oc, xs, he, o1, h1, h2, d2, g2⟩ := leaf (L := 1) (T0.dice d1 g1) (Nat.le_refl _) x
  have F : AnsRN w p A n c 65 _ _ := ansRN_own o1 hN (Nat.le_refl _) (by omega) d2 g2
  rw [← he] at F
  have HF := hid F
  clear F he o1 d2 g2 T0 d1 g1
  go_wp2
  go_ret
  exact HF.out
 ·have e0 : ((sn : Int) == 0) = false := by simp; omega
  have L := hid (specSigOk S sn sc sg W (T0.s.seg.more T0.g.size) hsn)
  cases hok : sigOkB sg with
  | false =>
   have HS := hid hok
   clear hok
   go_enter Try.func59, Try.ntmps59
   go_wp2_with fail
   rw [← HW.out]
   refine L.out.mono ?_
   rintro e u0 ⟨he, bb⟩
   rw [HS.out] at he
   subst he
   have T1 := T0.below (bb.mono (by have := T0.r.lt; omega))
   clear T0 bb L
   go_wp2_with fail
   refine (fromTo p A n c (-2) 2 _ T1.d (by omega) (by omega) (by omega) (by omega)).mono ?_
   rintro e u1 ⟨x, rfl, x0, x1, d1, g1⟩
   obtain ⟨O, on, oc, xs, he, o1, h1, h2, d2, g2⟩ := leaf (L := 1) (T1.dice d1 g1) (Nat.le_refl _) x
   have F : AnsRN w p A n c 65 _ _ := ansRN_own o1 hN (Nat.le_refl _) (by omega) d2 g2
   rw [← he] at F
   have HF := hid F
   clear F he o1 d2 g2 T1 d1 g1
   go_wp2
   go_ret
   exact HF.out
  | true =>
   have HS := hid hok
   have hars := (sig_arities hok).1
   have hl8 := (sig_arities hok).2.2
   have hsl := T0.s.1
   have hs8 : sn ≤ 8 := by omega
   clear hok hsl hl8
   go_enter Try.func59, Try.ntmps59
   go_wp2_with fail
   rw [← HW.out]
   refine L.out.mono ?_
   rintro e u0 ⟨he, bb⟩
   rw [HS.out] at he
   subst he
   have T1 := (T0.below (bb.mono (by have := T0.r.lt; omega))).drew
   have cS : u0.cell? ⟨w.heap.size, 0, none⟩ = some (.slice S sn sc) := T1.r.cell 0
   clear T0 bb L
   go_wp2_with fail
   go_region_held3 (fun w' => w'.cell? ⟨w.heap.size, 0, none⟩ = some (.slice S sn sc))
    (go_keep)
    (first
     | (go_at_call 61; refine (below p A n c 4 _ T1.d (by omega) (by omega)).mono ?_; rintro e u1 ⟨x, rfl, x0, x1, d1, g1⟩; have T2 := T1.dice d1 g1; have cS2 : u1.cell? ⟨w.heap.size, 0, none⟩ = some (.slice S sn sc) := T2.r.cell 0; have hw : IntKind.i64.wrap (1 + x) = 1 + x := by rw [IntKind.wrap_i64]; omega)
     | (go_at_call 102; refine (drawTerm p A n c S sn sc sg 3 hars (by omega) (by omega) (by omega) (by omega) 3 (1 + x) u1 T2.d (T2.s.more T2.g.size) (by omega) (by clear hw; omega) (by clear hw; omega)).mono ?_; rintro e u2 ⟨O, on, oc, xs, rfl, o2, h1, h2, d2, g2⟩; have T3 := T2.dice d2 g2; have cS3 : u2.cell? ⟨w.heap.size, 0, none⟩ = some (.slice S sn sc) := T3.r.cell 0))
   have o3 : Own u2 (w.heap.size + 1) (.slice O on oc) xs := Own.lower o2 (by have := T2.r.lt; omega)
   obtain ⟨gg, rfl⟩ := Own.some_ o3 h1
   have hgg : w.heap.size + 1 ≤ gg := Own.ge o3 gg rfl
   have hL : on ≤ 64 := h2
   clear hw o2 T2 T1 d1 g1 d2 g2 cS cS2 cS3 h2 x0 x1
   have hp1 : p < w.heap.size + 1 := by omega
   go_wp2_with fail
   refine (once p A n c 12 _ T3.d (by omega) (by omega)).mono ?_
   rintro e u3 ⟨b, rfl, d1, g1⟩
   have T4 := T3.dice d1 g1
   have o4 := Own.far o3 g1 (fun k hk => by injection hk; omega)
   clear T3 o3 d1 g1
   cases b with
   | false =>
    have F : AnsRN w p A n c 65 (.returned (.slice (some ⟨gg, 0, none⟩) on oc)) u3 := ansRN_own o4 hp1 (by omega) (by omega) T4.d T4.g
    have HF := hid F
    clear F T4 o4
    go_wp2
    go_ret
    exact HF.out
   | true =>
    go_wp2_with fail
    refine (below p A n c 4 _ T4.d (by omega) (by omega)).mono ?_
    rintro e u4 ⟨x, rfl, x0, x1, d1, g1⟩
    have T5 := T4.dice d1 g1
    have o5 := Own.far o4 g1 (fun k hk => by injection hk; omega)
    clear T4 o4 d1 g1
    by_cases hx0 : x = 0
    ·subst hx0
     go_wp2_with fail
     refine (fromTo p A n c (-2) 3 _ T5.d (by omega) (by omega) (by omega) (by omega)).mono ?_
     rintro e u5 ⟨y, rfl, y0, y1, d1, g1⟩
     have T6 := T5.dice d1 g1
     have o6 := Own.far o5 g1 (fun k hk => by injection hk; omega)
     have z6 := T6.r.lt
     clear T5 o5 d1 g1 x0 x1
     go_wp2_with (at_builtin; refine app1 rfl _ _ rfl (w.heap.size + 1) (some ⟨gg, 0, none⟩) on oc xs rfl (Own.alloc o6 _) u5.heap.size 1 y rfl ((Row.new _ _ _).cell 0) (by omega) (by simp; omega) ?_; intro O' oc' u6 o7 b7)
     have T7 := (T6.below ((Below.refl _ _).alloc (by omega) (.cells #[.int .i64 y] 2))).below b7
     have F : AnsRN w p A n c 65 (.returned (.slice O' (on + 1) oc')) u6 := ansRN_own o7 hp1 (by omega) (by omega) T7.d T7.g
     have HF := hid F
     clear F T7 T6 o6 o7 b7
     go_wp2
     go_ret
     exact HF.out
    ·by_cases hx1 : x = 1
     ·subst hx1
      go_wp2_with fail
      refine (below p A n c (on : Int) _ T5.d (by omega) (by omega)).mono ?_
      rintro e u5 ⟨y, rfl, y0, y1, d1, g1⟩
      obtain ⟨k, rfl⟩ := Int.eq_ofNat_of_zero_le y0
      have T6 := T5.dice d1 g1
      have o6 := Own.far o5 g1 (fun k hk => by injection hk; omega)
      clear T5 o5 d1 g1 x0 x1 hx0
      go_wp2_with fail
      refine (fromTo p A n c (-3) 4 _ T6.d (by omega) (by omega) (by omega) (by omega)).mono ?_
      rintro e u6 ⟨z, rfl, z0, z1, d1, g1⟩
      have T7 := T6.dice d1 g1
      have o7 := Own.far o6 g1 (fun k hk => by injection hk; omega)
      have hk : k < on := by omega
      have i1 : (k : Int) < (on : Int) := by omega
      obtain ⟨u, hu⟩ := Own.cellAt o7 hk
      have hf := Own.frozenAt o7 k
      have o8 := Own.put o7 k z
      have T8 := T7.below ((Below.refl (w.heap.size + 1) u6).setCell (p := ⟨gg, k, none⟩) hgg (.int .i64 z))
      have F : AnsRN w p A n c 65 (.returned (.slice (some ⟨gg, 0, none⟩) on oc)) (u6.setCell ⟨gg, k, none⟩ (.int .i64 z)) := ansRN_own o8 hp1 (by omega) (by omega) T8.d T8.g
      have HF := hid F
      clear F T8 T7 T6 o8 o7 o6 d1 g1
      go_wp2
      go_ret
      exact HF.out
     ·by_cases hx2 : x = 2
      ·subst hx2
       have hcap := Own.cap o5
       have hrd := Rd.of_own o5 hp1
       by_cases hc1 : oc = 1
       ·subst hc1
        have e1 : on = 1 := by omega
        subst e1
        have F : AnsRN w p A n c 65 (.returned (.slice (some ⟨gg, 0, none⟩) 0 0)) u4 := ⟨_, 0, 0, [], rfl, Rd.none_, Nat.le_refl _, by omega, fun e => rfl, by omega, T5.d, T5.g, fun k hk => by (injection hk with e); have e2 : gg = k := e; omega⟩
        have HF := hid F
        clear F T5 o5 hrd x0 x1 hx0 hx1
        go_wp2
        go_ret
        exact HF.out
       ·have F : AnsRN w p A n c 65 (.returned (.slice (some ⟨gg, 0 + 1, none⟩) (on - 1) (oc - 1))) u4 := ⟨_, _, _, _, rfl, Rd.tail hrd h1, by omega, by omega, (fun e => by cases e), by omega, T5.d, T5.g, fun k hk => by (injection hk with e); have e2 : gg = k := e; omega⟩
        have HF := hid F
        have hc2 : ¬ oc = 1 := hc1
        have i1 : (1 : Int) ≤ (on : Int) := by omega
        have i2 : (1 : Int) ≤ (oc : Int) := by omega
        have i3 : (on : Int) ≤ (oc : Int) := by omega
        have i4 : 1 ≤ on := h1
        have i5 : on ≤ oc := hcap.1
        clear F T5 o5 hrd x0 x1 hx0 hx1 hc1 hcap
        go_wp2
        go_ret
        exact HF.out
      ·have e3 : x = 3 := by omega
       subst e3
       clear x0 x1 hx0 hx1 hx2
       go_wp2_with fail
       refine (odd p A n c _ T5.d).mono ?_
       rintro e u5 ⟨y, rfl, d1, g1⟩
       have T6 := T5.dice d1 g1
       have o6 := Own.far o5 g1 (fun k hk => by injection hk; omega)
       have z6 := T6.r.lt
       clear T5 o5 d1 g1
       go_wp2_with (at_builtin; refine app1 rfl _ _ rfl (w.heap.size + 1) (some ⟨gg, 0, none⟩) on oc xs rfl (Own.alloc o6 _) u5.heap.size 1 y rfl ((Row.new _ _ _).cell 0) (by omega) (by simp; omega) ?_; intro O' oc' u6 o7 b7)
       have T7 := (T6.below ((Below.refl _ _).alloc (by omega) (.cells #[.int .i64 y] 2))).below b7
       have F : AnsRN w p A n c 65 (.returned (.slice O' (on + 1) oc')) u6 := ansRN_own o7 hp1 (by omega) (by omega) T7.d T7.g
       have HF := hid F
       clear F T7 T6 o6 o7 b7
       go_wp2
       go_ret
       exact HF.out
theorem drawAny (p : Nat) (A : Option Addr) (n c : Nat) (S : Option Addr) (sn sc : Nat) (sg : List Int) (w : World) (hd : Dice w p A n c) (hr : Rd w p w.heap.size S sn sg) (hsn : sn ≤ 1048576) :
  Calls Try.prog 59 #[.pointer (some ⟨p, 0, none⟩), .agg #[.slice S sn sc]] w (AnsR w p A n c 65) :=
 (drawAnyN p A n c S sn sc sg w hd hr hsn).mono fun _ _ ⟨O, on, oc, xs, h1, h2, h3, h4, h5, h6, h7, h8, _⟩ => ⟨O, on, oc, xs, h1, h2, h3, h4, h5, h6, h7, h8⟩
end drawAny
end
section
namespace drawTwo
open Go.RowKit base ints sig term cursor termOk marks app sym dice drawSig drawTerm drawAny
set_option maxRecDepth 100000
def AnsNew (w : World) (A : Option Addr) (n c : Nat) (e : Ending) (w' : World) : Prop := ∃ p, e = .returned (.pointer (some ⟨p, 0, none⟩)) ∧ w.heap.size ≤ p ∧ Dice w' p A n c ∧ Below w.heap.size w w'
set_option maxHeartbeats 1000000 in
theorem new_ (A : Option Addr) (n c : Nat) (w : World) (h : SegB w w.heap.size A n) (hn : n ≤ 4096) :
  Calls Try.prog 56 #[.slice A n c] w (AnsNew w A n c) := by
 go_enter Try.func56, Try.ntmps56
 go_wp2_with fail
 go_loop [3, 4] (fun hh i => ∃ (k : Nat) (h0 : Int), k ≤ n ∧ i = .int .i64 k ∧ hh = .int .i64 h0) (fun _ i => n - (intOf i).toNat)
 case atStart => exact ⟨0, _, Nat.zero_le _, rfl, rfl⟩
 case round =>
  obtain ⟨k, h0, hk, rfl, rfl⟩ := hrel
  by_cases hlt : k < n
  ·obtain ⟨b, off, rfl, hb, hc⟩ := h (by omega)
   obtain ⟨y, hy0, hy1, hy⟩ := hc k hlt
   clear hc h
   go_wp2
   go_round
   case rel => exact ⟨k + 1, _, hlt, by go_num, rfl⟩
   case measure => simp [intOf]; omega
  ·have F : AnsNew w A n c (.returned (.pointer (some ⟨w.heap.size, 0, none⟩))) (w.alloc (.cells #[.slice A n c, .int .i64 0, .int .i64 h0] 98)) :=
    ⟨_, rfl, Nat.le_refl _, ⟨0, h0, Row.new _ _ _, Nat.zero_le _, h.keep (fun q hq => World.cell?_alloc_lt w _ q hq), hn⟩, (Below.refl _ _).alloc (Nat.le_refl _) _⟩
   have HF := Lib.hid F
   clear F h
   go_wp2
   go_ret
   exact HF.out
end drawTwo
end
section
namespace drawPair
open Go.RowKit base ints sig term cursor termOk marks app sym dice drawSig drawTerm drawAny drawTwo
set_option maxRecDepth 100000
theorem Rd.other {w : World} {p B N : Nat} {O : Option Addr} {on : Nat} {xs : List Int} {a : Option Addr} {l k : Nat} (h : Rd w p B O on xs) (hN : w.cell? ⟨N, 0, none⟩ = some (.slice a l k)) (u : Value) : Rd (w.setCell ⟨N, 0, none⟩ u) p B O on xs :=
 ⟨h.1, fun hn => by
  obtain ⟨b, off, e, hb, hne, hc⟩ := h.2 hn
  refine ⟨b, off, e, hb, hne, fun j hj => ?_⟩
  rw [World.cell?_setCell_other w _ _ _ (fun e => by rw [e] at hN; rw [hc j hj] at hN; cases hN)]
  exact hc j hj⟩
theorem Dice.other {w : World} {p N : Nat} {A : Option Addr} {n c : Nat} {a : Option Addr} {l k : Nat} (d : Dice w p A n c) (hN : w.cell? ⟨N, 0, none⟩ = some (.slice a l k)) (hp : p ≠ N) (u : Value) : Dice (w.setCell ⟨N, 0, none⟩ u) p A n c := by
 obtain ⟨i, h, d⟩ := d
 refine ⟨i, h, d.row.far (p := ⟨N, 0, none⟩) hp u, d.le, fun hn => ?_, d.hn⟩
 obtain ⟨b, off, e, hb, hc⟩ := d.s hn
 refine ⟨b, off, e, hb, fun j hj => ?_⟩
 obtain ⟨x, x0, x1, hx⟩ := hc j hj
 refine ⟨x, x0, x1, ?_⟩
 rw [World.cell?_setCell_other w _ _ _ (fun e => by rw [e] at hN; rw [hx] at hN; cases hN)]
 exact hx
end drawPair
end
section
namespace drawOne
open Go.RowKit base ints sig term cursor termOk marks app sym dice drawSig drawTerm drawAny drawPair
theorem grown_set {a b : World} {r : Option Nat} (h : a.grownBy b r) {q : Nat} (hq : a.heap.size ≤ q) (i : Nat) (u : Value) : a.grownBy (b.setCell ⟨q, i, none⟩ u) r :=
 ⟨h.os, h.tape, h.output, by simpa [World.setCell] using h.size, fun k hk hn => (Below.heap_setCell _ _ _ _ (by show k ≠ q; omega)).trans (h.block k hk hn)⟩
def AnsOne (w : World) (p : Nat) (A : Option Addr) (n c : Nat) (e : Ending) (w' : World) : Prop :=
 ∃ S sn sc sg O on oc xs, e = .returned (.tuple #[.agg #[.slice S sn sc], .slice O on oc]) ∧ Rd w' p w'.heap.size S sn sg ∧ Rd w' p w'.heap.size O on xs ∧ sn ≤ 9 ∧ on ≤ 65 ∧ on ≤ oc ∧ oc ≤ 9223372036854775807 ∧ Dice w' p A n c ∧ w.grownBy w' (some p)
theorem one_of {w u : World} {p : Nat} {A : Option Addr} {n c : Nat} {S : Option Addr} {sn sc : Nat} {sg : List Int} {O : Option Addr} {on oc : Nat} {xs : List Int} {B : Nat} {a : Option Addr} {l k : Nat} (hs : Rd u p B S sn sg) (hB : B ≤ u.heap.size) (ho : Rd u p u.heap.size O on xs)
  (h1 : sn ≤ 9) (h2 : on ≤ 65) (h3 : on ≤ oc) (h4 : oc ≤ 9223372036854775807) (d : Dice u p A n c) (hp : p < w.heap.size) (hg : w.grownBy u (some p)) (hN : u.cell? ⟨w.heap.size, 0, none⟩ = some (.slice a l k)) :
  AnsOne w p A n c (.returned (.tuple #[.agg #[.slice S sn sc], .slice O on oc])) (u.setCell ⟨w.heap.size, 0, none⟩ (.slice S sn sc)) :=
 ⟨S, sn, sc, sg, O, on, oc, xs, rfl, (Rd.other (Rd.more hs hB) hN _).more (by simp), (Rd.other ho hN _).more (by simp), h1, h2, h3, h4, Dice.other d hN (by omega) _, grown_set hg (Nat.le_refl _) _ _⟩
set_option maxHeartbeats 4000000 in
theorem drawOne (p : Nat) (A : Option Addr) (n c : Nat) (w : World) (hd : Dice w p A n c) :
  Calls Try.prog 57 #[.pointer (some ⟨p, 0, none⟩)] w (AnsOne w p A n c) := by
 have hp := hd.lt
 obtain ⟨W0, hW0⟩ : ∃ W0, W0 = w.alloc (.cells #[.slice none 0 0] 26) := ⟨_, rfl⟩
 have rN : Row W0 w.heap.size 26 #[.slice none 0 0] := by rw [hW0]; exact Row.new _ _ _
 have d0 : Dice W0 p A n c := by rw [hW0]; exact hd.alloc _
 have g0 : w.grownBy W0 (some p) := by rw [hW0]; exact World.grownBy_alloc _ _ _
 have L2 := Lib.hid (drawSigAny p A n c W0 d0)
 have hp1 := d0.lt
 have zp : ¬ p = w.heap.size := by omega
 have HW0 := Lib.hid hW0
 clear hd d0 hW0
 go_enter Try.func57, Try.ntmps57
 go_wp2_with fail
 rw [← HW0.out]
 refine L2.out.mono ?_
 rintro e w2 ⟨S, sn, sc, sg, rfl, o2, hshort, d2, g2⟩
 have hsn : sn ≤ 9 := by rw [Own.len o2]; exact hshort
 have z0 := rN.lt
 have z2 := g2.size
 replace rN := Row.away rN g2 (fun e => by injection e; omega)
 have G2 := grown_trans g0 g2
 have T0 := DT.start (sc := sc) d2 (Rd.of_own o2 hp1)
 obtain ⟨W, hW⟩ : ∃ W, W = w2.alloc (.cells #[.slice S sn sc] 26) := ⟨_, rfl⟩
 replace rN : Row W w.heap.size 26 #[.slice none 0 0] := by rw [hW]; exact rN.alloc _
 rw [← hW] at T0
 have HW := Lib.hid hW
 have cV : W.cell? ⟨w2.heap.size, 0, none⟩ = some (.slice S sn sc) := T0.r.cell 0
 have cN : W.cell? ⟨w.heap.size, 0, none⟩ = some (.slice none 0 0) := rN.cell 0
 have fN : W.frozen? ⟨w.heap.size, 0, none⟩ = false := rN.free 0
 have zNv : w.heap.size < w2.heap.size := by omega
 have zne1 : ¬ w2.heap.size = w.heap.size := by omega
 have zne2 : ¬ w.heap.size = w2.heap.size := by omega
 have T1 := T0.drew
 have rN1 := rN.drew
 clear o2 hshort d2 g2 g0 T0 hW L2 rN
 go_wp2_with fail
 rw [← HW.out]
 go_region_held3 (fun w' => w'.cell? ⟨w2.heap.size, 0, none⟩ = some (.slice S sn sc))
  (go_keep)
  (first
   | (go_at_call 59; refine (drawAny p A n c S sn sc sg W.drew T1.d (T1.s.more T1.g.size) (by omega)).mono ?_; rintro e w3 ⟨O, on, oc, xs, rfl, ra, h1, h2, h3, h4, d3, g3⟩; have T2 := T1.dice d3 g3; have cV3 : w3.cell? ⟨w2.heap.size, 0, none⟩ = some (.slice S sn sc) := T2.r.cell 0; have rN3 := Row.away rN1 g3 (fun e => by injection e; omega); have cN3 : w3.cell? ⟨w.heap.size, 0, none⟩ = some (.slice none 0 0) := rN3.cell 0; have fN3 : w3.frozen? ⟨w.heap.size, 0, none⟩ = false := rN3.free 0; have F := Lib.hid (one_of (sc := sc) (p := p) T2.s T2.g.size ra hsn h4 h1 h2 T2.d hp (grown_trans G2 T2.g) cN3)))
 clear cV3 rN3 T2 ra d3 g3 rN1 T1 G2 fN3
 go_wp2
 exact bodyPost_ret (v := .tuple #[.agg #[.slice S sn sc], .slice O on oc]) (by simp [results, Try.results57, go_sem, cN3]) rfl F.out
end drawOne
end
section
namespace fillMath
open sig term termOk termFacts varsMath
def vt (i : Nat) : List Int := [-1 - (i : Int)]
def rep (L : Nat → List Int) (n : Int) : List Int := if 0 ≤ n then [n] else L (-1 - n).toNat
def fillL (L : Nat → List Int) (t : List Int) : List Int := t.flatMap (rep L)
theorem rep_sym {L : Nat → List Int} {n : Int} (h : 0 ≤ n) : rep L n = [n] := by unfold rep; rw [if_pos h]
theorem rep_var {L : Nat → List Int} {n : Int} (h : n < 0) : rep L n = L (-1 - n).toNat := by unfold rep; rw [if_neg (by omega)]
theorem fill_cons (L : Nat → List Int) (x : Int) (r : List Int) : fillL L (x :: r) = rep L x ++ fillL L r := by simp [fillL]
theorem scan_join {sg : List Int} : ∀ {l l' : List Int} {q q' j : Nat}, scan sg q l = some l.length → scan sg q' l' = some j → scan sg (q + q') (l ++ l') = some (l.length + j)
 | [], l', q, q', j, h, h' => by
  cases q with
  | zero => simpa using h'
  | succ q => rw [scan_nil] at h; cases h
 | x :: r, l', q, q', j, h, h' => by
  cases q with
  | zero => rw [scan_zero] at h; simp at h
  | succ q =>
   by_cases ha : ar sg x < 0
   ·rw [scan_bad ha] at h; cases h
   ·rw [scan_step ha] at h
    obtain ⟨i, hi, e⟩ := Option.map_eq_some_iff.1 h
    have e2 : i = r.length := by simp at e; omega
    subst e2
    have h2 := scan_join hi h'
    rw [show q + 1 + q' = (q + q') + 1 by omega, List.cons_append, scan_step ha, show q + q' + (ar sg x).toNat = q + (ar sg x).toNat + q' by omega, h2]
    simp
    omega
theorem scan_fill {sg : List Int} {L : Nat → List Int} : ∀ {t : List Int} {q : Nat}, scan sg q t = some t.length → (∀ x ∈ t, x < 0 → scan sg 1 (L (-1 - x).toNat) = some (L (-1 - x).toNat).length) → scan sg q (fillL L t) = some (fillL L t).length
 | [], q, h, _ => h
 | x :: r, q, h, hL => by
  cases q with
  | zero => rw [scan_zero] at h; simp at h
  | succ q =>
   by_cases ha : ar sg x < 0
   ·rw [scan_bad ha] at h; cases h
   ·rw [scan_step ha] at h
    obtain ⟨i, hi, e⟩ := Option.map_eq_some_iff.1 h
    have e2 : i = r.length := by simp at e; omega
    subst e2
    have h2 := scan_fill hi (fun y hy => hL y (List.mem_cons_of_mem _ hy))
    rw [fill_cons]
    by_cases hx : 0 ≤ x
    ·rw [rep_sym hx, List.singleton_append, scan_step ha, h2]
     simp
    ·have h3 := hL x (List.mem_cons_self ..) (by omega)
     have h0 : ar sg x = 0 := by
      unfold ar at ha ⊢
      split
      ·rfl
      ·rename_i h4
       rw [if_neg h4] at ha
       split at ha
       ·omega
       ·omega
     rw [h0] at h2
     rw [rep_var (by omega), Nat.add_comm q 1]
     have h4 := scan_join h3 (by simpa using h2)
     rw [h4, List.length_append]
theorem fill_term {sg t : List Int} {L : Nat → List Int} (h : termOkB sg t = true) (hL : ∀ x ∈ t, x < 0 → termOkB sg (L (-1 - x).toNat) = true) (h60 : (fillL L t).length ≤ 60) : termOkB sg (fillL L t) = true :=
 term_mk (term_parts h).1 h60 (scan_fill (term_parts h).2.2 (fun x hx h0 => (term_parts (hL x hx h0)).2.2))
theorem var_term {sg : List Int} {i : Nat} (hs : sigOkB sg = true) (hi : i < 24) : termOkB sg (vt i) = true := by
 refine term_mk hs (by simp [vt]) ?_
 have h0 : ar sg (-1 - (i : Int)) = 0 := ar_var (by omega)
 show scan sg 1 [-1 - (i : Int)] = some 1
 rw [scan_step (by omega), h0]
 rfl
def sh (k x : Int) : Int := if x < 0 then x - k else x
def shiftL (k : Int) (t : List Int) : List Int := t.map (sh k)
def shiftB (k : Int) (t : List Int) : Bool := t.all fun x => decide (-24 ≤ sh k x)
theorem shift_len (k : Int) (t : List Int) : (shiftL k t).length = t.length := by simp [shiftL]
theorem shift_take {k : Int} {t : List Int} {j : Nat} {x : Int} (hk : j < t.length) (hx : t.getD j 0 = x) : shiftL k (t.take (j + 1)) = shiftL k (t.take j) ++ [sh k x] := by
 rw [take_snoc hk hx]
 simp [shiftL]
theorem shiftB_no {k x : Int} {t : List Int} (hx : x ∈ t) (h : sh k x < -24) : shiftB k t = false := by
 unfold shiftB
 rw [List.all_eq_false]
 exact ⟨x, hx, by simp; omega⟩
theorem shiftB_yes {k : Int} {t : List Int} (h : ∀ j, j < t.length → -24 ≤ sh k (t.getD j 0)) : shiftB k t = true := by
 unfold shiftB
 rw [List.all_eq_true]
 intro x hx
 obtain ⟨j, hj, rfl⟩ := List.getElem_of_mem hx
 have := h j hj
 simpa [List.getD, hj] using this
def shiftedB (sg t : List Int) (k : Int) : Bool := termOkB sg t && decide (0 ≤ k ∧ k ≤ 24) && shiftB k t
def shiftedL (sg t : List Int) (k : Int) : List Int := if shiftedB sg t k = true then shiftL k t else []
end fillMath
end
section
namespace look
open Go.RowKit base ints marks app sym segs fillMath
set_option maxRecDepth 100000
theorem varTerm (i : Int) (w : World) (h0 : 0 ≤ i) (h1 : i ≤ 1000) :
  Calls Try.prog 107 #[.int .i64 i] w (AnsList w [-1 - i]) := by
 have F : AnsList w [-1 - i] (.returned (.slice (some ⟨w.heap.size, 0, none⟩) 1 1)) (w.alloc (.cells #[.int .i64 (-1 - i)] 2)) :=
  ⟨_, 1, 1, rfl, Own.of_row (Row.new _ _ _) rfl rfl (Nat.le_refl _) (by omega) (Nat.le_refl _) (fun j hj => by
   have e : j = 0 := by omega
   subst e
   rfl), (Below.refl _ _).alloc (Nat.le_refl _) _⟩
 have HF := Lib.hid F
 clear F
 go_enter Try.func107, Try.ntmps107
 go_wp2
 go_ret
 exact HF.out
def AnsLook (B : Nat) (w : World) (ys : List Int) (e : Ending) (w' : World) : Prop := ∃ A n c, e = .returned (.slice A n c) ∧ Seg w' w'.heap.size A n ys ∧ Cap A n c ∧ (∀ k, blk A = some k → k < B ∨ w.heap.size ≤ k) ∧ Below w.heap.size w w'
def Looks (g : Nat) (lb : Array Value) (w : World) (L : Nat → List Int) (N : Nat) : Prop :=
 ∀ (W : World) (i : Nat), Below w.heap.size w W → i < N → Calls Try.prog g (#[.int .i64 (i : Int)] ++ lb) W (AnsLook w.heap.size W (L i))
theorem Looks.next {g : Nat} {lb : Array Value} {w w' : World} {L : Nat → List Int} {N : Nat} (h : Looks g lb w L N) (hb : Below w.heap.size w w') : Looks g lb w' L N :=
 fun W i hW hi => (h W i (next_trans hb hW) hi).mono fun _ _ ⟨A, n, c, he, h1, h2, h3, h4⟩ => ⟨A, n, c, he, h1, h2, fun k hk => by have := h3 k hk; have := hb.size; omega, h4⟩
theorem own_cap {w : World} {base : Nat} {A : Option Addr} {n c : Nat} {xs : List Int} (h : Own w base (.slice A n c) xs) : Cap A n c := by
 have hl := Own.len h
 rcases own_form (n := n) (vs := xs.map (Value.int .i64)) (by rw [hl]; rw [hl] at h; exact h) with ⟨rfl, h1, rfl, _⟩ | ⟨g, cur, rfl, _, _, h1, h2, h3, _⟩
 ·exact ⟨by omega, by omega, fun _ => rfl⟩
 ·exact ⟨h1, h3, fun e => by cases e⟩
end look
end
section
open Go.Lib (hid)
namespace shifted
open Go.RowKit base ints sig term termOk marks app sym segs termFacts varsMath fillMath Go.Proofs.Ytfclafbdbdmlhaa.look
set_option maxRecDepth 100000
def AnsPairS (w : World) (ys : List Int) (b : Bool) (e : Ending) (w' : World) : Prop := ∃ A n c, e = .returned (.tuple #[.slice A n c, .bool b]) ∧ Seg w' w'.heap.size A n ys ∧ Below w.heap.size w w'
theorem shifted_no {sg t : List Int} {k : Int} (h : termOkB sg t = false ∨ ¬ (0 ≤ k ∧ k ≤ 24) ∨ shiftB k t = false) : shiftedB sg t k = false := by
 unfold shiftedB
 rcases h with h | h | h
 ·rw [h]; rfl
 ·rw [decide_eq_false h, Bool.and_false, Bool.false_and]
 ·rw [h, Bool.and_false]
theorem shifted_yes {sg t : List Int} {k : Int} (h1 : termOkB sg t = true) (h2 : 0 ≤ k ∧ k ≤ 24) (h3 : shiftB k t = true) : shiftedB sg t k = true := by unfold shiftedB; rw [h1, h3, decide_eq_true h2]; rfl
theorem pairS_no {w w' : World} {sg t : List Int} {k : Int} {A : Option Addr} {c : Nat} (h : shiftedB sg t k = false) (hb : Below w.heap.size w w') : AnsPairS w (shiftedL sg t k) (shiftedB sg t k) (.returned (.tuple #[.slice A 0 c, .bool false])) w' :=
 ⟨A, 0, c, by rw [h], by unfold shiftedL; rw [if_neg (by rw [h]; simp)]; exact Seg.empty, hb⟩
def HeadSh (w : World) (m : Nat) (t : List Int) (k : Int) (out i : Value) (wr : World) : Prop :=
 ∃ (j : Nat) (O : Option Addr) (on oc : Nat), j ≤ m ∧ i = .int .i64 j ∧ out = .slice O on oc ∧ Own wr w.heap.size (.slice O on oc) (shiftL k (t.take j)) ∧ (∀ q, q < j → -24 ≤ sh k (t.getD q 0)) ∧ Below w.heap.size w wr
set_option maxHeartbeats 4000000 in
theorem specShifted (A A' : Option Addr) (n c m c' : Nat) (sg t : List Int) (k : Int) (w : World) (h : Seg w w.heap.size A n sg) (h' : Seg w w.heap.size A' m t) (hn : n ≤ 1048576) (hm : m ≤ 1048576) (_ : -9223372036854775808 ≤ k) (_ : k ≤ 9223372036854775807) :
  Calls Try.prog 60 #[.agg #[.slice A n c], .slice A' m c', .int .i64 k] w (AnsPairS w (shiftedL sg t k) (shiftedB sg t k)) := by
 obtain ⟨W, hW⟩ : ∃ W, W = w.alloc (.cells #[.slice A n c] 26) := ⟨_, rfl⟩
 have bel : Below w.heap.size w W := by rw [hW]; exact (Below.refl _ _).alloc (Nat.le_refl _) _
 have s := (h.below bel).more bel.size
 have s' := (h'.below bel).more bel.size
 have HW := hid hW
 have HL := hid h'.1
 have L := hid (specTermOk A A' n c m c' sg t W s s' hn hm)
 clear hW h s
 cases hok : termOkB sg t with
 | false =>
  have HS := hid hok
  clear hok s' h'
  go_enter Try.func60, Try.ntmps60
  go_wp2_with fail
  rw [← HW.out]
  refine L.out.mono ?_
  rintro e w1 ⟨he, bb⟩
  rw [HS.out] at he
  subst he
  have F := hid (pairS_no (A := some ⟨w1.heap.size, 0, none⟩) (c := 0) (shifted_no (k := k) (.inl HS.out)) ((next_trans bel bb).alloc (next_trans bel bb).size (.cells #[] 2)))
  clear bb bel
  go_wp2
  go_ret2
  exact F.out
 | true =>
  have HS := hid hok
  have HV := hid (fun x hx => term_mem (x := x) hok hx)
  clear hok s'
  by_cases hk : 0 ≤ k ∧ k ≤ 24
  ·go_enter Try.func60, Try.ntmps60
   go_wp2_with fail
   rw [← HW.out]
   refine L.out.mono ?_
   rintro e w1 ⟨he, bb⟩
   rw [HS.out] at he
   subst he
   replace bel := next_trans bel bb
   clear bb L
   go_wp2_with fail
   refine (inYes _ _ _ _ hk).mono ?_
   rintro e w' ⟨rfl, rfl⟩
   obtain ⟨hk0, hk1⟩ := hk
   have S0 : HeadSh w m t k (.slice (some ⟨w1.heap.size, 0, none⟩) 0 0) (.int .i64 0) (w1.alloc (.cells #[] 2)) := ⟨0, _, 0, 0, Nat.zero_le _, rfl, rfl, by simpa [shiftL] using own_empty w1 w.heap.size bel.size, fun q hq => absurd hq (Nat.not_lt_zero _), bel.alloc bel.size _⟩
   have HS0 := hid S0
   clear S0 bel
   go_wp2_with fail
   go_loopw [8, 9] (fun out i wr => HeadSh w m t k out i wr) (fun _ i _ => m - (intOf i).toNat)
   case atStart => exact HS0.out
   case round =>
    obtain ⟨j, O, on, oc, hj, rfl, rfl, ho, hlow, hb⟩ := hrel
    have HLOW := hid hlow
    clear HS0 hlow
    have hon : on ≤ m := by rw [Own.len ho, shift_len]; simp; omega
    by_cases hlt : j < m
    ·obtain ⟨b, off, x, rfl, hbb, hx, ex⟩ := h'.spot hlt
     have hx1 : wr.cell? ⟨b, off + j, none⟩ = some (.int .i64 x) := (hb.cell (p := ⟨b, off + j, none⟩) hbb).trans hx
     have hmem : x ∈ t := by
      have hkl : j < t.length := by rw [HL.out]; exact hlt
      have := ex.out
      rw [← this]
      simp [List.getD, hkl]
     have hx24 := HV.out x hmem
     obtain ⟨hxa, hxb⟩ := hx24
     have hsz := hb.size
     have E := hid (shift_take (k := k) (t := t) (j := j) (by rw [HL.out]; exact hlt) ex.out)
     clear hx h'
     by_cases hneg : x < 0
     ·have R : sh k x = x - k := by unfold sh; rw [if_pos hneg]
      by_cases hlo : x - k < -24
      ·have F := hid (pairS_no (A := some ⟨wr.heap.size, 0, none⟩) (c := 0) (shifted_no (sg := sg) (k := k) (.inr (.inr (shiftB_no hmem (by rw [R]; exact hlo))))) (hb.alloc hb.size (.cells #[] 2)))
       clear ho hb ex hmem E R
       go_wp2
       go_ret2
       exact F.out
      ·have RH := hid R
       clear R
       go_wp2_with (at_builtin; refine app1 rfl _ _ rfl w.heap.size O on oc (shiftL k (t.take j)) rfl (Own.alloc ho _) wr.heap.size 1 (x - k) rfl ((Row.new _ _ _).cell 0) (by omega) (by simp; omega) ?_; intro O' oc' w2 ho2 b2)
       have S : HeadSh w m t k (.slice O' (on + 1) oc') (.int .i64 ((j : Int) + 1)) w2 := ⟨j + 1, O', on + 1, oc', hlt, by simp, rfl, by rw [E.out, RH.out]; exact ho2, fun q hq => by
        by_cases e : q = j
        ·subst e; rw [ex.out, RH.out]; omega
        ·exact HLOW.out q (by omega), (hb.alloc hsz _).trans b2⟩
       replace S := hid S
       clear ho2 b2 ho hb E ex hmem
       go_wp2
       go_roundw
       case rel => exact S.out
       case measure => simp [intOf]; omega
     ·have RH := hid (show sh k x = x by unfold sh; rw [if_neg hneg])
      have d1 : decide (x < 0) = false := by simp; omega
      have d2 : decide (x < -24) = false := by simp; omega
      go_wp2_with (at_builtin; refine app1 rfl _ _ rfl w.heap.size O on oc (shiftL k (t.take j)) rfl (Own.alloc ho _) wr.heap.size 1 x rfl ((Row.new _ _ _).cell 0) (by omega) (by simp; omega) ?_; intro O' oc' w2 ho2 b2)
      have S : HeadSh w m t k (.slice O' (on + 1) oc') (.int .i64 ((j : Int) + 1)) w2 := ⟨j + 1, O', on + 1, oc', hlt, by simp, rfl, by rw [E.out, RH.out]; exact ho2, fun q hq => by
       by_cases e : q = j
       ·subst e; rw [ex.out, RH.out]; omega
       ·exact HLOW.out q (by omega), (hb.alloc hsz _).trans b2⟩
      replace S := hid S
      clear ho2 b2 ho hb E ex hmem
      go_wp2
      go_roundw
      case rel => exact S.out
      case measure => simp [intOf]; omega
    ·have hB : shiftedB sg t k = true := shifted_yes HS.out ⟨hk0, hk1⟩ (shiftB_yes (fun q hq => HLOW.out q (by rw [HL.out] at hq; omega)))
     have F : AnsPairS w (shiftedL sg t k) (shiftedB sg t k) (.returned (.tuple #[.slice O on oc, .bool true])) wr := by
      rw [List.take_of_length_le (by rw [HL.out]; omega)] at ho
      exact ⟨O, on, oc, by rw [hB], by unfold shiftedL; rw [if_pos hB]; exact Own.seg ho, hb⟩
     have HF := hid F
     clear F ho hb h' hB
     go_wp2
     go_ret2
     exact HF.out
  ·go_enter Try.func60, Try.ntmps60
   go_wp2_with fail
   rw [← HW.out]
   refine L.out.mono ?_
   rintro e w1 ⟨he, bb⟩
   rw [HS.out] at he
   subst he
   replace bel := next_trans bel bb
   clear bb L
   go_wp2_with fail
   refine (inNo _ _ _ _ hk).mono ?_
   rintro e w' ⟨rfl, rfl⟩
   have F := hid (pairS_no (A := some ⟨w1.heap.size, 0, none⟩) (c := 0) (shifted_no (sg := sg) (t := t) (k := k) (.inr (.inl hk))) (bel.alloc bel.size (.cells #[] 2)))
   clear bel hk
   go_wp2
   go_ret2
   exact F.out
end shifted
end
section
namespace drawVar
open Go.RowKit base ints sig term cursor termOk marks app sym dice drawSig drawTerm drawAny drawTwo drawPair drawOne fillMath shifted
theorem Seg.other {w : World} {B N : Nat} {O : Option Addr} {on : Nat} {xs : List Int} {a : Option Addr} {l k : Nat} (h : Seg w B O on xs) (hN : w.cell? ⟨N, 0, none⟩ = some (.slice a l k)) (u : Value) : Seg (w.setCell ⟨N, 0, none⟩ u) B O on xs :=
 ⟨h.1, fun hn => by
  obtain ⟨b, off, e, hb, hc⟩ := h.2 hn
  refine ⟨b, off, e, hb, fun j hj => ?_⟩
  rw [World.cell?_setCell_other w _ _ _ (fun e => by have := hc j hj; rw [← e, hN] at this; cases this)]
  exact hc j hj⟩
structure V3 (w : World) (p : Nat) (A : Option Addr) (n c v : Nat) (S : Option Addr) (sn sc : Nat) (sg : List Int) (O : Option Addr) (on : Nat) (xs : List Int) (wr : World) : Prop where
 d : Dice wr p A n c
 rN : Row wr w.heap.size 26 #[.slice none 0 0]
 rV : Row wr v 26 #[.slice S sn sc]
 s : Rd wr p wr.heap.size S sn sg
 o : Rd wr p wr.heap.size O on xs
 b : Below w.heap.size w wr
 hp : w.heap.size < p
 pv : p < v
section
variable {w : World} {p : Nat} {A : Option Addr} {n c v : Nat} {S : Option Addr} {sn sc : Nat} {sg : List Int} {O : Option Addr} {on : Nat} {xs : List Int} {wr w' : World}
theorem V3.dice (t : V3 w p A n c v S sn sc sg O on xs wr) (d : Dice w' p A n c) (hg : wr.grownBy w' (some p)) : V3 w p A n c v S sn sc sg O on xs w' :=
 ⟨d, Row.away t.rN hg (fun e => by injection e; have := t.hp; omega), Row.away t.rV hg (fun e => by injection e; have := t.pv; omega), (t.s.grown hg (Nat.le_refl _)).more hg.size, (t.o.grown hg (Nat.le_refl _)).more hg.size, t.b.grown hg t.b.size (fun k hk => by injection hk; have := t.hp; omega), t.hp, t.pv⟩
theorem V3.next (t : V3 w p A n c v S sn sc sg O on xs wr) (hb : Below wr.heap.size wr w') : V3 w p A n c v S sn sc sg O on xs w' :=
 ⟨t.d.next hb, t.rN.next hb, t.rV.next hb, (t.s.below hb (Nat.le_refl _)).more hb.size, (t.o.below hb (Nat.le_refl _)).more hb.size, next_trans t.b hb, t.hp, t.pv⟩
theorem V3.drew (t : V3 w p A n c v S sn sc sg O on xs wr) : V3 w p A n c v S sn sc sg O on xs wr.drew := t.next ⟨rfl, rfl, rfl, Nat.le_refl _, fun _ _ => rfl⟩
end
def AnsTri (w : World) (e : Ending) (w' : World) : Prop :=
 ∃ S sn sc sg O on oc xs Q qn qc ys, e = .returned (.tuple #[.agg #[.slice S sn sc], .slice O on oc, .slice Q qn qc]) ∧ Seg w' w'.heap.size S sn sg ∧ Seg w' w'.heap.size O on xs ∧ Seg w' w'.heap.size Q qn ys ∧ sn ≤ 9 ∧ on ≤ 65 ∧ qn ≤ 65 ∧ Below w.heap.size w w'
theorem tri_of {w u : World} {p : Nat} {A : Option Addr} {n c v : Nat} {S : Option Addr} {sn sc : Nat} {sg : List Int} {O : Option Addr} {on oc : Nat} {xs : List Int} {Q : Option Addr} {qn qc : Nat} {ys : List Int} (t : V3 w p A n c v S sn sc sg O on xs u) (hq : Seg u u.heap.size Q qn ys)
  (h1 : sn ≤ 9) (h2 : on ≤ 65) (h3 : qn ≤ 65) : AnsTri w (.returned (.tuple #[.agg #[.slice S sn sc], .slice O on oc, .slice Q qn qc])) (u.setCell ⟨w.heap.size, 0, none⟩ (.slice S sn sc)) :=
 ⟨S, sn, sc, sg, O, on, oc, xs, Q, qn, qc, ys, rfl, (Seg.other t.s.seg (t.rN.cell 0) _).more (by simp), (Seg.other t.o.seg (t.rN.cell 0) _).more (by simp), (Seg.other hq (t.rN.cell 0) _).more (by simp), h1, h2, h3, t.b.setCell (Nat.le_refl _) _⟩
theorem segB_below {w w' : World} {A : Option Addr} {n : Nat} (h : SegB w w.heap.size A n) (hb : Below w.heap.size w w') : SegB w' w'.heap.size A n := fun hp => by
 obtain ⟨b, off, e, hbb, hc⟩ := h hp
 refine ⟨b, off, e, Nat.lt_of_lt_of_le hbb hb.size, fun j hj => ?_⟩
 obtain ⟨x, x0, x1, hx⟩ := hc j hj
 exact ⟨x, x0, x1, (hb.cell (p := ⟨b, off + j, none⟩) hbb).trans hx⟩
set_option maxHeartbeats 4000000 in
theorem drawVariantIn (A : Option Addr) (n c : Nat) (w : World) (h : SegB w w.heap.size A n) (hn : n ≤ 4096) :
  Calls Try.prog 12 #[.slice A n c] w (AnsTri w) := by
 obtain ⟨W0, hW0⟩ : ∃ W0, W0 = w.alloc (.cells #[.slice none 0 0] 26) := ⟨_, rfl⟩
 have rN : Row W0 w.heap.size 26 #[.slice none 0 0] := by rw [hW0]; exact Row.new _ _ _
 have b0 : Below w.heap.size w W0 := by rw [hW0]; exact (Below.refl _ _).alloc (Nat.le_refl _) _
 have L := Lib.hid (new_ A n c W0 (segB_below h b0) hn)
 have HW0 := Lib.hid hW0
 clear h hW0
 go_enter Try.func12, Try.ntmps12
 go_wp2_with fail
 rw [← HW0.out]
 refine L.out.mono ?_
 rintro e w1 ⟨p, rfl, hp, d1, bb⟩
 have hNp : w.heap.size < p := Nat.lt_of_lt_of_le rN.lt hp
 replace rN := rN.next bb
 have bel := next_trans b0 bb
 have L2 := Lib.hid (drawOne p A n c w1 d1)
 clear d1 bb b0 L
 go_wp2_with fail
 refine L2.out.mono ?_
 rintro e w2 ⟨S, sn, sc, sg, O, on, oc, xs, rfl, rs, ro, hsn, hon, -, -, d2, g2⟩
 replace rN := Row.away rN g2 (fun e => by injection e; omega)
 have bel2 : Below w.heap.size w w2 := bel.grown g2 bel.size (fun k hk => by injection hk; omega)
 obtain ⟨v, hv⟩ : ∃ v, w2.heap.size = v := ⟨_, rfl⟩
 obtain ⟨W, hW⟩ : ∃ W, W = w2.alloc (.cells #[.slice S sn sc] 26) := ⟨_, rfl⟩
 have hpv := d2.lt
 have T : V3 w p A n c v S sn sc sg O on xs W := by
  have bb : Below w2.heap.size w2 W := by rw [hW]; exact (Below.refl _ _).alloc (Nat.le_refl _) _
  exact ⟨d2.next bb, rN.next bb, by rw [hW, ← hv]; exact Row.new _ _ _, (rs.below bb (Nat.le_refl _)).more bb.size, (ro.below bb (Nat.le_refl _)).more bb.size, next_trans bel2 bb, hNp, by omega⟩
 have HW := Lib.hid hW
 have HV := Lib.hid hv
 have cV : W.cell? ⟨v, 0, none⟩ = some (.slice S sn sc) := T.rV.cell 0
 clear bel bel2 g2 rs ro d2 L2 rN hW hv hpv
 go_wp2_with fail
 rw [← HW.out, HV.out]
 refine (once p A n c 2 W T.d (by omega) (by omega)).mono ?_
 rintro e w3 ⟨b, rfl, d3, g3⟩
 replace T := T.dice d3 g3
 clear d3 g3 cV
 have zNv : w.heap.size < v := by have := T.hp; have := T.pv; omega
 have zne1 : ¬ v = w.heap.size := by omega
 have zne2 : ¬ w.heap.size = v := by omega
 have cV : w3.cell? ⟨v, 0, none⟩ = some (.slice S sn sc) := T.rV.cell 0
 cases b with
 | true =>
  have T1 := T.drew
  go_wp2_with fail
  go_region_held3 (fun w' => w'.cell? ⟨v, 0, none⟩ = some (.slice S sn sc))
   (go_keep)
   (first
    | (go_at_call 59; refine (drawAny p A n c S sn sc sg w3.drew T1.d T1.s (by omega)).mono ?_; rintro e w4 ⟨Q, qn, qc, ys, rfl, ra, h1, h2, h3, h4, d4, g4⟩; have T2 := T1.dice d4 g4; have cV4 : w4.cell? ⟨v, 0, none⟩ = some (.slice S sn sc) := T2.rV.cell 0; have cN4 : w4.cell? ⟨w.heap.size, 0, none⟩ = some (.slice none 0 0) := T2.rN.cell 0; have fN4 : w4.frozen? ⟨w.heap.size, 0, none⟩ = false := T2.rN.free 0; have F := Lib.hid (tri_of (oc := oc) (qc := qc) T2 ra.seg hsn hon h4)))
  clear cV4 T2 ra d4 g4 T1 T
  go_wp2
  exact bodyPost_ret (v := .tuple #[.agg #[.slice S sn sc], .slice O on oc, .slice Q qn qc]) (by simp [results, Try.results12, go_sem, cN4]) rfl F.out
 | false =>
  have T1 := T.drew
  go_wp2_with fail
  go_region_held3 (fun w' => w'.cell? ⟨v, 0, none⟩ = some (.slice S sn sc))
   (go_keep)
   (first
    | (go_at_call 61; refine (below p A n c 3 w3.drew T1.d (by omega) (by omega)).mono ?_; rintro e w4 ⟨y, rfl, y0, y1, d4, g4⟩; have T2 := T1.dice d4 g4; have cV4 : w4.cell? ⟨v, 0, none⟩ = some (.slice S sn sc) := T2.rV.cell 0)
    | (go_at_call 60; refine (specShifted S O sn sc on oc sg xs y w4 T2.s.seg T2.o.seg (by omega) (by omega) (by omega) (by omega)).mono ?_; rintro e w5 ⟨Q, qn, qc, rfl, rq, b5⟩; have T3 := T2.next b5; have cV5 : w5.cell? ⟨v, 0, none⟩ = some (.slice S sn sc) := T3.rV.cell 0))
  have hqn : qn ≤ 65 := by
   have e1 := rq.1
   have e2 := T3.o.1
   unfold shiftedL at e1
   split at e1
   ·rw [shift_len] at e1; omega
   ·simp at e1; omega
  have cN5 : w5.cell? ⟨w.heap.size, 0, none⟩ = some (.slice none 0 0) := T3.rN.cell 0
  have fN5 : w5.frozen? ⟨w.heap.size, 0, none⟩ = false := T3.rN.free 0
  have F := Lib.hid (tri_of (oc := oc) (qc := qc) T3 rq hsn hon hqn)
  clear cV4 T3 T2 d4 g4 T1 T b5 rq
  go_wp2
  exact bodyPost_ret (v := .tuple #[.agg #[.slice S sn sc], .slice O on oc, .slice Q qn qc]) (by simp [results, Try.results12, go_sem, cN5]) rfl F.out
end drawVar
end
section
namespace renMath
open sig term termOk termFacts varsMath fillMath
def idx : List Int → Int → Nat
 | [], _ => 0
 | y :: r, x => if y = x then 0 else idx r x + 1
theorem idx_lt : ∀ {o : List Int} {x : Int}, x ∈ o → idx o x < o.length
 | y :: r, x, h => by
  rw [idx]
  split
  ·simp
  ·rename_i h1
   rcases List.mem_cons.1 h with e | e
   ·exact absurd e.symm h1
   ·have := idx_lt e; simp; omega
theorem idx_not : ∀ {o : List Int} {x : Int}, x ∉ o → idx o x = o.length
 | [], _, _ => rfl
 | y :: r, x, h => by
  have h1 : ¬ y = x := fun e => h (by rw [e]; exact List.mem_cons_self ..)
  rw [idx, if_neg h1, idx_not (fun e => h (List.mem_cons_of_mem _ e))]
  rfl
theorem idx_get : ∀ {o : List Int} {x : Int}, x ∈ o → o.getD (idx o x) 0 = x
 | y :: r, x, h => by
  rw [idx]
  split
  ·rename_i h1; simpa using h1
  ·rename_i h1
   rcases List.mem_cons.1 h with e | e
   ·exact absurd e.symm h1
   ·simpa using idx_get e
theorem idx_first : ∀ {o : List Int} {x : Int} {k : Nat}, k < o.length → (∀ j, j < k → o.getD j 0 ≠ x) → o.getD k 0 = x → idx o x = k
 | y :: r, x, 0, _, _, h => by
  have h : y = x := by simpa using h
  rw [idx, if_pos h]
 | y :: r, x, k + 1, hk, hl, h => by
  have h0 : ¬ y = x := by simpa using hl 0 (by omega)
  rw [idx, if_neg h0, idx_first (k := k) (by simpa using hk) (fun j hj => by simpa using hl (j + 1) (by omega)) (by simpa using h)]
theorem idx_app_mem : ∀ {o q : List Int} {x : Int}, x ∈ o → idx (o ++ q) x = idx o x
 | y :: r, q, x, h => by
  rw [List.cons_append, idx, idx]
  split
  ·rfl
  ·rename_i h1
   rcases List.mem_cons.1 h with e | e
   ·exact absurd e.symm h1
   ·rw [idx_app_mem e]
theorem idx_app_new {o : List Int} {x : Int} (h : x ∉ o) : idx (o ++ [x]) x = o.length := by
 refine idx_first (by simp) (fun j hj => ?_) (by simp)
 have e : (o ++ [x]).getD j 0 = o[j] := by simp [List.getD, List.getElem?_append_left hj, hj]
 rw [e]
 exact fun e2 => h (by rw [← e2]; exact List.getElem_mem hj)
theorem idx_map {f : Int → Int} (hf : ∀ a b, f a = f b → a = b) : ∀ (o : List Int) (x : Int), idx (o.map f) (f x) = idx o x
 | [], _ => rfl
 | y :: r, x => by
  rw [List.map_cons, idx, idx]
  by_cases h : y = x
  ·rw [if_pos h, if_pos (by rw [h])]
  ·rw [if_neg h, if_neg (fun e => h (hf _ _ e)), idx_map hf r x]
theorem mem_map_inj {f : Int → Int} (hf : ∀ a b, f a = f b → a = b) {o : List Int} {x : Int} : f x ∈ o.map f ↔ x ∈ o := by
 rw [List.mem_map]
 exact ⟨fun ⟨y, hy, e⟩ => by rw [← hf _ _ e]; exact hy, fun h => ⟨x, h, rfl⟩⟩
def ext (o : List Int) (x : Int) : List Int := if x ∈ o then o else o ++ [x]
def extV (o : List Int) (x : Int) : List Int := if x < 0 then ext o x else o
def orderL (t : List Int) : List Int := t.foldl extV []
theorem order_take {t : List Int} {k : Nat} {x : Int} (hk : k < t.length) (hx : t.getD k 0 = x) : orderL (t.take (k + 1)) = extV (orderL (t.take k)) x := by
 unfold orderL
 rw [take_snoc hk hx, List.foldl_append]
 rfl
theorem ext_mem {o : List Int} {x y : Int} : y ∈ ext o x ↔ y = x ∨ y ∈ o := by
 unfold ext
 split
 ·rename_i h
  exact ⟨fun e => .inr e, fun e => by rcases e with e | e; exact e ▸ h; exact e⟩
 ·rw [List.mem_append, List.mem_singleton, or_comm]
theorem extV_mem {o : List Int} {x y : Int} : y ∈ extV o x ↔ (y = x ∧ x < 0) ∨ y ∈ o := by
 unfold extV
 split
 ·rename_i h
  rw [ext_mem]
  exact ⟨fun e => by rcases e with e | e; exact .inl ⟨e, h⟩; exact .inr e, fun e => by rcases e with e | e; exact .inl e.1; exact .inr e⟩
 ·rename_i h
  exact ⟨fun e => .inr e, fun e => by rcases e with e | e; exact absurd e.2 h; exact e⟩
theorem fold_ext_mem {y : Int} : ∀ {l o : List Int}, y ∈ l.foldl extV o ↔ (y ∈ l ∧ y < 0) ∨ y ∈ o
 | [], o => by simp
 | x :: l, o => by
  rw [List.foldl_cons, fold_ext_mem, extV_mem, List.mem_cons]
  constructor
  ·rintro (⟨h, h0⟩ | ⟨rfl, h0⟩ | h)
   ·exact .inl ⟨.inr h, h0⟩
   ·exact .inl ⟨.inl rfl, h0⟩
   ·exact .inr h
  ·rintro (⟨rfl | h, h0⟩ | h)
   ·exact .inr (.inl ⟨rfl, h0⟩)
   ·exact .inl ⟨h, h0⟩
   ·exact .inr (.inr h)
theorem order_mem {t : List Int} {y : Int} : y ∈ orderL t ↔ y ∈ t ∧ y < 0 := by unfold orderL; rw [fold_ext_mem]; simp
theorem ext_nodup {o : List Int} {x : Int} (h : o.Nodup) : (ext o x).Nodup := by
 unfold ext
 split
 ·exact h
 ·rename_i hx
  rw [List.nodup_append]
  exact ⟨h, by simp, fun a ha b hb => by simp at hb; subst hb; exact fun e => hx (e ▸ ha)⟩
theorem fold_nodup : ∀ {l o : List Int}, o.Nodup → (l.foldl extV o).Nodup
 | [], _, h => h
 | x :: l, o, h => by
  rw [List.foldl_cons]
  refine fold_nodup ?_
  unfold extV
  split
  ·exact ext_nodup h
  ·exact h
theorem order_nodup (t : List Int) : (orderL t).Nodup := fold_nodup List.nodup_nil
theorem ext_len (o : List Int) (x : Int) : (ext o x).length ≤ o.length + 1 := by unfold ext; split <;> simp
theorem fold_ext_len : ∀ (l o : List Int), (l.foldl extV o).length ≤ o.length + l.length
 | [], _ => by simp
 | x :: l, o => by
  have h1 := fold_ext_len l (extV o x)
  have h2 : (extV o x).length ≤ o.length + 1 := by unfold extV; split; exact ext_len o x; simp
  simp
  omega
theorem order_len (t : List Int) : (orderL t).length ≤ t.length := by have := fold_ext_len t []; simpa [orderL] using this
def ren (o : List Int) (n : Int) : Int := if n < 0 then -1 - (idx o n : Int) else n
def renL (t : List Int) : List Int := t.map (ren (orderL t))
theorem ren_ext {o : List Int} {x n : Int} (h : n < 0 → n ∈ o) : ren (extV o x) n = ren o n := by
 unfold ren
 split
 ·rename_i h0
  unfold extV ext
  split
  ·split
   ·rfl
   ·rw [idx_app_mem (h h0)]
  ·rfl
 ·rfl
theorem ren_len (t : List Int) : (renL t).length = t.length := by simp [renL]
def renI (sg t : List Int) : List Int := if termOkB sg t = true then renL t else []
theorem renI_len {sg t : List Int} {m : Nat} (h : t.length = m) (hm : m ≤ 1048576) : (renI sg t).length ≤ 1048576 := by
 unfold renI
 split
 ·rw [ren_len]; omega
 ·simp
theorem idx_nodup {o : List Int} (h : o.Nodup) {k : Nat} (hk : k < o.length) {x : Int} (hx : o.getD k 0 = x) : idx o x = k := by
 refine idx_first hk (fun j hj e => ?_) hx
 have h1 : o[j]'(by omega) = o[k] := by
  have a : o.getD j 0 = o[j]'(by omega) := by simp [List.getD, show j < o.length by omega]
  have b : o.getD k 0 = o[k] := by simp [List.getD, hk]
  rw [← a, ← b, e, hx]
 exact (List.pairwise_iff_getElem.1 h) j k (by omega) hk hj h1
end renMath
end
section
namespace renPure
open sig term termOk termFacts varsMath fillMath renMath
theorem pigeon : ∀ (n : Nat) (l : List Nat), l.Nodup → (∀ x ∈ l, x < n) → l.length ≤ n
 | 0, l, _, h => by
  cases l with
  | nil => simp
  | cons a r => exact absurd (h a (List.mem_cons_self ..)) (Nat.not_lt_zero _)
 | n + 1, l, hd, h => by
  have h1 := pigeon n (l.erase n) (hd.erase n) (fun x hx => by
   have h2 := (hd.mem_erase_iff).1 hx
   have := h x h2.2
   omega)
  have h3 : l.length ≤ (l.erase n).length + 1 := by
   rw [List.length_erase]
   split <;> omega
  omega
theorem map_nodup {α β : Type} {f : α → β} : ∀ {l : List α}, l.Nodup → (∀ a ∈ l, ∀ b ∈ l, f a = f b → a = b) → (l.map f).Nodup
 | [], _, _ => List.nodup_nil
 | a :: r, h, hf => by
  have h1 := List.nodup_cons.1 h
  rw [List.map_cons, List.nodup_cons]
  refine ⟨fun hm => ?_, map_nodup h1.2 (fun x hx y hy => hf x (List.mem_cons_of_mem _ hx) y (List.mem_cons_of_mem _ hy))⟩
  obtain ⟨b, hb, e⟩ := List.mem_map.1 hm
  have := hf b (List.mem_cons_of_mem _ hb) a (List.mem_cons_self ..) e
  subst this
  exact h1.1 hb
theorem order_24 {sg t : List Int} (h : termOkB sg t = true) : (orderL t).length ≤ 24 := by
 have h1 := pigeon 24 ((orderL t).map fun x => (-1 - x).toNat) (map_nodup (order_nodup t) (fun a ha b hb e => by
  have := (order_mem.1 ha).2
  have := (order_mem.1 hb).2
  omega)) (fun x hx => by
   obtain ⟨y, hy, rfl⟩ := List.mem_map.1 hx
   have h2 := order_mem.1 hy
   have h3 := term_mem h h2.1
   omega)
 simpa using h1
theorem ren_fill (t : List Int) (o : List Int) : fillL (fun i => vt (idx o (-1 - (i : Int)))) t = t.map (ren o) := by
 induction t with
 | nil => rfl
 | cons x r ih =>
  rw [fill_cons, ih, List.map_cons]
  unfold rep ren
  by_cases h : 0 ≤ x
  ·rw [if_pos h, if_neg (by omega)]; rfl
  ·rw [if_neg h, if_pos (by omega)]
   show vt (idx o (-1 - (((-1 - x).toNat : Nat) : Int))) ++ _ = _
   rw [show (-1 - (((-1 - x).toNat : Nat) : Int) : Int) = x by omega]
   rfl
theorem ren_ok {sg t : List Int} (h : termOkB sg t = true) : termOkB sg (renL t) = true := by
 have e : renL t = fillL (fun i => vt (idx (orderL t) (-1 - (i : Int)))) t := (ren_fill t (orderL t)).symm
 rw [e]
 refine fill_term h (fun x hx h0 => ?_) (by rw [← e, ren_len]; exact (term_len h).2)
 show termOkB sg (vt (idx (orderL t) (-1 - (((-1 - x).toNat : Nat) : Int)))) = true
 rw [show (-1 - (((-1 - x).toNat : Nat) : Int) : Int) = x by omega]
 refine var_term (term_parts h).1 ?_
 have h1 := idx_lt (order_mem.2 ⟨hx, h0⟩)
 have h2 := order_24 h
 omega
theorem ren_yes {o : List Int} {x : Int} (h : x < 0) : ren o x = -1 - (idx o x : Int) := by unfold ren; rw [if_pos h]
theorem ren_no {o : List Int} {x : Int} (h : ¬ x < 0) : ren o x = x := by unfold ren; rw [if_neg h]
theorem ren_neg {o : List Int} {x : Int} : ren o x < 0 ↔ x < 0 := by
 unfold ren
 split
 ·omega
 ·omega
theorem ren_inj {t : List Int} {a b : Int} (ha : a ∈ t) (hb : b ∈ t) (h : ren (orderL t) a = ren (orderL t) b) : a = b := by
 have n1 := @ren_neg (orderL t) a
 have n2 := @ren_neg (orderL t) b
 by_cases h0 : a < 0
 ·have h1 : b < 0 := n2.1 (h ▸ n1.2 h0)
  unfold ren at h
  rw [if_pos h0, if_pos h1] at h
  have e : idx (orderL t) a = idx (orderL t) b := by omega
  have e1 := idx_get (order_mem.2 ⟨ha, h0⟩)
  have e2 := idx_get (order_mem.2 ⟨hb, h1⟩)
  rw [← e1, ← e2, e]
 ·have h1 : ¬ b < 0 := fun hb0 => h0 (n1.1 (h ▸ n2.2 hb0))
  unfold ren at h
  rwa [if_neg h0, if_neg h1] at h
theorem idx_map_on {f : Int → Int} {o : List Int} {x : Int} (hx : x ∈ o) (hf : ∀ a ∈ o, f a = f x → a = x) : idx (o.map f) (f x) = idx o x := by
 induction o with
 | nil => cases hx
 | cons y r ih =>
  rw [List.map_cons, idx, idx]
  by_cases h : y = x
  ·rw [if_pos (by rw [h]), if_pos h]
  ·rw [if_neg (fun e => h (hf y (List.mem_cons_self ..) e)), if_neg h]
   rcases List.mem_cons.1 hx with e | e
   ·exact absurd e.symm h
   ·rw [ih e (fun a ha => hf a (List.mem_cons_of_mem _ ha))]
theorem fold_map {f : Int → Int} {t : List Int} (hf : ∀ a ∈ t, ∀ b ∈ t, f a = f b → a = b) (hn : ∀ x, f x < 0 ↔ x < 0) : ∀ (l o : List Int), (∀ x ∈ l, x ∈ t) → (∀ x ∈ o, x ∈ t) → (l.map f).foldl extV (o.map f) = (l.foldl extV o).map f
 | [], _, _, _ => rfl
 | x :: l, o, hl, ho => by
  have hx := hl x (List.mem_cons_self ..)
  rw [List.map_cons, List.foldl_cons, List.foldl_cons]
  have e : extV (o.map f) (f x) = (extV o x).map f := by
   unfold extV
   by_cases h : x < 0
   ·rw [if_pos ((hn x).2 h), if_pos h]
    unfold ext
    by_cases hm : x ∈ o
    ·rw [if_pos hm, if_pos (List.mem_map.2 ⟨x, hm, rfl⟩)]
    ·rw [if_neg hm, if_neg, List.map_append]
     ·rfl
     ·intro h2
      obtain ⟨y, hy, e⟩ := List.mem_map.1 h2
      exact hm (hf y (ho y hy) x hx e ▸ hy)
   ·rw [if_neg (fun h2 => h ((hn x).1 h2)), if_neg h]
  rw [e]
  refine fold_map hf hn l (extV o x) (fun y hy => hl y (List.mem_cons_of_mem _ hy)) (fun y hy => ?_)
  rcases extV_mem.1 hy with ⟨rfl, _⟩ | h
  ·exact hx
  ·exact ho y h
theorem order_ren (t : List Int) : orderL (renL t) = (orderL t).map (ren (orderL t)) :=
 fold_map (t := t) (f := ren (orderL t)) (fun a ha b hb h => ren_inj ha hb h) (fun x => ren_neg) t [] (fun _ h => h) (fun x h => by cases h)
theorem ren_ren (t : List Int) : renL (renL t) = renL t := by
 show (renL t).map (ren (orderL (renL t))) = renL t
 rw [order_ren]
 show (t.map (ren (orderL t))).map _ = t.map (ren (orderL t))
 rw [List.map_map]
 refine List.map_congr_left (fun x hx => ?_)
 show ren ((orderL t).map (ren (orderL t))) (ren (orderL t) x) = ren (orderL t) x
 by_cases h : x < 0
 ·have h1 := (@ren_neg (orderL t) x).2 h
  have hm := order_mem.2 ⟨hx, h⟩
  have e := idx_map_on (f := ren (orderL t)) hm (fun a ha e => ren_inj (order_mem.1 ha).1 hx e)
  rw [ren_yes h1, e, ren_yes h]
 ·have h1 : ¬ ren (orderL t) x < 0 := fun e => h (ren_neg.1 e)
  rw [ren_no h1]
end renPure
end
section
namespace renFacts
open Go.RowKit base ints sig term termOk termFacts varsMath fillMath renMath renPure linear count
theorem vars_neg {t : List Int} {x : Int} : x ∈ vars t ↔ (-1 - x ∈ t ∧ 0 ≤ x) := by
 rw [vars_mem]
 unfold negs
 rw [List.mem_map]
 constructor
 ·rintro ⟨y, hy, rfl⟩
  rw [List.mem_filter] at hy
  have h1 : y < 0 := by simpa using hy.2
  exact ⟨by rw [show -1 - (-1 - y) = y by omega]; exact hy.1, by omega⟩
 ·rintro ⟨h1, h2⟩
  exact ⟨-1 - x, List.mem_filter.2 ⟨h1, by simp; omega⟩, by omega⟩
theorem vars_ren {t : List Int} : vars (renL t) = (List.range (orderL t).length).map (fun i : Nat => (i : Int)) := by
 refine rises_unique (vars_rises _) ?_ (fun x => ?_)
 ·refine List.Pairwise.map _ ?_ (List.pairwise_lt_range)
  intro a b hab
  omega
 ·rw [vars_neg, List.mem_map]
  constructor
  ·rintro ⟨h1, h2⟩
   obtain ⟨y, hy, e⟩ := List.mem_map.1 h1
   have h0 : y < 0 := ren_neg.1 (by rw [e]; omega)
   unfold ren at e
   rw [if_pos h0] at e
   exact ⟨idx (orderL t) y, List.mem_range.2 (idx_lt (order_mem.2 ⟨hy, h0⟩)), by omega⟩
  ·rintro ⟨j, hj, rfl⟩
   rw [List.mem_range] at hj
   refine ⟨List.mem_map.2 ⟨(orderL t).getD j 0, ?_, ?_⟩, by omega⟩
   ·exact (order_mem.1 (by simp [List.getD, hj])).1
   ·have h0 : (orderL t).getD j 0 < 0 := (order_mem.1 (show (orderL t).getD j 0 ∈ orderL t by simp [List.getD, hj])).2
    unfold ren
    rw [if_pos h0, idx_nodup (order_nodup t) hj rfl]
theorem vars_ren_at {t : List Int} {j : Nat} (h : j < (vars (renL t)).length) : (vars (renL t)).getD j 0 = (j : Int) := by
 rw [vars_ren] at h ⊢
 simp at h
 simp [List.getD, h]
theorem many_ren {t : List Int} {x : Int} (hx : x ∈ t) : many (renL t) (ren (orderL t) x) = many t x := by
 unfold many cnt
 rw [List.take_length, List.take_length]
 unfold renL
 rw [List.count_eq_countP, List.count_eq_countP, List.countP_map]
 refine List.countP_congr (fun a ha => ?_)
 simp only [Function.comp, beq_iff_eq]
 exact ⟨fun e => ren_inj ha hx e, fun e => by rw [e]⟩
theorem lin_ren (t : List Int) : linB (renL t) = linB t := by
 unfold linB renL
 rw [List.all_map]
 refine Bool.eq_iff_iff.2 ?_
 rw [List.all_eq_true, List.all_eq_true]
 refine forall_congr' fun x => forall_congr' fun hx => ?_
 have h := many_ren hx
 unfold renL at h
 simp only [Function.comp, h, ren_neg]
theorem ren_facts {sg t : List Int} (h : termOkB sg t = true) : termOkB sg (renL t) = true ∧ renL (renL t) = renL t ∧ linB (renL t) = linB t ∧ ∀ j, j < (vars (renL t)).length → (vars (renL t)).getD j 0 = (j : Int) :=
 ⟨ren_ok h, ren_ren t, lin_ren t, fun _ => vars_ren_at⟩
end renFacts
end
section
open Go.Lib (hid)
namespace rename
open Go.RowKit base ints sig term termOk marks app sym segs termFacts varsMath varsOf renMath
set_option maxRecDepth 100000
theorem mem_of_get {t : List Int} {k : Nat} {x : Int} (hk : k < t.length) (hx : t.getD k 0 = x) : x ∈ t := by
 rw [← hx]
 simp [List.getD, hk]
theorem not_mem_of {t : List Int} {x : Int} (h : ∀ j, j < t.length → t.getD j 0 ≠ x) : x ∉ t := fun hx => by
 obtain ⟨j, hj, e⟩ := List.getElem_of_mem hx
 exact h j hj (by simp [List.getD, hj, e])
def HeadNo (n : Nat) (xs : List Int) (x : Int) (i : Value) : Prop := ∃ k : Nat, k ≤ n ∧ i = .int .i64 k ∧ ∀ j, j < k → xs.getD j 0 ≠ x
theorem headNo_step {n k : Nat} {xs : List Int} {x y : Int} (hk : k < n) (h : ∀ j, j < k → xs.getD j 0 ≠ x) (hy : Hid (xs.getD k 0 = y)) (hne : ¬ y = x) : HeadNo n xs x (.int .i64 ((k : Int) + 1)) :=
 ⟨k + 1, hk, by simp, fun j hj => by
  by_cases e : j = k
  ·subst e; rw [hy.out]; exact hne
  ·exact h j (by omega)⟩
set_option maxHeartbeats 1000000 in
theorem l1Has (A : Option Addr) (n c : Nat) (xs : List Int) (x : Int) (w : World) (h : Seg w w.heap.size A n xs) (hn : n ≤ 1048576) :
  Calls Try.prog 124 #[.slice A n c, .int .i64 x] w fun e w' => w = w' ∧ e = .returned (.bool (decide (x ∈ xs))) := by
 have HX := hid h.1
 go_enter Try.func124, Try.ntmps124
 go_wp2
 go_loop [5] (fun i => HeadNo n xs x i) (fun i => n - (intOf i).toNat)
 case atStart => exact ⟨0, Nat.zero_le _, rfl, fun j hj => absurd hj (Nat.not_lt_zero _)⟩
 case round =>
  obtain ⟨k, hk, rfl, hlow⟩ := hrel
  by_cases hlt : k < n
  ·obtain ⟨b, off, y, rfl, -, hy, ey⟩ := h.spot hlt
   by_cases he : y = x
   ·subst he
    have F := hid (show y ∈ xs from mem_of_get (by rw [HX.out]; exact hlt) ey.out)
    have e1 : (y == y) = true := by simp
    clear h ey hlow
    go_wp2
    go_ret
    exact ⟨rfl, by rw [decide_eq_true F.out]; rfl⟩
   ·have S := hid (headNo_step hlt hlow ey he)
    have e1 : (y == x) = false := by simp [he]
    clear h ey hlow
    go_wp2
    go_round
    case rel => exact S.out
    case measure => simp [intOf]; omega
  ·have F := hid (not_mem_of (t := xs) (x := x) (fun j hj => hlow j (by rw [HX.out] at hj; omega)))
   clear h hlow
   go_wp2
   go_ret
   exact ⟨rfl, by rw [decide_eq_false F.out]; rfl⟩
def indexI (xs : List Int) (x : Int) : Int := if x ∈ xs then (idx xs x : Int) else -1
set_option maxHeartbeats 1000000 in
theorem indexOf (A : Option Addr) (n c : Nat) (xs : List Int) (x : Int) (w : World) (h : Seg w w.heap.size A n xs) (hn : n ≤ 1048576) :
  Calls Try.prog 106 #[.slice A n c, .int .i64 x] w fun e w' => w = w' ∧ e = .returned (.int .i64 (indexI xs x)) := by
 have HX := hid h.1
 go_enter Try.func106, Try.ntmps106
 go_wp2
 go_loop [8] (fun i => HeadNo n xs x i) (fun i => n - (intOf i).toNat)
 case atStart => exact ⟨0, Nat.zero_le _, rfl, fun j hj => absurd hj (Nat.not_lt_zero _)⟩
 case round =>
  obtain ⟨k, hk, rfl, hlow⟩ := hrel
  by_cases hlt : k < n
  ·obtain ⟨b, off, y, rfl, -, hy, ey⟩ := h.spot hlt
   by_cases he : y = x
   ·subst he
    have F := hid (show indexI xs y = (k : Int) by
     have hkl : k < xs.length := by rw [HX.out]; exact hlt
     unfold indexI
     rw [if_pos (mem_of_get hkl ey.out), idx_first hkl hlow ey.out])
    have e1 : (y == y) = true := by simp
    clear h ey hlow
    go_wp2
    go_ret
    exact ⟨rfl, by rw [F.out]; rfl⟩
   ·have S := hid (headNo_step hlt hlow ey he)
    have e1 : (x == y) = false := by simp; exact fun e => he e.symm
    clear h ey hlow
    go_wp2
    go_round
    case rel => exact S.out
    case measure => simp [intOf]; omega
  ·have F := hid (show indexI xs x = -1 by unfold indexI; rw [if_neg (not_mem_of (fun j hj => hlow j (by rw [HX.out] at hj; omega)))])
   clear h hlow
   go_wp2
   go_ret
   exact ⟨rfl, by rw [F.out]; rfl⟩
def HeadOrd (w : World) (m : Nat) (t : List Int) (out i : Value) (wr : World) : Prop :=
 ∃ (k : Nat) (O : Option Addr) (on oc : Nat), k ≤ m ∧ i = .int .i64 k ∧ out = .slice O on oc ∧ Own wr w.heap.size (.slice O on oc) (orderL (t.take k)) ∧ Below w.heap.size w wr
set_option maxHeartbeats 2000000 in
theorem l2Order (A : Option Addr) (m c : Nat) (t : List Int) (w : World) (h : Seg w w.heap.size A m t) (hm : m ≤ 1048576) :
  Calls Try.prog 109 #[.slice A m c] w (AnsList w (orderL t)) := by
 have HL := hid h.1
 have S0 : HeadOrd w m t (.slice (some ⟨w.heap.size, 0, none⟩) 0 0) (.int .i64 0) (w.alloc (.cells #[] 2)) :=
  ⟨0, _, _, _, Nat.zero_le _, rfl, rfl, by simpa [orderL] using own_empty w w.heap.size (Nat.le_refl _), (Below.refl _ _).alloc (Nat.le_refl _) _⟩
 have HS0 := hid S0
 clear S0
 go_enter Try.func109, Try.ntmps109
 go_wp2_with fail
 go_loopw [3, 4] (fun out i wr => HeadOrd w m t out i wr) (fun _ i _ => m - (intOf i).toNat)
 case atStart => exact HS0.out
 case round =>
  obtain ⟨k, O, on, oc, hk, rfl, rfl, ho, hb⟩ := hrel
  clear HS0
  have hon : on ≤ m := by have h1 := Own.len ho; have h2 := order_len (t.take k); simp at h2; have h3 := HL.out; omega
  by_cases hlt : k < m
  ·obtain ⟨b, off, x, rfl, hbb, hx, ex⟩ := h.spot hlt
   have hx1 : wr.cell? ⟨b, off + k, none⟩ = some (.int .i64 x) := (hb.cell (p := ⟨b, off + k, none⟩) hbb).trans hx
   have E := hid (order_take (t := t) (k := k) (by rw [HL.out]; exact hlt) ex.out)
   have hsz := hb.size
   clear hx h ex
   by_cases hneg : x < 0
   ·have L := hid (l1Has O on oc _ x wr (Own.seg ho) (by omega))
    by_cases hin : x ∈ orderL (t.take k)
    ·have R := hid (show extV (orderL (t.take k)) x = orderL (t.take k) by unfold extV ext; rw [if_pos hneg, if_pos hin])
     rw [decide_eq_true hin] at L
     have S : HeadOrd w m t (.slice O on oc) (.int .i64 ((k : Int) + 1)) wr := ⟨k + 1, O, on, oc, hlt, by simp, rfl, by rw [E.out, R.out]; exact ho, hb⟩
     replace S := hid S
     clear ho hb hin R E
     go_wp2_with fail
     refine L.out.mono ?_
     rintro e w' ⟨rfl, rfl⟩
     clear L
     go_wp2
     go_roundw
     case rel => exact S.out
     case measure => simp [intOf]; omega
    ·have R := hid (show extV (orderL (t.take k)) x = orderL (t.take k) ++ [x] by unfold extV ext; rw [if_pos hneg, if_neg hin])
     rw [decide_eq_false hin] at L
     clear hin
     go_wp2_with fail
     refine L.out.mono ?_
     rintro e w' ⟨rfl, rfl⟩
     clear L
     go_wp2_with (at_builtin; refine app1 rfl _ _ rfl w.heap.size O on oc (orderL (t.take k)) rfl (Own.alloc ho _) wr.heap.size 1 x rfl ((Row.new _ _ _).cell 0) (by omega) (by simp; omega) ?_; intro O' oc' w2 ho2 b2)
     have S : HeadOrd w m t (.slice O' (on + 1) oc') (.int .i64 ((k : Int) + 1)) w2 := ⟨k + 1, O', on + 1, oc', hlt, by simp, rfl, by rw [E.out, R.out]; exact ho2, (hb.alloc hsz _).trans b2⟩
     replace S := hid S
     clear ho2 b2 ho hb R E
     go_wp2
     go_roundw
     case rel => exact S.out
     case measure => simp [intOf]; omega
   ·have R := hid (show extV (orderL (t.take k)) x = orderL (t.take k) by unfold extV; rw [if_neg hneg])
    have S : HeadOrd w m t (.slice O on oc) (.int .i64 ((k : Int) + 1)) wr := ⟨k + 1, O, on, oc, hlt, by simp, rfl, by rw [E.out, R.out]; exact ho, hb⟩
    replace S := hid S
    have d1 : decide (x < 0) = false := by simp; omega
    clear ho hb R E
    go_wp2
    go_roundw
    case rel => exact S.out
    case measure => simp [intOf]; omega
  ·have F : AnsList w (orderL t) (.returned (.slice O on oc)) wr := by
    rw [List.take_of_length_le (by rw [HL.out]; omega)] at ho
    exact ⟨O, on, oc, rfl, ho, hb⟩
   have HF := hid F
   clear F ho hb h
   go_wp2
   go_ret
   exact HF.out
def upTo (o : List Int) (x : Int) (q : Nat) : Int := if idx o x < q then -1 - (idx o x : Int) else x
def HeadIn (wr : World) (pn : Nat) (o : List Int) (x : Int) (n k : Value) (wi : World) : Prop := ∃ q d : Nat, q ≤ pn ∧ k = .int .i64 q ∧ n = .int .i64 (upTo o x q) ∧ wi = wr.drewN d
theorem upTo_yes {o : List Int} (hd : o.Nodup) {x : Int} {q : Nat} (hq : q < o.length) (h : o.getD q 0 = x) : upTo o x (q + 1) = -1 - (q : Int) := by
 unfold upTo
 rw [idx_nodup hd hq h, if_pos (by omega)]
theorem upTo_no {o : List Int} {x y : Int} {q : Nat} (hq : q < o.length) (h : o.getD q 0 = y) (hne : ¬ y = x) : upTo o x (q + 1) = upTo o x q := by
 unfold upTo
 have h1 : idx o x ≠ q := fun e => by
  by_cases hx : x ∈ o
  ·have := idx_get hx
   rw [e, h] at this
   exact hne this
  ·have := idx_not hx
   omega
 by_cases h2 : idx o x < q
 ·rw [if_pos h2, if_pos (by omega)]
 ·rw [if_neg h2, if_neg (by omega)]
def HeadBy (w : World) (m : Nat) (t o : List Int) (out i : Value) (wr : World) : Prop :=
 ∃ (k : Nat) (O : Option Addr) (on oc : Nat), k ≤ m ∧ i = .int .i64 k ∧ out = .slice O on oc ∧ Own wr w.heap.size (.slice O on oc) ((t.take k).map (ren o)) ∧ Below w.heap.size w wr
set_option maxHeartbeats 4000000 in
theorem l2By (P A : Option Addr) (pn pc m c : Nat) (o t : List Int) (w : World) (hp : Seg w w.heap.size P pn o) (h : Seg w w.heap.size A m t) (hpn : pn ≤ 1048576) (hm : m ≤ 1048576) (hd : o.Nodup) (ho : ∀ x ∈ t, x < 0 → x ∈ o) :
  Calls Try.prog 108 #[.slice P pn pc, .slice A m c] w (AnsList w (t.map (ren o))) := by
 have HL := hid h.1
 have HP := hid hp.1
 have HO := hid ho
 have HD := hid hd
 have S0 : HeadBy w m t o (.slice (some ⟨w.heap.size, 0, none⟩) 0 0) (.int .i64 0) (w.alloc (.cells #[] 2)) :=
  ⟨0, _, _, _, Nat.zero_le _, rfl, rfl, by simpa using own_empty w w.heap.size (Nat.le_refl _), (Below.refl _ _).alloc (Nat.le_refl _) _⟩
 have HS0 := hid S0
 clear S0 ho hd
 go_enter Try.func108, Try.ntmps108
 go_wp2_with fail
 go_loopw [5, 6] (fun out i wr => HeadBy w m t o out i wr) (fun _ i _ => m - (intOf i).toNat)
 case atStart => exact HS0.out
 case round =>
  obtain ⟨k, O, on, oc, hk, rfl, rfl, hown, hb⟩ := hrel
  clear HS0
  have hon : on ≤ m := by have h1 := Own.len hown; simp at h1; omega
  obtain ⟨wo, rfl⟩ : ∃ wo : World, wo = wr := ⟨_, rfl⟩
  by_cases hlt : k < m
  ·obtain ⟨b, off, x, rfl, hbb, hx, ex⟩ := h.spot hlt
   have hx1 : wo.cell? ⟨b, off + k, none⟩ = some (.int .i64 x) := (hb.cell (p := ⟨b, off + k, none⟩) hbb).trans hx
   have hmem := mem_of_get (by rw [HL.out]; exact hlt) ex.out
   have E := hid (show (t.take (k + 1)).map (ren o) = (t.take k).map (ren o) ++ [ren o x] by rw [take_snoc (by rw [HL.out]; exact hlt) ex.out, List.map_append]; rfl)
   have hsz := hb.size
   have hpo := hp.below hb
   clear hx h ex
   by_cases hneg : x < 0
   ·have hin := HO.out x hmem hneg
    have I0 : HeadIn wo pn o x (.int .i64 x) (.int .i64 0) wo := ⟨0, 0, Nat.zero_le _, rfl, by simp [upTo], rfl⟩
    have HI0 := hid I0
    have R := hid (show upTo o x pn = ren o x by unfold upTo ren; rw [if_pos hneg, if_pos (by rw [← HP.out]; exact idx_lt hin)])
    have REST := hid (fun (d : Nat) (O' : Option Addr) (oc' : Nat) (w2 : World) (ho2 : Own w2 w.heap.size (.slice O' (on + 1) oc') ((t.take k).map (ren o) ++ [ren o x])) (b2 : Below w.heap.size ((wo.drewN d).alloc (.cells #[.int .i64 (ren o x)] 2)) w2) =>
     (show HeadBy w m t o (.slice O' (on + 1) oc') (.int .i64 ((k : Int) + 1)) w2 from ⟨k + 1, O', on + 1, oc', hlt, by simp, rfl, by rw [E.out]; exact ho2, ((below_drewN hb d).alloc hsz _).trans b2⟩))
    clear I0 hin hmem hb
    go_wp2_with fail
    go_loopw [7, 8] (fun n q wi => HeadIn wo pn o x n q wi) (fun _ q _ => pn - (intOf q).toNat)
    case atStart => exact HI0.out
    case round =>
     obtain ⟨q, d, hq, rfl, rfl, hw⟩ := hrel
     clear HI0
     have hxr : wr.cell? ⟨b, off + k, none⟩ = some (.int .i64 x) := by rw [hw]; exact hx1
     have hpr : Seg wr w.heap.size P pn o := by rw [hw]; exact hpo
     have HW := hid hw
     clear hw
     by_cases hq2 : q < pn
     ·obtain ⟨b2, off2, y, rfl, -, hy, ey⟩ := hpr.spot hq2
      by_cases he : y = x
      ·have U := hid (upTo_yes HD.out (by rw [HP.out]; exact hq2) (ey.out.trans he))
       have S : ∀ nq : Nat, HeadIn wo pn o x (.int .i64 (-1 - (q : Int))) (.int .i64 ((q : Int) + 1)) (wr.drewN nq) := fun nq => ⟨q + 1, d + nq, hq2, by simp, by rw [U.out], by rw [HW.out, World.drewN_drewN]⟩
       replace S := hid S
       have e1 : (y == x) = true := by simp [he]
       clear hpr ey U hpo hp hx1 hown
       generalize upTo o x q = z at *
       go_wp2_with fail
       go_quiet (fail)
       go_wp2
       go_roundw
       case rel => exact S.out _
       case measure => simp [intOf]; omega
      ·have U := hid (upTo_no (x := x) (by rw [HP.out]; exact hq2) ey.out he)
       have S : ∀ nq : Nat, HeadIn wo pn o x (.int .i64 (upTo o x q)) (.int .i64 ((q : Int) + 1)) (wr.drewN nq) := fun nq => ⟨q + 1, d + nq, hq2, by simp, by rw [U.out], by rw [HW.out, World.drewN_drewN]⟩
       replace S := hid S
       have e1 : (y == x) = false := by simp [he]
       clear hpr ey U hpo hp hx1 hown
       generalize upTo o x q = z at *
       go_wp2_with fail
       go_quiet (fail)
       go_wp2
       go_roundw
       case rel => exact S.out _
       case measure => simp [intOf]; omega
     ·have hqp : q = pn := by omega
      subst hqp
      have hown2 : Own wr w.heap.size (.slice O on oc) ((t.take k).map (ren o)) := by rw [HW.out]; exact hown
      have hszr : w.heap.size ≤ wr.heap.size := by rw [HW.out]; exact hsz
      rw [R.out]
      clear hpr hpo hp hx1 hown
      generalize hz : ren o x = z at *
      go_wp2_with (at_builtin; refine app1 rfl _ _ rfl w.heap.size O on oc ((t.take k).map (ren o)) rfl (Own.alloc hown2 _) wr.heap.size 1 z rfl ((Row.new _ _ _).cell 0) (by omega) (by simp; omega) ?_; intro O' oc' w2 ho2 b2)
      have S := hid (REST.out d O' oc' w2 ho2 (by rw [← HW.out]; exact b2))
      clear ho2 b2 hown2 REST
      go_wp2
      go_roundw
      case rel => exact S.out
      case measure => simp [intOf]; omega
   ·have RH := hid (show ren o x = x by unfold ren; rw [if_neg hneg])
    have d1 : decide (x < 0) = false := by simp; omega
    have REST := hid (fun (O' : Option Addr) (oc' : Nat) (w2 : World) (ho2 : Own w2 w.heap.size (.slice O' (on + 1) oc') ((t.take k).map (ren o) ++ [x])) (b2 : Below w.heap.size (wo.alloc (.cells #[.int .i64 x] 2)) w2) =>
     (show HeadBy w m t o (.slice O' (on + 1) oc') (.int .i64 ((k : Int) + 1)) w2 from ⟨k + 1, O', on + 1, oc', hlt, by simp, rfl, by rw [E.out, RH.out]; exact ho2, (hb.alloc hsz _).trans b2⟩))
    clear hmem hpo hb
    by_cases hp0 : 0 < pn
    all_goals
     go_wp2_with fail
     go_loopw [7, 8] (fun n q wi => n = .int .i64 x ∧ q = .int .i64 0 ∧ wi = wo) (fun _ _ _ => 0)
     case atStart => exact ⟨rfl, rfl, rfl⟩
     case round =>
      obtain ⟨rfl, rfl, hw⟩ := hrel
      subst hw
      go_wp2_with (at_builtin; refine app1 rfl _ _ rfl w.heap.size O on oc ((t.take k).map (ren o)) rfl (Own.alloc hown _) wr.heap.size 1 x rfl ((Row.new _ _ _).cell 0) (by omega) (by simp; omega) ?_; intro O' oc' w2 ho2 b2)
      have S := hid (REST.out O' oc' w2 ho2 b2)
      clear ho2 b2 hown REST
      go_wp2
      go_roundw
      case rel => exact S.out
      case measure => simp [intOf]; omega
  ·have F : AnsList w (t.map (ren o)) (.returned (.slice O on oc)) wo := by
    rw [List.take_of_length_le (by rw [HL.out]; omega)] at hown
    exact ⟨O, on, oc, rfl, hown, hb⟩
   have HF := hid F
   clear F hown hb h hp
   go_wp2
   go_ret
   exact HF.out
set_option maxHeartbeats 1000000 in
theorem l2Renamed (A : Option Addr) (m c : Nat) (t : List Int) (w : World) (h : Seg w w.heap.size A m t) (hm : m ≤ 1048576) :
  Calls Try.prog 65 #[.slice A m c] w (AnsList w (renL t)) := by
 have L := hid (l2Order A m c t w h hm)
 have HL := hid h.1
 go_enter Try.func65, Try.ntmps65
 go_wp2_with fail
 refine L.out.mono ?_
 rintro e w1 ⟨P, pn, pc, rfl, o1, bb⟩
 have hpn : pn ≤ 1048576 := by rw [Own.len o1]; have := order_len t; have := HL.out; omega
 have L2 := hid (l2By P A pn pc m c (orderL t) t w1 (Own.seg o1) (h.next bb) hpn hm (order_nodup t) (fun x hx h0 => order_mem.2 ⟨hx, h0⟩))
 clear L o1 h
 go_wp2_with fail
 refine L2.out.mono ?_
 rintro e w2 ⟨Q, qn, qc, rfl, o2, b2⟩
 have F : AnsList w (renL t) (.returned (.slice Q qn qc)) w2 := ⟨Q, qn, qc, rfl, Own.lower o2 bb.size, next_trans bb b2⟩
 have HF := hid F
 clear F o2 b2 bb L2
 go_wp2
 go_ret
 exact HF.out
def AnsSegR (w : World) (ys : List Int) (e : Ending) (w' : World) : Prop := ∃ A n c, e = .returned (.slice A n c) ∧ Seg w' w'.heap.size A n ys ∧ Below w.heap.size w w'
set_option maxHeartbeats 1000000 in
theorem specRenamed (A A' : Option Addr) (n c m c' : Nat) (sg t : List Int) (w : World) (h : Seg w w.heap.size A n sg) (h' : Seg w w.heap.size A' m t) (hn : n ≤ 1048576) (hm : m ≤ 1048576) :
  Calls Try.prog 17 #[.agg #[.slice A n c], .slice A' m c'] w (AnsSegR w (renI sg t)) := by
 obtain ⟨W, hW⟩ : ∃ W, W = w.alloc (.cells #[.slice A n c] 26) := ⟨_, rfl⟩
 have bel : Below w.heap.size w W := by rw [hW]; exact (Below.refl _ _).alloc (Nat.le_refl _) _
 have s := (h.below bel).more bel.size
 have s' := (h'.below bel).more bel.size
 have HW := hid hW
 have L := hid (specTermOk A A' n c m c' sg t W s s' hn hm)
 clear hW h h' s
 cases hok : termOkB sg t with
 | false =>
  have HS := hid hok
  clear hok s'
  go_enter Try.func17, Try.ntmps17
  go_wp2_with fail
  rw [← HW.out]
  refine L.out.mono ?_
  rintro e w1 ⟨he, bb⟩
  rw [HS.out] at he
  subst he
  have F : AnsSegR w (renI sg t) (.returned (.slice (some ⟨w1.heap.size, 0, none⟩) 0 0)) (w1.alloc (.cells #[] 2)) :=
   ⟨_, 0, 0, rfl, by unfold renI; rw [if_neg (by rw [HS.out]; simp)]; exact Seg.empty, (next_trans bel bb).alloc (next_trans bel bb).size _⟩
  have HF := hid F
  clear F bb bel
  go_wp2
  go_ret
  exact HF.out
 | true =>
  have HS := hid hok
  clear hok
  go_enter Try.func17, Try.ntmps17
  go_wp2_with fail
  rw [← HW.out]
  refine L.out.mono ?_
  rintro e w1 ⟨he, bb⟩
  rw [HS.out] at he
  subst he
  have L2 := hid (l2Renamed A' m c' t w1 (s'.next bb) hm)
  clear L
  go_wp2_with fail
  refine L2.out.mono ?_
  rintro e w2 ⟨Q, qn, qc, rfl, o2, b2⟩
  have F : AnsSegR w (renI sg t) (.returned (.slice Q qn qc)) w2 := ⟨_, _, _, rfl, by unfold renI; rw [if_pos HS.out]; exact Own.seg o2, next_trans (next_trans bel bb) b2⟩
  have HF := hid F
  clear F o2 b2 bb bel s' L2
  go_wp2
  go_ret
  exact HF.out
end rename
end
end Go.Proofs.Ytfclafbdbdmlhaa
