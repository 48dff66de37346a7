/-
  MERGED: my texts DrawSysAny, DrawSysD, DrawSA, DrawVar, DrawSS, RuleSpecB, Inside, Concat, Args, Depth, TermMath, PosMath, PutMath, Put, HeldT, MatchMath, StepMath, WalkMath, DrawL7, one behind the other, as they are. By an AI agent.
-/
import Derived.Test.YtmoidijngeijkaaMFnRedexes3
import Derived.Deep.LoopGhost
import Derived.Lib.AppendZeros
import Derived.OrdersHeld
import Derived.Deep.RegionHeld
namespace Go.Proofs.Ytmoidijngeijkaa
section
open Go.Lib (hid)
namespace drawSysAny
open Go.RowKit base ints sig term cursor marks app appAt sym segs dice drawSig drawTerm drawAny drawSub drawS drawX drawRule drawKnown drawSys compImpl
open shape (Sh Dat nc dft sI sz)
open kindsR (sRule info_RuleS)
set_option maxRecDepth 100000
section
variable {w : World} {p : Nat} {A : Option Addr} {n c : Nat} {o : Nat} {S : Option Addr} {sn sc : Nat} {sg : List Int} {R : Option Addr} {rn rc : Nat} {D : List (Dat sRule)} {wr w' : World}
theorem YA.sig {S' : Option Addr} {sn' sc' : Nat} {xs : List Int} {base : Nat} (t : YA w p A n c o S sn sc sg R rn rc D wr) (h : Own wr base (.slice S' sn' sc') xs) (hb : ∀ k, blk R = some k → k < base) (hp : p < base) :
  YA w p A n c o S' sn' sc' xs R rn rc D (wr.setCell ⟨o, 0, none⟩ (.slice S' sn' sc')) := by
 have h1 := t.ho
 have hS : RdQ wr (OutR wr p (blk R)) sI [.slice S' sn' sc'] xs := rdq_own h fun b h1 h2 _ => ⟨h2, by omega, fun e => by have := hb b e.symm; omega⟩
 have hbb : Below (w.heap.size + 1) wr (wr.setCell ⟨o, 0, none⟩ (.slice S' sn' sc')) := (Below.refl _ _).setCell (p := ⟨o, 0, none⟩) (by show w.heap.size + 1 ≤ o; omega) _
 exact ⟨t.z.over hbb, t.rO.put 0 _, ints_put hS t.rO 0 _, ownQ_put t.own t.rO t.hR 0 _, t.hR, t.ho⟩
theorem lit_rule (x y : Int) (t : YA w p A n c o S sn sc sg R rn rc D wr) : RdQ ((wr.alloc (.cells #[.int .i64 x] 2)).alloc (.cells #[.int .i64 y] 2)) (OutR ((wr.alloc (.cells #[.int .i64 x] 2)).alloc (.cells #[.int .i64 y] 2)) p (blk R)) sRule [.slice (some ⟨wr.heap.size, 0, none⟩) 1 1, .slice (some ⟨wr.heap.size + 1, 0, none⟩) 1 1] (([x], [y]) : List Int × List Int) := by
 have hp := t.z.hp
 have hz := t.z.rN.lt
 have hne : ∀ g, wr.heap.size ≤ g → some g ≠ blk R := fun g hg e => by have := (t.own.ge g e.symm).2; omega
 refine RdQ.cat (ca := [_]) (cb := [_]) ?_ ?_
 ·refine lit_seg (xs := [x]) (g := wr.heap.size) ?_ (by simp) ⟨by simp only [sz_alloc]; omega, by omega, hne _ (Nat.le_refl _)⟩
  exact row_alloc (row_top rfl)
 ·refine lit_seg (xs := [y]) (g := wr.heap.size + 1) ?_ (by simp) ⟨by simp only [sz_alloc]; omega, by omega, hne _ (Nat.le_succ _)⟩
  exact row_top (by simp only [sz_alloc])
theorem ownQ_some {lo : Nat} {e : TypeId} (h : OwnQ wr p lo e sRule R rn rc D) (h1 : 1 ≤ rn) : ∃ g, R = some ⟨g, 0, none⟩ := by
 obtain ⟨_, vs, ho, _⟩ := h
 rcases ho.2 with ⟨e1, h0⟩ | ⟨g, cap, cur, e1, _⟩
 ·omega
 ·injection e1 with e1 _ _; exact ⟨g, e1⟩
theorem put_any {A' : Option Addr} {rc' : Nat} {x : Dat sRule} (t : YA w p A n c o S sn sc sg R rn rc D wr) (hown : OwnQ w' p (w.heap.size + 1) 80 sRule A' (rn + 1) rc' (D ++ [x])) (hg : wr.grownBy w' (blk R)) (hat : blk A' = blk R ∨ blk A' = some wr.heap.size) :
  w'.cell? ⟨o, 0, none⟩ = some (.slice S sn sc) ∧ w'.cell? ⟨o, 1, none⟩ = some (.slice R rn rc) ∧ w'.frozen? ⟨o, 1, none⟩ = false ∧ Row w' w.heap.size 29 #[.slice none 0 0, .slice none 0 0] ∧ YA w p A n c o S sn sc sg A' (rn + 1) rc' (D ++ [x]) (w'.setCell ⟨o, 1, none⟩ (.slice A' (rn + 1) rc')) := by
 obtain ⟨g', rfl⟩ := ownQ_some hown (by omega)
 have hO := Row.away t.rO hg t.hR
 refine ⟨hO.cell 0, hO.cell 1, hO.free 1, Row.away t.z.rN hg (fun e => by have := (t.own.ge _ e).1; omega), YA.put t hown hg ?_⟩
 rcases hat with e | e
 ·exact .inl e.symm
 ·have e : some g' = some wr.heap.size := e
  injection e with e
  exact .inr e
end
theorem rule_two {u v : World} {p N : Nat} {r : Option Nat} {O P : Option Addr} {on oc pn pc : Nat} {xs ys : List Int} (ra : Go.Proofs.Ytmoidijngeijkaa.drawTerm.Rd u p u.heap.size O on xs) (rb : Go.Proofs.Ytmoidijngeijkaa.drawTerm.Rd v p v.heap.size P pn ys) (h1 : on ≤ oc) (h2 : oc ≤ 9223372036854775807) (h3 : O = none → oc = 0) (k1 : pn ≤ pc) (k2 : pc ≤ 9223372036854775807) (k3 : P = none → pc = 0)
  (g : u.grownBy v (some p)) (hr : ∀ k, r = some k → k < N) (hNu : N ≤ u.heap.size) (hO : ∀ k, blk O = some k → N ≤ k) (hP : ∀ k, blk P = some k → u.heap.size ≤ k) : RdQ v (OutR v p r) sRule [.slice O on oc, .slice P pn pc] ((xs, ys) : List Int × List Int) := by
 have ra' := (ra.grown g (Nat.le_refl _)).more g.size
 have one : ∀ {Z : Option Addr} {zn zc : Nat} {zs : List Int}, Go.Proofs.Ytmoidijngeijkaa.drawTerm.Rd v p v.heap.size Z zn zs → Cap Z zn zc → (∀ k, blk Z = some k → N ≤ k) → RdQ v (OutR v p r) sI [.slice Z zn zc] zs := fun {Z zn zc zs} h hc hz =>
  rdq_seg h.1 hc fun hn => by
   obtain ⟨b, off, e, hb, hp, hcell⟩ := h.2 hn
   exact ⟨b, off, e, ⟨hb, hp, fun e2 => by have := hz b (by rw [e]; rfl); have := hr b e2.symm; omega⟩, hcell⟩
 exact RdQ.cat (ca := [_]) (cb := [_]) (one ra' ⟨h1, h2, h3⟩ hO) (one rb ⟨k1, k2, k3⟩ (fun k hk => Nat.le_trans hNu (hP k hk)))
def HeadM (w : World) (p : Nat) (A : Option Addr) (n c : Nat) (o : Nat) (S : Option Addr) (sn sc : Nat) (sg : List Int) (g : Nat) (wr : World) : Prop :=
 ∃ (R : Option Addr) (rn rc : Nat) (D : List (Dat sRule)), rn + g = 13 ∧ SmallD 13 D ∧ YA w p A n c o S sn sc sg R rn rc D wr
set_option maxHeartbeats 4000000 in
theorem drawSysAny (p : Nat) (A : Option Addr) (n c : Nat) (w : World) (hd : Dice w p A n c) :
  Calls Try.prog 48 #[.pointer (some ⟨p, 0, none⟩)] w (AnsSys w p A n c 13) := by
 obtain ⟨W, hW⟩ : ∃ W, W = w.alloc (.cells #[.slice none 0 0, .slice none 0 0] 29) := ⟨_, rfl⟩
 have T : Y0 w p A n c W := by rw [hW]; exact ⟨hd.alloc _, Row.new _ _ _, World.grownBy_alloc _ _ _, hd.lt⟩
 have zW : W.heap.size = w.heap.size + 1 := by rw [hW]; simp
 have HW := hid hW
 have hp := hd.lt
 clear hW hd
 have L1 := hid (drawSys p A n c W T.d)
 go_enter Try.func48, Try.ntmps48
 go_wp2_with fail
 rw [← HW.out]
 refine L1.out.mono ?_
 rintro e u2 ⟨S, sn, sc, sg, R, rn, rc, D, rfl, sS, h9, own, hM, d1, g1⟩
 rw [zW] at own
 have T2 := T.dice d1 g1
 have z2 := T2.rN.lt
 obtain ⟨o, ho⟩ : ∃ o, u2.heap.size = o := ⟨_, rfl⟩
 obtain ⟨W3, hW3⟩ : ∃ W3, W3 = u2.alloc (.cells #[.slice S sn sc, .slice R rn rc] 29) := ⟨_, rfl⟩
 have T3 : YA w p A n c o S sn sc sg R rn rc D W3 := by
  have bb : Below u2.heap.size u2 W3 := by rw [hW3]; exact (Below.refl _ _).alloc (Nat.le_refl _) _
  exact ⟨T2.over (bb.mono (by omega)), by rw [hW3, ← ho]; exact Row.new _ _ _, outR_below sS bb, own.below bb, (fun e => by have := (own.ge _ e).2; omega), by omega⟩
 have HW3 := hid hW3
 have HO := hid ho
 have L3 := hid (once p A n c 15 W3 T3.z.d (by omega) (by omega))
 have hDl := hid own.1
 have hrn : rn ≤ 3 := by have := own.1; have := hM.1; omega
 clear L1 T T2 d1 g1 sS own hW3 ho HW zW
 go_wp2_with fail
 rw [← HW3.out, HO.out]
 refine L3.out.mono ?_
 rintro e u4 ⟨b, rfl, d4, g4⟩
 have T4 := T3.dice d4 g4
 clear T3 d4 g4 L3 HW3 HO
 cases b with
 | false =>
  have cN : u4.cell? ⟨w.heap.size, 0, none⟩ = some (.slice none 0 0) := T4.z.rN.cell 0
  have cN1 : u4.cell? ⟨w.heap.size, 1, none⟩ = some (.slice none 0 0) := T4.z.rN.cell 1
  have fN : u4.frozen? ⟨w.heap.size, 0, none⟩ = false := T4.z.rN.free 0
  have fN1 : u4.frozen? ⟨w.heap.size, 1, none⟩ = false := T4.z.rN.free 1
  have cV : u4.cell? ⟨o, 0, none⟩ = some (.slice S sn sc) := T4.rO.cell 0
  have cR : u4.cell? ⟨o, 1, none⟩ = some (.slice R rn rc) := T4.rO.cell 1
  have F := hid (sys_result T4.z T4.s T4.own h9 (small_wider hM (show 3 ≤ 13 by omega)))
  clear T4
  go_wp2
  exact bodyPost_ret (v := .agg #[.slice S sn sc, .slice R rn rc]) (by simp [results, Try.results48, go_sem, cN, cN1]) rfl F.out
 | true =>
  have L4 := hid (below p A n c 4 u4 T4.z.d (by omega) (by omega))
  go_wp2_with fail
  refine L4.out.mono ?_
  rintro e u5 ⟨x, rfl, x0, x1, d5, g5⟩
  have T5 := T4.dice d5 g5
  clear T4 d5 g5 L4
  have cV : u5.cell? ⟨o, 0, none⟩ = some (.slice S sn sc) := T5.rO.cell 0
  have cR : u5.cell? ⟨o, 1, none⟩ = some (.slice R rn rc) := T5.rO.cell 1
  have zne : ¬ o = w.heap.size := by have := T5.ho; omega
  by_cases hx0 : x = 0
  ·subst hx0
   have T6 := T5.drew
   clear x0 x1 T5
   go_wp2_with fail
   go_region_law (first
    | (refine stepQ1 rfl _ _ 27 80 sRule _ 48 Try.underlying27 info_RuleS rfl (by omega) rfl p (w.heap.size + 1) R rn rc D (by simp [Act.eval, Act.put]) (T8.alloc _).own w8.heap.size 1 [.slice O on oc, .slice P pn pc] ((xs, ys) : List Int × List Int) (by simp [Act.eval, Act.put]) (fun i hi => by match i, hi with | 0, _ => exact (Row.new _ _ _).cell 0 | 1, _ => exact (Row.new _ _ _).cell 1) (outR_below RX ((Below.refl _ _).alloc (Nat.le_refl _) _)) (by omega) (by simp; omega) ?_; intro O' oc' w9 ho9 hg9 hat9 hlt9; have r9 := Row.away (T8.alloc _).rO hg9 T8.hR; have cV9 : w9.cell? ⟨o, 0, none⟩ = some (.slice S sn sc) := r9.cell 0; have cR9 : w9.cell? ⟨o, 1, none⟩ = some (.slice R rn rc) := r9.cell 1; have fV9 : w9.frozen? ⟨o, 1, none⟩ = false := r9.free 1)
    | (go_simp; go_at_call 71; refine (drawAnyN p A n c S sn sc sg _ T7.z.d (rd_of T7.s) (by have := (rd_of T7.s).1; omega)).mono ?_; rintro e w8 ⟨P, pn, pc, ys, rfl, rb, k1, k2, k3, k4, d8, g8, hnew8⟩; have T8 := T7.dice d8 g8; have RX := rule_two (pc := pc) ra rb h1 h2 h3 k1 k2 k3 g8 (fun k hk => (T6.own.ge k hk).2) g7.size hnew7 hnew8; have cV8 : w8.cell? ⟨o, 0, none⟩ = some (.slice S sn sc) := T8.rO.cell 0; have cR8 : w8.cell? ⟨o, 1, none⟩ = some (.slice R rn rc) := T8.rO.cell 1; have zV8 : o < w8.heap.size := T8.rO.lt; have zW8 : w.heap.size < w8.heap.size := T8.z.rN.lt)
    | (go_simp; go_at_call 71; refine (drawAnyN p A n c S sn sc sg _ T6.z.d (rd_of T6.s) (by have := (rd_of T6.s).1; omega)).mono ?_; rintro e w7 ⟨O, on, oc, xs, rfl, ra, h1, h2, h3, h4, d7, g7, hnew7⟩; have T7 := T6.dice d7 g7; have cV7 : w7.cell? ⟨o, 0, none⟩ = some (.slice S sn sc) := T7.rO.cell 0; have cR7 : w7.cell? ⟨o, 1, none⟩ = some (.slice R rn rc) := T7.rO.cell 1; have zV7 : o < w7.heap.size := T7.rO.lt; have zW7 : w.heap.size < w7.heap.size := T7.z.rN.lt))
   all_goals
    have T9 := YA.put (T8.alloc _) ho9 hg9 hat9
    have cN9 : (w9.setCell ⟨o, 1, none⟩ (.slice (some ⟨O', 0, none⟩) (rn + 1) oc')).cell? ⟨w.heap.size, 0, none⟩ = some (.slice none 0 0) := T9.z.rN.cell 0
    have cN91 : (w9.setCell ⟨o, 1, none⟩ (.slice (some ⟨O', 0, none⟩) (rn + 1) oc')).cell? ⟨w.heap.size, 1, none⟩ = some (.slice none 0 0) := T9.z.rN.cell 1
    have fN9 : (w9.setCell ⟨o, 1, none⟩ (.slice (some ⟨O', 0, none⟩) (rn + 1) oc')).frozen? ⟨w.heap.size, 0, none⟩ = false := T9.z.rN.free 0
    have fN91 : (w9.setCell ⟨o, 1, none⟩ (.slice (some ⟨O', 0, none⟩) (rn + 1) oc')).frozen? ⟨w.heap.size, 1, none⟩ = false := T9.z.rN.free 1
    have cW9 : (w9.setCell ⟨o, 1, none⟩ (.slice (some ⟨O', 0, none⟩) (rn + 1) oc')).cell? ⟨o, 0, none⟩ = some (.slice S sn sc) := T9.rO.cell 0
    have cW91 : (w9.setCell ⟨o, 1, none⟩ (.slice (some ⟨O', 0, none⟩) (rn + 1) oc')).cell? ⟨o, 1, none⟩ = some (.slice (some ⟨O', 0, none⟩) (rn + 1) oc') := T9.rO.cell 1
    have F := hid (sys_result T9.z T9.s T9.own h9 (small_wider (small_app hM (by rw [ra.1]; exact h4) (by rw [rb.1]; exact k4)) (show 3 + 1 ≤ 13 by omega)))
    clear T9 T8 T7 T6 ho9 hg9 hat9 hlt9 r9 d7 g7 d8 g8 cV7 cR7 cV8 cR8 RX ra rb
    go_wp2
    exact bodyPost_ret (v := .agg #[.slice S sn sc, .slice (some ⟨O', 0, none⟩) (rn + 1) oc']) (by simp [results, Try.results48, go_sem, cN9, cN91]) rfl F.out
  ·by_cases hx1 : x = 1
   ·subst hx1
    have L6 := hid (drawSigAny p A n c u5 T5.z.d)
    go_wp2_with fail
    refine L6.out.mono ?_
    rintro e u6 ⟨S', sn', sc', xs, rfl, oS, hsh, d6, g6⟩
    have T6 := T5.dice d6 g6
    have T8 := YA.sig T6 oS (fun k hk => (T5.own.ge k hk).2) (by have := T5.z.rN.lt; omega)
    have cV6 : u6.cell? ⟨o, 0, none⟩ = some (.slice S sn sc) := T6.rO.cell 0
    have cR6 : u6.cell? ⟨o, 1, none⟩ = some (.slice R rn rc) := T6.rO.cell 1
    have fV6 : u6.frozen? ⟨o, 0, none⟩ = false := T6.rO.free 0
    have cN8 : (u6.setCell ⟨o, 0, none⟩ (.slice S' sn' sc')).cell? ⟨w.heap.size, 0, none⟩ = some (.slice none 0 0) := T8.z.rN.cell 0
    have cN81 : (u6.setCell ⟨o, 0, none⟩ (.slice S' sn' sc')).cell? ⟨w.heap.size, 1, none⟩ = some (.slice none 0 0) := T8.z.rN.cell 1
    have fN8 : (u6.setCell ⟨o, 0, none⟩ (.slice S' sn' sc')).frozen? ⟨w.heap.size, 0, none⟩ = false := T8.z.rN.free 0
    have fN81 : (u6.setCell ⟨o, 0, none⟩ (.slice S' sn' sc')).frozen? ⟨w.heap.size, 1, none⟩ = false := T8.z.rN.free 1
    have cW8 : (u6.setCell ⟨o, 0, none⟩ (.slice S' sn' sc')).cell? ⟨o, 0, none⟩ = some (.slice S' sn' sc') := T8.rO.cell 0
    have cW81 : (u6.setCell ⟨o, 0, none⟩ (.slice S' sn' sc')).cell? ⟨o, 1, none⟩ = some (.slice R rn rc) := T8.rO.cell 1
    have F := hid (sys_result T8.z T8.s T8.own hsh (small_wider hM (show 3 ≤ 13 by omega)))
    clear T8 T6 T5 d6 g6 L6 oS
    go_wp2
    exact bodyPost_ret (v := .agg #[.slice S' sn' sc', .slice R rn rc]) (by simp [results, Try.results48, go_sem, cN8, cN81]) rfl F.out
   ·by_cases hx2 : x = 2
    ·subst hx2
     clear x0 x1 hx0 hx1 cV cR
     have HH := hid (show HeadM w p A n c o S sn sc sg (13 - rn) u5 from ⟨R, rn, rc, D, by omega, small_wider hM (by omega), T5⟩)
     clear T5 hM hDl
     go_wp2_with fail
     go_loopg [] (13 - rn) (fun g wr => HeadM w p A n c o S sn sc sg g wr)
     case atStart => exact HH.out
     case round =>
      clear HH hrn
      obtain ⟨R, rn, rc, D, hg13, hM, T⟩ := hrel
      have HG := hid hg13
      have hDl := hid T.own.1
      have cV : wr.cell? ⟨o, 0, none⟩ = some (.slice S sn sc) := T.rO.cell 0
      have cR : wr.cell? ⟨o, 1, none⟩ = some (.slice R rn rc) := T.rO.cell 1
      clear hg13
      by_cases hlt : rn < 13
      ·have i1 : (rn : Int) < 13 := by omega
       have hgk := hid (show gk - 1 < gk ∧ rn + 1 + (gk - 1) = 13 by have := HG.out; omega)
       have LR := hid (lit_rule 2 2 T)
       have TA := ((T.alloc (.cells #[.int .i64 2] 2)).alloc (.cells #[.int .i64 2] 2)).alloc (.cells #[.slice (some ⟨wr.heap.size, 0, none⟩) 1 1, .slice (some ⟨wr.heap.size + 1, 0, none⟩) 1 1] 80)
       have zu := T.z.rN.lt
       have hM1 := hid (show SmallD 13 (D ++ [(([2], [2]) : List Int × List Int)]) from small_wider (small_app (M := rn) ⟨Nat.le_of_eq hDl.out, hM.2⟩ (by simp) (by simp)) (by omega))
       go_wp2_with (at_builtin; refine appQ1 rfl _ _ 27 80 sRule _ 48 Try.underlying27 info_RuleS rfl (by omega) rfl p (w.heap.size + 1) R rn rc D rfl TA.own (wr.heap.size + 1 + 1) 1 [.slice (some ⟨wr.heap.size, 0, none⟩) 1 1, .slice (some ⟨wr.heap.size + 1, 0, none⟩) 1 1] (([2], [2]) : List Int × List Int) rfl (fun i hi => by match i, hi with | 0, _ => exact (row_top (by simp only [sz_alloc])).cell 0 | 1, _ => exact (row_top (by simp only [sz_alloc])).cell 1) (outR_below LR.out ((Below.refl _ _).alloc (Nat.le_refl _) _)) (by omega) (by simp only [sz_alloc]; omega) ?_; intro A' c' w8 ho8 hg8 hat8 hb8; obtain ⟨cV8, cR8, fV8, rN8, T8⟩ := put_any TA ho8 hg8 hat8)
       have F := hid (show HeadM w p A n c o S sn sc sg (gk - 1) _ from ⟨A', rn + 1, c', _, hgk.out.2, hM1.out, T8⟩)
       clear T8 TA T ho8 hg8 hat8 hb8 LR hM1 hM
       go_wp2
       go_roundg (gk - 1)
       case measure => exact hgk.out.1
       case rel => exact F.out
      ·have i1 : ¬ (rn : Int) < 13 := by omega
       have cN : wr.cell? ⟨w.heap.size, 0, none⟩ = some (.slice none 0 0) := T.z.rN.cell 0
       have cN1 : wr.cell? ⟨w.heap.size, 1, none⟩ = some (.slice none 0 0) := T.z.rN.cell 1
       have fN : wr.frozen? ⟨w.heap.size, 0, none⟩ = false := T.z.rN.free 0
       have fN1 : wr.frozen? ⟨w.heap.size, 1, none⟩ = false := T.z.rN.free 1
       have F := hid (sys_result T.z T.s T.own h9 hM)
       clear T hM
       go_wp2
       exact bodyPost_ret (v := .agg #[.slice S sn sc, .slice R rn rc]) (by simp [results, Try.results48, go_sem, cN, cN1]) rfl F.out
    ·have e3 : x = 3 := by omega
     subst e3
     clear x0 x1 hx0 hx1 hx2
     have LR := hid (lit_rule (-1) (-1) T5)
     have TA := ((T5.alloc (.cells #[.int .i64 (-1)] 2)).alloc (.cells #[.int .i64 (-1)] 2)).alloc (.cells #[.slice (some ⟨u5.heap.size, 0, none⟩) 1 1, .slice (some ⟨u5.heap.size + 1, 0, none⟩) 1 1] 80)
     have zu := T5.z.rN.lt
     go_wp2_with (at_builtin; refine appQ1 rfl _ _ 27 80 sRule _ 48 Try.underlying27 info_RuleS rfl (by omega) rfl p (w.heap.size + 1) R rn rc D rfl TA.own (u5.heap.size + 1 + 1) 1 [.slice (some ⟨u5.heap.size, 0, none⟩) 1 1, .slice (some ⟨u5.heap.size + 1, 0, none⟩) 1 1] (([-1], [-1]) : List Int × List Int) rfl (fun i hi => by match i, hi with | 0, _ => exact (row_top (by simp only [sz_alloc])).cell 0 | 1, _ => exact (row_top (by simp only [sz_alloc])).cell 1) (outR_below LR.out ((Below.refl _ _).alloc (Nat.le_refl _) _)) (by omega) (by simp only [sz_alloc]; omega) ?_; intro A' c' w8 ho8 hg8 hat8 hb8; obtain ⟨cV8, cR8, fV8, rN8, T8⟩ := put_any TA ho8 hg8 hat8; have dN8 : w8.cell? ⟨w.heap.size, 0, none⟩ = some (.slice none 0 0) := rN8.cell 0; have dN81 : w8.cell? ⟨w.heap.size, 1, none⟩ = some (.slice none 0 0) := rN8.cell 1; have eN8 : w8.frozen? ⟨w.heap.size, 0, none⟩ = false := rN8.free 0; have eN81 : w8.frozen? ⟨w.heap.size, 1, none⟩ = false := rN8.free 1)
     have cN8 : (w8.setCell ⟨o, 1, none⟩ (.slice A' (rn + 1) c')).cell? ⟨w.heap.size, 0, none⟩ = some (.slice none 0 0) := T8.z.rN.cell 0
     have cN81 : (w8.setCell ⟨o, 1, none⟩ (.slice A' (rn + 1) c')).cell? ⟨w.heap.size, 1, none⟩ = some (.slice none 0 0) := T8.z.rN.cell 1
     have fN8 : (w8.setCell ⟨o, 1, none⟩ (.slice A' (rn + 1) c')).frozen? ⟨w.heap.size, 0, none⟩ = false := T8.z.rN.free 0
     have fN81 : (w8.setCell ⟨o, 1, none⟩ (.slice A' (rn + 1) c')).frozen? ⟨w.heap.size, 1, none⟩ = false := T8.z.rN.free 1
     have cW8 : (w8.setCell ⟨o, 1, none⟩ (.slice A' (rn + 1) c')).cell? ⟨o, 0, none⟩ = some (.slice S sn sc) := T8.rO.cell 0
     have cW81 : (w8.setCell ⟨o, 1, none⟩ (.slice A' (rn + 1) c')).cell? ⟨o, 1, none⟩ = some (.slice A' (rn + 1) c') := T8.rO.cell 1
     have F := hid (sys_result T8.z T8.s T8.own h9 (small_wider (small_app hM (by simp) (by simp)) (show 3 + 1 ≤ 13 by omega)))
     clear T8 TA T5 ho8 hg8 hat8 hb8 LR
     try go_wp2
     exact bodyPost_ret (v := .agg #[.slice S sn sc, .slice A' (rn + 1) c']) (by simp [results, Try.results48, go_sem, cN8, cN81, dN8, dN81, zne]) rfl F.out
end drawSysAny
end
section
namespace drawSysD
open Go.RowKit base ints sig term cursor marks app appAt sym segs dice drawTwo drawX drawRule drawKnown drawSys drawSysAny
open shape (Sh Dat nc dft sI sz)
open kindsR (sRule sSystem sRuleS)
set_option maxRecDepth 100000
theorem sz_small {M : Nat} {D : List (Dat sRule)} (h : SmallD M D) : sz sRuleS D ≤ M + M * 130 := by
 have h1 : ∀ x ∈ D, sz sRule x ≤ 130 := fun x hx => by
  obtain ⟨j, hj, rfl⟩ := List.mem_iff_getElem.1 hx
  obtain ⟨h2, h3⟩ := h.2 j
  rw [List.getD_eq_getElem?_getD, List.getElem?_eq_getElem hj] at h2 h3
  have h2 : ((D[j]).1 : List Int).length ≤ 65 := h2
  have h3 : ((D[j]).2 : List Int).length ≤ 65 := h3
  show sz sI (D[j]).1 + sz sI (D[j]).2 ≤ 130
  rw [Go.Proofs.Ytmoidijngeijkaa.shape.sz_ints, Go.Proofs.Ytmoidijngeijkaa.shape.sz_ints]
  omega
 have h2 : ∀ l : List (Dat sRule), (∀ x ∈ l, sz sRule x ≤ 130) → (l.map (sz sRule)).sum ≤ l.length * 130 := fun l => by
  induction l with
  | nil => intro _; exact Nat.le_refl _
  | cons x l ih =>
   intro hx
   have a := hx x (List.mem_cons_self ..)
   have b := ih fun y hy => hx y (List.mem_cons_of_mem _ hy)
   rw [List.map_cons, List.sum_cons, List.length_cons, Nat.add_mul]
   omega
 have h3 := h2 D h1
 have h4 := Nat.mul_le_mul_right 130 h.1
 show D.length + (D.map (sz sRule)).sum ≤ _
 have := h.1
 omega
end drawSysD
end
section
namespace drawSA
open Go.RowKit base ints sig term cursor termOk marks app appAt sym segs segsHelp dice drawSig drawTerm drawAny drawPair drawOne drawSub drawS
set_option maxRecDepth 100000
structure D0 (w : World) (p : Nat) (A : Option Addr) (n c : Nat) (S : Option Addr) (sn sc : Nat) (sg : List Int) (wr : World) : Prop where
 d : Dice wr p A n c
 rS : Row wr w.heap.size 26 #[.slice S sn sc]
 rR : Row wr (w.heap.size + 1) 95 #[.slice none 0 0]
 s : Rd wr p w.heap.size S sn sg
 g : w.grownBy wr (some p)
 hp : p < w.heap.size
structure DA (w : World) (p : Nat) (A : Option Addr) (n c : Nat) (S : Option Addr) (sn sc : Nat) (sg : List Int) (o : Nat) (B : Option Addr) (m cB : Nat) (xss : List (List Int)) (wr : World) : Prop where
 z : D0 w p A n c S sn sc sg wr
 rO : Row wr o 95 #[.slice B m cB]
 own : OwnR wr p (w.heap.size + 2) B m cB xss
 hB : blk B ≠ some o
 ho : w.heap.size + 1 < o
section
variable {w : World} {p : Nat} {A : Option Addr} {n c : Nat} {S : Option Addr} {sn sc : Nat} {sg : List Int} {o : Nat} {B : Option Addr} {m cB : Nat} {xss : List (List Int)} {wr w' : World}
theorem D0.next (t : D0 w p A n c S sn sc sg wr) (hb : Below wr.heap.size wr w') : D0 w p A n c S sn sc sg w' :=
 ⟨t.d.next hb, t.rS.next hb, t.rR.next hb, t.s.below hb t.g.size, grown_over t.g hb t.g.size, t.hp⟩
theorem D0.over {o : Nat} (t : D0 w p A n c S sn sc sg wr) (hb : Below (w.heap.size + 2) wr w') : D0 w p A n c S sn sc sg w' :=
 ⟨t.d.keep (hb.mono (by have := t.hp; omega)), t.rS.below hb (by omega), t.rR.below hb (by omega), t.s.below hb (by omega), grown_over t.g hb (by omega), t.hp⟩
theorem DA.next (t : DA w p A n c S sn sc sg o B m cB xss wr) (hb : Below wr.heap.size wr w') : DA w p A n c S sn sc sg o B m cB xss w' :=
 ⟨t.z.next hb, t.rO.next hb, t.own.below hb, t.hB, t.ho⟩
end
end drawSA
end
section
namespace drawVar
open Go.RowKit base ints sig term cursor termOk marks app sym dice drawSig drawTerm drawAny drawTwo drawPair drawOne fillMath shifted
structure V3 (w : World) (p : Nat) (A : Option Addr) (n c v : Nat) (S : Option Addr) (sn sc : Nat) (sg : List Int) (O : Option Addr) (on : Nat) (xs : List Int) (wr : World) : Prop where
 d : Dice wr p A n c
 rN : Row wr w.heap.size 26 #[.slice none 0 0]
 rV : Row wr v 26 #[.slice S sn sc]
 s : Rd wr p wr.heap.size S sn sg
 o : Rd wr p wr.heap.size O on xs
 b : Below w.heap.size w wr
 hp : w.heap.size < p
 pv : p < v
section
variable {w : World} {p : Nat} {A : Option Addr} {n c v : Nat} {S : Option Addr} {sn sc : Nat} {sg : List Int} {O : Option Addr} {on : Nat} {xs : List Int} {wr w' : World}
theorem V3.next (t : V3 w p A n c v S sn sc sg O on xs wr) (hb : Below wr.heap.size wr w') : V3 w p A n c v S sn sc sg O on xs w' :=
 ⟨t.d.next hb, t.rN.next hb, t.rV.next hb, (t.s.below hb (Nat.le_refl _)).more hb.size, (t.o.below hb (Nat.le_refl _)).more hb.size, next_trans t.b hb, t.hp, t.pv⟩
end
end drawVar
end
section
namespace drawSS
open Go.RowKit base ints sig term cursor termOk marks app appAt sym segs segsHelp dice drawSig drawTerm drawAny drawTwo drawPair drawOne drawSub drawS drawSA drawVar plain plainOf
set_option maxRecDepth 100000
theorem OwnR.segs {w : World} {p lo n c : Nat} {A : Option Addr} {xss : List (List Int)} (h : OwnR w p lo A n c xss) : Segs w w.heap.size A n xss := by
 obtain ⟨h1, vs, hr, h3⟩ := h
 refine ⟨h1, fun hn => ?_⟩
 rcases own_form hr with ⟨_, e, _⟩ | ⟨g, cur, rfl, _, hrow, _, _, _, _, hc⟩
 ·omega
 ·refine ⟨g, 0, rfl, hrow.lt, fun j hj => ?_⟩
  obtain ⟨A', n', c', e, hrd, hcap, _⟩ := h3 j hj
  refine ⟨A', n', c', ?_, hrd.seg, hcap⟩
  rw [Nat.zero_add, hrow.cell j, hc j hj, e]
structure V4 (w : World) (p : Nat) (A : Option Addr) (n c v6 v7 : Nat) (S : Option Addr) (sn sc : Nat) (sg : List Int) (B : Option Addr) (m cB : Nat) (xss : List (List Int)) (wr : World) : Prop where
 d : Dice wr p A n c
 rN : Row wr w.heap.size 26 #[.slice none 0 0]
 rP : Row wr (w.heap.size + 1) 95 #[.slice none 0 0]
 r6 : Row wr v6 26 #[.slice S sn sc]
 r7 : Row wr v7 95 #[.slice B m cB]
 s : Rd wr p wr.heap.size S sn sg
 own : OwnR wr p (p + 1) B m cB xss
 b : Below w.heap.size w wr
 hp : w.heap.size + 1 < p
 p6 : p < v6
 p7 : p < v7
section
variable {w : World} {p : Nat} {A : Option Addr} {n c v6 v7 : Nat} {S : Option Addr} {sn sc : Nat} {sg : List Int} {B : Option Addr} {m cB : Nat} {xss : List (List Int)} {wr w' : World}
theorem V4.next (t : V4 w p A n c v6 v7 S sn sc sg B m cB xss wr) (hb : Below wr.heap.size wr w') : V4 w p A n c v6 v7 S sn sc sg B m cB xss w' :=
 ⟨t.d.next hb, t.rN.next hb, t.rP.next hb, t.r6.next hb, t.r7.next hb, (t.s.below hb (Nat.le_refl _)).more hb.size, t.own.below hb, next_trans t.b hb, t.hp, t.p6, t.p7⟩
end
def AnsST (w : World) (e : Ending) (w' : World) : Prop :=
 ∃ S sn sc sg B m cB xss O on oc ys, e = .returned (.tuple #[.agg #[.slice S sn sc], .agg #[.slice B m cB], .slice O on oc]) ∧ Seg w' w'.heap.size S sn sg ∧ Segs w' w'.heap.size B m xss ∧ Seg w' w'.heap.size O on ys ∧ sn ≤ 9 ∧ tot xss ≤ 1048576 ∧ on ≤ 65 ∧ Below w.heap.size w w'
end drawSS
end
section
namespace ruleSpec
open Go.RowKit base ints sig term termOk marks app sym segs termFacts varsMath varsOf rename same count linear shape kindsR ruleMath
set_option maxRecDepth 100000
end ruleSpec
end
section
open Go.Lib (hid)
namespace inside
open Go.RowKit base ints sig term arity endOf cursor termOk endAt
set_option maxRecDepth 100000
def Tells (w : World) (b : Bool) (e : Ending) (w' : World) : Prop := e = .returned (.bool b) ∧ Below w.heap.size w w'
structure Fr (w wr : World) (A : Option Addr) (n c : Nat) (sg : List Int) (A' : Option Addr) (m : Nat) (t : List Int) : Prop where
 r : Row wr w.heap.size 26 #[.slice A n c]
 s : Seg wr w.heap.size A n sg
 s' : Seg wr w.heap.size A' m t
 b : Below w.heap.size w wr
section
variable {w wr w' : World} {A : Option Addr} {n c : Nat} {sg : List Int} {A' : Option Addr} {m : Nat} {t : List Int}
theorem Fr.start (h : Seg w w.heap.size A n sg) (h' : Seg w w.heap.size A' m t) : Fr w (w.alloc (.cells #[.slice A n c] 26)) A n c sg A' m t :=
 have b : Below w.heap.size w (w.alloc (.cells #[.slice A n c] 26)) := (Below.refl _ _).alloc (Nat.le_refl _) _
 ⟨Row.new _ _ _, h.below b, h'.below b, b⟩
theorem Fr.next (f : Fr w wr A n c sg A' m t) (hb : Below wr.heap.size wr w') : Fr w w' A n c sg A' m t :=
 have b : Below w.heap.size wr w' := hb.mono (Nat.le_of_lt f.r.lt)
 ⟨f.r.next hb, f.s.below b, f.s'.below b, f.b.trans b⟩
theorem Fr.over (f : Fr w wr A n c sg A' m t) (hb : Below (w.heap.size + 1) wr w') : Fr w w' A n c sg A' m t :=
 have b : Below w.heap.size wr w' := hb.mono (Nat.le_succ _)
 ⟨f.r.below hb (Nat.lt_succ_self _), f.s.below b, f.s'.below b, f.b.trans b⟩
theorem Fr.alloc (f : Fr w wr A n c sg A' m t) (o : Obj) : Fr w (wr.alloc o) A n c sg A' m t := f.next ((Below.refl _ _).alloc (Nat.le_refl _) _)
theorem Fr.cell (f : Fr w wr A n c sg A' m t) : wr.cell? ⟨w.heap.size, 0, none⟩ = some (.slice A n c) := f.r.cell 0
theorem Fr.s1 (f : Fr w wr A n c sg A' m t) : Seg wr wr.heap.size A n sg := f.s.more (Nat.le_of_lt f.r.lt)
theorem Fr.t1 (f : Fr w wr A n c sg A' m t) : Seg wr wr.heap.size A' m t := f.s'.more (Nat.le_of_lt f.r.lt)
theorem Fr.size (f : Fr w wr A n c sg A' m t) : w.heap.size < wr.heap.size := f.r.lt
end
def insI (sg t : List Int) (x p : Int) : Bool := decide (x ≤ p ∧ p < endI sg t x.toNat)
def insideB (sg t : List Int) (x p : Int) : Bool := thereB sg t x && insI sg t x p
set_option maxHeartbeats 1000000 in
theorem placeIn (A A' : Option Addr) (n c m c' : Nat) (sg t : List Int) (x : Int) (w : World) (h : Seg w w.heap.size A n sg) (h' : Seg w w.heap.size A' m t) (hn : n ≤ 1048576) (hm : m ≤ 1048576) :
  Calls Try.prog 44 #[.agg #[.slice A n c], .slice A' m c', .int .i64 x] w (Tells w (thereB sg t x)) := by
 obtain ⟨W, hW⟩ : ∃ W, W = w.alloc (.cells #[.slice A n c] 26) := ⟨_, rfl⟩
 have f : Fr w W A n c sg A' m t := by rw [hW]; exact Fr.start h h'
 have HW := hid hW
 have L := hid (cursorAt A A' n c m c' sg t x W f.s1 f.t1 hn hm)
 clear hW h h'
 go_enter Try.func44, Try.ntmps44
 go_wp2_with fail
 rw [← HW.out]
 refine L.out.mono ?_
 rintro e w1 ⟨bb, ⟨ht, p, rfl, hp, hc⟩ | ⟨ht, rfl⟩⟩
 ·have F := hid (show Tells w (thereB sg t x) (.returned (.bool true)) w1 from ⟨by rw [ht], (f.next bb).b⟩)
  clear f L bb hc hp
  go_wp2
  go_ret
  exact F.out
 ·have F := hid (show Tells w (thereB sg t x) (.returned (.bool false)) w1 from ⟨by rw [ht], (f.next bb).b⟩)
  clear f L bb
  go_wp2
  go_ret
  exact F.out
set_option maxHeartbeats 1000000 in
theorem implInsideIn (A A' : Option Addr) (n c m c' : Nat) (sg t : List Int) (x p : Int) (w : World) (h : Seg w w.heap.size A n sg) (h' : Seg w w.heap.size A' m t) (hn : n ≤ 1048576) (hm : m ≤ 1048576) (hx1 : -9223372036854775808 ≤ x) (hx2 : x ≤ 9223372036854775807) :
  Calls Try.prog 23 #[.agg #[.slice A n c], .slice A' m c', .int .i64 x, .int .i64 p] w (Tells w (insideB sg t x p)) := by
 obtain ⟨W, hW⟩ : ∃ W, W = w.alloc (.cells #[.slice A n c] 26) := ⟨_, rfl⟩
 have f : Fr w W A n c sg A' m t := by rw [hW]; exact Fr.start h h'
 have HW := hid hW
 have L := hid (placeIn A A' n c m c' sg t x W f.s1 f.t1 hn hm)
 clear hW h h'
 cases hx : thereB sg t x with
 | false =>
  have HX := hid hx
  clear hx
  go_enter Try.func23, Try.ntmps23
  go_wp2_with fail
  rw [← HW.out]
  refine L.out.mono ?_
  rintro e w1 ⟨he, bb⟩
  rw [HX.out] at he
  subst he
  have F := hid (show Tells w (insideB sg t x p) (.returned (.bool false)) w1 from ⟨by unfold insideB; rw [HX.out]; rfl, (f.next bb).b⟩)
  clear f L bb
  go_wp2
  go_ret
  exact F.out
 | true =>
  have HX := hid hx
  clear hx
  by_cases hle : x ≤ p
  ·have LE := hid hle
   go_enter Try.func23, Try.ntmps23
   go_wp2_with fail
   rw [← HW.out]
   refine L.out.mono ?_
   rintro e w1 ⟨he, bb⟩
   rw [HX.out] at he
   subst he
   replace f := f.next bb
   have cA := f.cell
   clear L bb
   go_wp2_with fail
   refine (implEndOf A A' n c m c' sg t x _ f.s1 f.t1 hn hm hx1 hx2).mono ?_
   rintro e w2 ⟨rfl, bb⟩
   have F : Tells w (insideB sg t x p) (.returned (.bool (decide (p < endOfI sg t x)))) w2 :=
    ⟨by unfold insideB insI endOfI; rw [HX.out, if_pos rfl]; congr 2; simp only [Bool.true_and]; exact decide_eq_decide.2 ⟨fun h => ⟨LE.out, h⟩, fun h => h.2⟩, (f.next bb).b⟩
   replace F := hid F
   clear f bb cA HX LE hle
   generalize endOfI sg t x = z at *
   go_wp2
   go_ret
   exact F.out
  ·have LE := hid hle
   go_enter Try.func23, Try.ntmps23
   go_wp2_with fail
   rw [← HW.out]
   refine L.out.mono ?_
   rintro e w1 ⟨he, bb⟩
   rw [HX.out] at he
   subst he
   have F : Tells w (insideB sg t x p) (.returned (.bool false)) w1 := ⟨by unfold insideB insI; rw [decide_eq_false (fun h => by have := h.1; have := LE.out; omega)]; simp, (f.next bb).b⟩
   have hd : decide (x ≤ p) = false := decide_eq_false (by omega)
   replace F := hid F
   clear f bb L HX LE
   go_wp2
   go_ret
   exact F.out
end inside
end
section
namespace concat
open Go.RowKit base ints marks app sym segs segsHelp
set_option maxRecDepth 100000
end concat
end
section
namespace args
open Go.RowKit base ints sig term arity endOf cursor termOk endAt marks app sym
def Coll (sg t : List Int) (m : Nat) (L ys : List Int) (q p : Nat) : Prop := ys ++ places sg t q p = L ∧ ∃ i, scan sg q (t.drop p) = some i ∧ p + i ≤ m
theorem Coll.first {sg t : List Int} {m : Nat} {L ys : List Int} {q p : Nat} (h : Coll sg t m L ys (q + 1) p) : ∃ j, scan sg 1 (t.drop p) = some j ∧ p + j ≤ m ∧ p < t.length ∧ Coll sg t m L (ys ++ [(p : Int)]) q (p + j) := by
 obtain ⟨h1, i, h2, h3⟩ := h
 obtain ⟨j, e1, e2, e3, e4⟩ := scan_first h2
 have e5 := scan_le h2
 refine ⟨j, e1, by omega, ?_, ?_, i - j, e4, by omega⟩
 ·simp only [List.length_drop] at e5; omega
 ·rw [← h1, List.append_assoc]
  congr 1
  simp only [places, len1_eq e1, List.singleton_append]
theorem Coll.done {sg t : List Int} {m : Nat} {L ys : List Int} {p : Nat} (h : Coll sg t m L ys 0 p) : ys = L := by
 have := h.1
 simpa [places] using this
theorem Coll.len {sg t : List Int} {m : Nat} {L ys : List Int} {q p : Nat} (h : Coll sg t m L ys q p) : ys.length ≤ L.length := by
 rw [← h.1]; simp
theorem Cur.keep {w w' : World} {p : Nat} {A : Option Addr} {n c : Nat} {A' : Option Addr} {m c' : Nat} {sg t : List Int} {k : Nat} (h : Cur w p A n c A' m c' sg t k) (hb : Below (p + 1) w w') : Cur w' p A n c A' m c' sg t k :=
 ⟨h.row.below hb (Nat.lt_succ_self _), h.s.below (hb.mono (Nat.le_succ _)), h.s'.below (hb.mono (Nat.le_succ _)), h.le, h.hn, h.hm, h.ars⟩
end args
end
section
namespace depth
open Go.RowKit base ints sig term arity endOf cursor termOk endAt marks app sym args
def Deep (sg t : List Int) (f : Nat) (M d : Int) (q p : Nat) : Prop := max d (maxOver sg t (dep sg t f) q p) = M ∧ 0 ≤ d ∧ d ≤ f ∧ ∃ i, scan sg q (t.drop p) = some i ∧ i ≤ f ∧ p + i ≤ t.length
theorem Deep.first {sg t : List Int} {f : Nat} {M d : Int} {q p : Nat} (h : Deep sg t f M d (q + 1) p) : ∃ j, scan sg 1 (t.drop p) = some j ∧ j ≤ f ∧ p < t.length ∧ p + j ≤ t.length ∧ Deep sg t f M (max d (dep sg t f p)) q (p + j) := by
 obtain ⟨h1, h2, h3, i, h4, h5, h6⟩ := h
 obtain ⟨j, e1, e2, e3, e4⟩ := scan_first h4
 have hb := dep_bd (sg := sg) (t := t) f p
 refine ⟨j, e1, by omega, by omega, by omega, ?_, by omega, by omega, i - j, e4, by omega, by omega⟩
 simp only [maxOver, len1_eq e1] at h1
 omega
theorem Deep.done {sg t : List Int} {f : Nat} {M d : Int} {p : Nat} (h : Deep sg t f M d 0 p) : d = M := by
 have h1 := h.1
 have h2 := h.2.1
 simp only [maxOver] at h1
 omega
def depthI (sg t : List Int) : Int := if termOkB sg t = true then dep sg t t.length 0 else 0
end depth
end
section
namespace termMath
open term termOk endAt sub args depth sig
theorem scan_append {sg : List Int} : ∀ {l r : List Int} {q j : Nat}, scan sg q l = some j → scan sg q (l ++ r) = some j := by
 intro l
 induction l with
 | nil =>
  intro r q j h
  cases q with
  | zero => rw [scan_zero] at h ⊢; exact h
  | succ q => rw [scan_nil] at h; cases h
 | cons x l ih =>
  intro r q j h
  cases q with
  | zero => rw [scan_zero] at h ⊢; exact h
  | succ q =>
   by_cases ha : ar sg x < 0
   ·rw [scan_bad ha] at h; cases h
   ·rw [scan_step ha] at h
    rw [List.cons_append, scan_step ha]
    obtain ⟨j', hj', rfl⟩ := Option.map_eq_some_iff.1 h
    rw [ih hj']
    rfl
theorem scan_take {sg : List Int} : ∀ {l : List Int} {q j : Nat}, scan sg q l = some j → scan sg q (l.take j) = some j := by
 intro l
 induction l with
 | nil => intro q j h; simpa using h
 | cons x l ih =>
  intro q j h
  cases q with
  | zero => rw [scan_zero] at h ⊢; exact h
  | succ q =>
   by_cases ha : ar sg x < 0
   ·rw [scan_bad ha] at h; cases h
   ·rw [scan_step ha] at h
    obtain ⟨j', hj', rfl⟩ := Option.map_eq_some_iff.1 h
    rw [List.take_succ_cons, scan_step ha, ih hj']
    rfl
theorem scan_same {sg l l' : List Int} {q j : Nat} (h : scan sg q l = some j) (e : l.take j = l'.take j) : scan sg q l' = some j := by
 have h1 := scan_take h
 rw [e] at h1
 have h2 := scan_append (r := l'.drop j) h1
 rwa [List.take_append_drop] at h2
theorem take_less {l l' : List Int} {i j : Nat} (e : l.take i = l'.take i) (h : j ≤ i) : l.take j = l'.take j := by
 have : (l.take i).take j = (l'.take i).take j := by rw [e]
 rwa [List.take_take, List.take_take, Nat.min_eq_left h] at this
theorem drop_same {l l' : List Int} {i j : Nat} (e : l.take i = l'.take i) : (l.drop j).take (i - j) = (l'.drop j).take (i - j) := by
 rw [← List.drop_take, ← List.drop_take, e]
theorem get_same {t t' : List Int} {a a' i : Nat} (e : (t.drop a).take i = (t'.drop a').take i) (h : 1 ≤ i) : t.getD a 0 = t'.getD a' 0 := by
 have : ((t.drop a).take i)[0]? = ((t'.drop a').take i)[0]? := by rw [e]
 rw [List.getElem?_take, List.getElem?_take, if_pos (by omega), if_pos (by omega), List.getElem?_drop, List.getElem?_drop] at this
 simpa [List.getD] using congrArg (fun o => o.getD 0) this
theorem max_same {sg t t' : List Int} {f f' : Nat} (hd : ∀ a a' j, (t.drop a).take j = (t'.drop a').take j → scan sg 1 (t.drop a) = some j → j ≤ f → j ≤ f' → dep sg t f a = dep sg t' f' a') :
  ∀ q p p' i, (t.drop p).take i = (t'.drop p').take i → scan sg q (t.drop p) = some i → i ≤ f → i ≤ f' → maxOver sg t (dep sg t f) q p = maxOver sg t' (dep sg t' f') q p'
 | 0, _, _, _, _, _, _, _ => rfl
 | q + 1, p, p', i, e, h, h1, h2 => by
  obtain ⟨j, e1, e2, e3, e4⟩ := scan_first h
  have e5 := scan_same e1 (take_less e e3)
  have hdr : (t.drop (p + j)).take (i - j) = (t'.drop (p' + j)).take (i - j) := by
   have := drop_same (j := j) e
   rwa [List.drop_drop, List.drop_drop] at this
  simp only [maxOver, len1_eq e1, len1_eq e5]
  rw [hd p p' j (take_less e e3) e1 (by omega) (by omega), max_same hd q (p + j) (p' + j) (i - j) hdr e4 (by omega) (by omega)]
theorem dep_same {sg : List Int} : ∀ (f f' : Nat) (t t' : List Int) (a a' j : Nat), (t.drop a).take j = (t'.drop a').take j → scan sg 1 (t.drop a) = some j → j ≤ f → j ≤ f' → dep sg t f a = dep sg t' f' a'
 | 0, _, _, _, _, _, _, _, h, h1, _ => by have := scan_pos (q := 0) h; omega
 | _ + 1, 0, _, _, _, _, _, _, h, _, h2 => by have := scan_pos (q := 0) h; omega
 | f + 1, f' + 1, t, t', a, a', j, e, h, h1, h2 => by
  have hj := scan_pos (q := 0) h
  have hg := get_same e hj
  obtain ⟨i, e1, _, _, e2⟩ := scan_args h
  have hdr : (t.drop (a + 1)).take i = (t'.drop (a' + 1)).take i := by
   have := drop_same (j := 1) e
   rw [List.drop_drop, List.drop_drop] at this
   have e3 : j - 1 = i := by omega
   rwa [e3] at this
  simp only [dep]
  rw [← hg, max_same (fun a a' j e h h1 h2 => dep_same f f' t t' a a' j e h h1 h2) _ (a + 1) (a' + 1) i hdr e2 (by omega) (by omega)]
theorem sub_term {sg t : List Int} {a : Nat} (hok : termOkB sg t = true) (ha : a < t.length) : termOkB sg (subL sg t a) = true ∧ depthI sg (subL sg t a) = dep sg t (t.length + 1) a ∧ endI sg t a = (a : Int) + ((subL sg t a).length : Int) ∧ 1 ≤ (subL sg t a).length := by
 have hp := termOk_parts hok
 obtain ⟨j, hj, hj1, hj2⟩ := scan_at hp.2.2 ha
 have hl : len1 sg t a = j := len1_eq hj
 have hs : subL sg t a = (t.drop a).take j := by unfold subL; rw [hl]
 have hlen : (subL sg t a).length = j := by rw [hs]; simp; omega
 have hsc : scan sg 1 (subL sg t a) = some (subL sg t a).length := by rw [hlen, hs]; exact scan_take hj
 have hok2 : termOkB sg (subL sg t a) = true := by
  unfold termOkB termB
  rw [hp.1, hsc]
  simp
  omega
 refine ⟨hok2, ?_, by rw [endI_some hj, hlen], by omega⟩
 unfold depthI
 rw [if_pos hok2, hlen]
 refine (dep_same _ _ _ _ _ _ j ?_ ?_ (Nat.le_refl _) (by omega))
 ·rw [List.drop_zero, hs, List.take_take, Nat.min_self]
 ·rw [List.drop_zero, hsc, hlen]
def Loop (sg t : List Int) (a : Nat) (M : Int) (zs args : List Int) (d : Int) (k q pp : Nat) : Prop :=
 args.drop k = places sg t q pp ∧ max d (maxOver sg t (dep sg t t.length) q pp) = M ∧ 0 ≤ d ∧ d ≤ t.length ∧ ∃ i, scan sg q (t.drop pp) = some i ∧ pp + i ≤ t.length ∧ zs ++ (t.drop pp).take i = subL sg t a
theorem Loop.done {sg t : List Int} {a : Nat} {M : Int} {zs args : List Int} {d : Int} {k pp : Nat} (h : Loop sg t a M zs args d k 0 pp) : zs = subL sg t a ∧ d = M := by
 obtain ⟨_, h2, h3, _, i, h5, _, h7⟩ := h
 rw [scan_zero] at h5
 injection h5 with h5
 subst h5
 simp only [maxOver] at h2
 exact ⟨by simpa using h7, by omega⟩
end termMath
end
section
namespace posMath
open sig term termOk termFacts endAt sub args depth termMath
theorem term_at {sg t : List Int} (h : termOkB sg t = true) {a : Nat} (ha : a < t.length) : scan sg 1 (t.drop a) = some (len1 sg t a) ∧ 1 ≤ len1 sg t a ∧ a + len1 sg t a ≤ t.length := by
 obtain ⟨j, e, h1, h2⟩ := scan_at (term_parts h).2.2 ha
 rw [len1_eq e]
 exact ⟨e, h1, h2⟩
theorem end_at {sg t : List Int} (h : termOkB sg t = true) {a : Nat} (ha : a < t.length) : endI sg t a = ((a + len1 sg t a : Nat) : Int) := by
 rw [endI_some (term_at h ha).1]; omega
theorem nest {sg t : List Int} {q a i : Nat} (h : scan sg q (t.drop a) = some i) {p : Nat} (h1 : a ≤ p) (h2 : p < a + i) : p + len1 sg t p ≤ a + i ∧ scan sg 1 (t.drop p) = some (len1 sg t p) ∧ 1 ≤ len1 sg t p := by
 obtain ⟨q', hq⟩ := scan_tail h (show p - a < i by omega)
 rw [List.drop_drop, show a + (p - a) = p by omega] at hq
 obtain ⟨j, e, j1, j2, _⟩ := scan_first hq
 rw [len1_eq e]
 exact ⟨by omega, e, j1⟩
def argP (sg t : List Int) : Nat → Nat → Nat
 | 0, p => p
 | k + 1, p => argP sg t k (p + len1 sg t p)
theorem argP_succ {sg t : List Int} : ∀ k p, argP sg t (k + 1) p = argP sg t k p + len1 sg t (argP sg t k p)
 | 0, _ => rfl
 | k + 1, p => by
  show argP sg t (k + 1) (p + len1 sg t p) = _
  rw [argP_succ k]
  rfl
theorem argP_mono {sg t : List Int} {p k : Nat} : ∀ {k' : Nat}, k ≤ k' → argP sg t k p ≤ argP sg t k' p := by
 intro k' h
 induction k' with
 | zero => rw [Nat.le_zero.1 h]; exact Nat.le_refl _
 | succ k' ih =>
  by_cases e : k = k' + 1
  ·rw [e]; exact Nat.le_refl _
  ·have := ih (by omega)
   rw [argP_succ]
   omega
theorem places_get {sg t : List Int} : ∀ {q p k : Nat}, k < q → (places sg t q p).getD k 0 = (argP sg t k p : Int) := by
 intro q
 induction q with
 | zero => intro p k h; omega
 | succ q ih =>
  intro p k h
  cases k with
  | zero => rfl
  | succ k =>
   show ((p : Int) :: places sg t q (p + len1 sg t p)).getD (k + 1) 0 = _
   rw [List.getD_cons_succ, ih (by omega)]
   rfl
def arN (sg t : List Int) (p : Nat) : Nat := (ar sg (t.getD p 0)).toNat
inductive Trail (sg t : List Int) (at_ : Nat) : Nat → List Int → List Int → Prop
 | here : Trail sg t at_ at_ [] []
 | down {p k : Nat} {ab pa : List Int} (h1 : p < at_) (h2 : k < arN sg t p) (h3 : argP sg t k (p + 1) ≤ at_) (h4 : at_ < argP sg t k (p + 1) + len1 sg t (argP sg t k (p + 1))) (h5 : p < argP sg t k (p + 1)) (h6 : at_ < p + len1 sg t p) (hw : Trail sg t at_ (argP sg t k (p + 1)) ab pa) : Trail sg t at_ p ((p : Int) :: ab) ((k : Int) :: pa)
theorem Trail.here_eq {sg t : List Int} {at_ : Nat} {ab pa : List Int} (h : Trail sg t at_ at_ ab pa) : ab = [] ∧ pa = [] := by
 cases h with
 | here => exact ⟨rfl, rfl⟩
 | down h1 => omega
theorem arg_one {sg t : List Int} {p at_ k k' : Nat} (h3 : argP sg t k p ≤ at_) (h4 : at_ < argP sg t k p + len1 sg t (argP sg t k p)) (h3' : argP sg t k' p ≤ at_) (h4' : at_ < argP sg t k' p + len1 sg t (argP sg t k' p)) : k = k' := by
 rcases Nat.lt_trichotomy k k' with h | h | h
 ·have := argP_mono (sg := sg) (t := t) (p := p) (show k + 1 ≤ k' by omega)
  rw [argP_succ] at this
  omega
 ·exact h
 ·have := argP_mono (sg := sg) (t := t) (p := p) (show k' + 1 ≤ k by omega)
  rw [argP_succ] at this
  omega
theorem Trail.one {sg t : List Int} {at_ p : Nat} {ab pa : List Int} (h : Trail sg t at_ p ab pa) : ∀ {ab' pa' : List Int}, Trail sg t at_ p ab' pa' → ab = ab' ∧ pa = pa' := by
 induction h with
 | here => intro ab' pa' h'; obtain ⟨rfl, rfl⟩ := h'.here_eq; exact ⟨rfl, rfl⟩
 | @down p k ab pa h1 h2 h3 h4 h5 h6 hw ih =>
  intro ab' pa' h'
  cases h' with
  | here => omega
  | @down _ k' ab' pa' g1 g2 g3 g4 g5 g6 gw =>
   obtain rfl := arg_one h3 h4 g3 g4
   obtain ⟨rfl, rfl⟩ := ih gw
   exact ⟨rfl, rfl⟩
theorem Trail.len {sg t : List Int} {at_ p : Nat} {ab pa : List Int} (h : Trail sg t at_ p ab pa) : ab.length = pa.length := by
 induction h with
 | here => rfl
 | down _ _ _ _ _ _ _ ih => simp [ih]
theorem Trail.le {sg t : List Int} {at_ p : Nat} {ab pa : List Int} (h : Trail sg t at_ p ab pa) : p ≤ at_ ∧ pa.length ≤ at_ - p := by
 induction h with
 | here => simp
 | down h1 _ _ _ h5 _ _ ih => simp only [List.length_cons]; omega
theorem over_ge {sg t : List Int} {g : Nat → Int} : ∀ {q k p : Nat}, k < q → g (argP sg t k p) ≤ maxOver sg t g q p := by
 intro q
 induction q with
 | zero => intro k p h; omega
 | succ q ih =>
  intro k p h
  cases k with
  | zero => simp only [maxOver, argP]; omega
  | succ k =>
   have := ih (k := k) (p := p + len1 sg t p) (by omega)
   simp only [maxOver, argP]
   omega
theorem over_nonneg {sg t : List Int} {g : Nat → Int} : ∀ (q p : Nat), 0 ≤ maxOver sg t g q p
 | 0, _ => by simp [maxOver]
 | q + 1, p => by
  have := over_nonneg (sg := sg) (t := t) (g := g) q (p + len1 sg t p)
  simp only [maxOver]
  omega
theorem Trail.depth {sg t : List Int} {at_ p : Nat} {ab pa : List Int} (h : Trail sg t at_ p ab pa) : ∀ f, pa.length < f → (pa.length : Int) + 1 ≤ dep sg t f p := by
 induction h with
 | here =>
  intro f hf
  obtain ⟨f, rfl⟩ : ∃ f', f = f' + 1 := ⟨f - 1, by simp at hf; omega⟩
  have := over_nonneg (sg := sg) (t := t) (g := dep sg t f) (ar sg (t.getD at_ 0)).toNat (at_ + 1)
  simp only [dep, List.length_nil]
  omega
 | @down p k ab pa h1 h2 h3 h4 h5 h6 hw ih =>
  intro f hf
  simp only [List.length_cons] at hf ⊢
  obtain ⟨f, rfl⟩ : ∃ f', f = f' + 1 := ⟨f - 1, by omega⟩
  have e := ih f (by omega)
  have e2 := over_ge (sg := sg) (t := t) (g := dep sg t f) (p := p + 1) h2
  unfold arN at e2
  simp only [dep]
  omega
end posMath
end
section
namespace putMath
open sig term termOk termFacts endAt sub args depth termMath posMath
def putL (t : List Int) (a i : Nat) (u : List Int) : List Int := t.take a ++ (u ++ t.drop (a + i))
section
variable {sg t u : List Int} {a : Nat}
theorem put_len (hok : termOkB sg t = true) (ha : a < t.length) : (putL t a (len1 sg t a) u).length = t.length - len1 sg t a + u.length := by
 have := term_at hok ha
 unfold putL
 simp only [List.length_append, List.length_take, List.length_drop]
 omega
def Out (sg t : List Int) (a r : Nat) : Prop := r ≤ a ∨ a + len1 sg t a ≤ r
end
end putMath
end
section
open Go.Lib (hid)
namespace put
open Go.RowKit segsHelp base ints sig term arity endOf cursor termOk endAt inside marks app sym sub segs posMath putMath concat
set_option maxRecDepth 100000
theorem Seg.front {w : World} {B b off m a : Nat} {t : List Int} (h : Seg w B (some ⟨b, off, none⟩) m t) (ha : a ≤ m) : Seg w B (some ⟨b, off, none⟩) a (t.take a) := by
 have := Seg.cut (a := 0) (j := a) h (by omega)
 simpa using this
theorem Seg.back {w : World} {B b off m e : Nat} {t : List Int} (h : Seg w B (some ⟨b, off, none⟩) m t) (he : e ≤ m) : Seg w B (some ⟨b, off + e, none⟩) (m - e) (t.drop e) := by
 have := Seg.cut (a := e) (j := m - e) h (by omega)
 rwa [List.take_of_length_le (by simp [h.1])] at this
theorem Seg.none_any {w : World} {B : Nat} {A : Option Addr} {t : List Int} (h : t = []) : Seg w B A 0 t := ⟨by rw [h]; rfl, fun h => absurd h (Nat.lt_irrefl _)⟩
def putI (sg t u : List Int) (a : Nat) : List Int := putL t a (len1 sg t a) u
def AnsPut (w : World) (ys : List Int) (b : Bool) (e : Ending) (w' : World) : Prop := ∃ A n c, e = .returned (.tuple #[.slice A n c, .bool b]) ∧ Own w' w.heap.size (.slice A n c) ys ∧ Below w.heap.size w w'
def fitB (sg t u : List Int) (a : Nat) : Bool := decide ((putI sg t u a).length ≤ 60)
def fitL (sg t u : List Int) (a : Nat) : List Int := if fitB sg t u a = true then putI sg t u a else []
set_option maxHeartbeats 1000000 in
theorem l3Put (A A' U : Option Addr) (n c m c' un uc : Nat) (sg t u : List Int) (a : Nat) (w : World) (h : Seg w w.heap.size A n sg) (h' : Seg w w.heap.size A' m t) (hu : Seg w w.heap.size U un u) (hcu : U = none → uc = 0) (hn : n ≤ 1048576) (hm : m ≤ 1048576) (hun : un ≤ 60) (hc' : m ≤ c') (hc2 : c' ≤ 9223372036854775807)
  (hok : termOkB sg t = true) (hat : a < t.length) :
  Calls Try.prog 76 #[.agg #[.slice A n c], .slice A' m c', .int .i64 (a : Int), .slice U un uc] w (AnsPut w (fitL sg t u a) (fitB sg t u a)) := by
 have ham : a < m := by rw [h'.1] at hat; exact hat
 obtain ⟨b, off, x, rfl, -, -, -⟩ := h'.spot ham
 obtain ⟨W, hW⟩ : ∃ W, W = w.alloc (.cells #[.slice A n c] 26) := ⟨_, rfl⟩
 have f : Fr w W A n c sg (some ⟨b, off, none⟩) m t := by rw [hW]; exact Fr.start h h'
 have hU : Seg W w.heap.size U un u := hu.below f.b
 have HW := hid hW
 obtain ⟨j, hj⟩ : ∃ j, len1 sg t a = j := ⟨_, rfl⟩
 obtain ⟨t1, t2, t3⟩ := term_at hok hat
 have hars := (sig_arities (termOk_parts hok).1).1
 rw [hj] at t1 t2 t3
 rw [h'.1] at t3
 have h60 : m ≤ 60 := by have := (termOk_parts hok).2.1; rw [h'.1] at this; exact this
 have HE := hid (endI_some t1)
 have HTL := hid hat
 have HPI := hid (show putI sg t u a = t.take a ++ u ++ t.drop (a + j) by unfold putI putL; rw [hj, List.append_assoc])
 have hpl : (putI sg t u a).length = a + un + (m - (a + j)) := by rw [HPI.out]; simp [h'.1, hu.1]; omega
 have HPL := hid hpl
 have LC := hid (copyInts (some ⟨b, off, none⟩) a c' (t.take a) W ((Seg.front f.t1 (by omega))) (fun e => by cases e) (by omega))
 have HCU := hid hcu
 have i0 : (0 : Int) ≤ (a : Int) := by omega
 have i1 : (a : Int) ≤ (c' : Int) := by omega
 have i2 : (a : Int) + (j : Int) ≤ (c' : Int) := by omega
 have i3 : (a : Int) + (j : Int) ≤ (m : Int) := by omega
 clear hW h h' hu hj t1 hok hat hcu hpl
 go_enter Try.func76, Try.ntmps76
 go_wp2_with fail
 rw [← HW.out]
 refine LC.out.mono ?_
 rintro e w1 ⟨O1, n1, c1, rfl, o1, bb⟩
 have hta : (t.take a).length = a := by rw [List.length_take]; have := HTL.out; omega
 obtain rfl : n1 = a := by rw [Own.len o1, hta]
 replace hU := hU.below (bb.mono (Nat.le_of_lt f.size))
 replace o1 := Own.lower (base' := w.heap.size + 1) o1 f.size
 replace f := f.next bb
 have z1 : w.heap.size + 1 ≤ w1.heap.size := f.size
 clear bb hta LC
 go_wp2_with (at_builtin; refine appAll rfl _ _ rfl (w.heap.size + 1) O1 n1 c1 _ rfl o1 U un uc w.heap.size u rfl hU HCU.out (by omega) (by omega) z1 ?_; intro O2 c2 w2 o2 b2; have f2 := f.over b2; have cA2 : w2.cell? ⟨w.heap.size, 0, none⟩ = some (.slice A n c) := f2.cell)
 clear o1 b2 f hU z1 cA2
 replace f := f2
 clear f2
 have cA := f.cell
 obtain ⟨k, hk⟩ : ∃ k, n1 + j = k := ⟨_, rfl⟩
 rw [hk] at HPI HPL t3
 have HEK := hid (show endI sg t n1 = (k : Int) by rw [HE.out, ← hk]; omega)
 have hn1k : n1 ≤ k := by omega
 clear HE hk i2 i3 t2
 refine (specEnd A _ n c m c' sg t (n1 : Int) _ f.s1 f.t1 hn hm hars i0 (by omega)).mono ?_
 rintro e w3 ⟨he, bb⟩
 rw [Int.toNat_natCast, HEK.out] at he
 subst he
 replace f := f.next bb
 replace o2 := Own.next o2 bb
 clear bb cA
 have i2 : (k : Int) ≤ (c' : Int) := by omega
 have i4 : (k : Int) ≤ (m : Int) := by omega
 have z1 : w.heap.size + 1 ≤ w3.heap.size := f.size
 by_cases hce : c' = k
 ·subst hce
  have hmk : m - c' = 0 := by omega
  have HSG := hid (show Seg w3 w.heap.size (some ⟨b, off, none⟩) 0 [] from Seg.none_any rfl)
  have HPI2 := hid (show putI sg t u n1 = t.take n1 ++ u ++ [] by rw [HPI.out, List.drop_eq_nil_of_le (by rw [f.t1.1]; omega)])
  have HPL2 := hid (show (putI sg t u n1).length = n1 + un by rw [HPL.out, hmk]; rfl)
  clear hmk HPL HPI
  by_cases h6 : n1 + un ≤ 60
  ·have h7 : ¬ (60 : Int) < (n1 : Int) + (un : Int) := by omega
   go_wp2_with (at_builtin; refine appAll rfl _ _ rfl (w.heap.size + 1) O2 (n1 + un) c2 _ rfl o2 (some ⟨b, off, none⟩) 0 0 w.heap.size [] rfl HSG.out (fun e => by cases e) (by omega) (by omega) z1 ?_; intro O4 c4 w4 o4 b4)
   replace f := f.over b4
   have F : AnsPut w (fitL sg t u n1) (fitB sg t u n1) (.returned (.tuple #[.slice O4 (n1 + un) c4, .bool true])) w4 := ⟨O4, _, c4, by rw [show fitB sg t u n1 = true by unfold fitB; rw [HPL2.out]; exact decide_eq_true h6], by unfold fitL; rw [if_pos (by unfold fitB; rw [HPL2.out]; exact decide_eq_true h6), HPI2.out]; exact Own.lower o4 (Nat.le_succ _), f.b⟩
   have HF := hid F
   clear F o4 f
   go_ret2
   exact HF.out
  ·have h7 : (60 : Int) < (n1 : Int) + (un : Int) := by omega
   go_wp2_with (at_builtin; refine appAll rfl _ _ rfl (w.heap.size + 1) O2 (n1 + un) c2 _ rfl o2 (some ⟨b, off, none⟩) 0 0 w.heap.size [] rfl HSG.out (fun e => by cases e) (by omega) (by omega) z1 ?_; intro O4 c4 w4 o4 b4)
   replace f := f.over b4
   have F : AnsPut w (fitL sg t u n1) (fitB sg t u n1) (.returned (.tuple #[.slice (some ⟨w4.heap.size, 0, none⟩) 0 0, .bool false])) (w4.alloc (.cells #[] 2)) := ⟨_, 0, 0, by rw [show fitB sg t u n1 = false by unfold fitB; rw [HPL2.out]; exact decide_eq_false h6], by unfold fitL; rw [if_neg (by unfold fitB; rw [HPL2.out, decide_eq_false h6]; simp)]; exact own_empty w4 w.heap.size (Nat.le_of_lt f.size), (f.alloc _).b⟩
   have HF := hid F
   clear F o4 f
   go_ret2
   exact HF.out
 ·have HSG := hid (Seg.back f.s' (e := k) t3)
  obtain ⟨r, hr⟩ : ∃ r, m - k = r := ⟨_, rfl⟩
  rw [hr] at HPL HSG
  have hr60 : r ≤ 60 := by omega
  by_cases h6 : n1 + un + r ≤ 60
  ·have h7 : ¬ (60 : Int) < (n1 : Int) + (un : Int) + (r : Int) := by omega
   go_wp2_with (at_builtin; refine appAll rfl _ _ rfl (w.heap.size + 1) O2 (n1 + un) c2 _ rfl o2 (some ⟨b, off + k, none⟩) r (c' - k) w.heap.size (t.drop k) rfl HSG.out (fun e => by cases e) (by omega) (by omega) z1 ?_; intro O4 c4 w4 o4 b4)
   replace f := f.over b4
   have F : AnsPut w (fitL sg t u n1) (fitB sg t u n1) (.returned (.tuple #[.slice O4 (n1 + un + r) c4, .bool true])) w4 := ⟨O4, _, c4, by rw [show fitB sg t u n1 = true by unfold fitB; rw [HPL.out]; exact decide_eq_true h6], by unfold fitL; rw [if_pos (by unfold fitB; rw [HPL.out]; exact decide_eq_true h6), HPI.out]; exact Own.lower o4 (Nat.le_succ _), f.b⟩
   have HF := hid F
   clear F o4 f
   go_ret2
   exact HF.out
  ·have h7 : (60 : Int) < (n1 : Int) + (un : Int) + (r : Int) := by omega
   go_wp2_with (at_builtin; refine appAll rfl _ _ rfl (w.heap.size + 1) O2 (n1 + un) c2 _ rfl o2 (some ⟨b, off + k, none⟩) r (c' - k) w.heap.size (t.drop k) rfl HSG.out (fun e => by cases e) (by omega) (by omega) z1 ?_; intro O4 c4 w4 o4 b4)
   replace f := f.over b4
   have F : AnsPut w (fitL sg t u n1) (fitB sg t u n1) (.returned (.tuple #[.slice (some ⟨w4.heap.size, 0, none⟩) 0 0, .bool false])) (w4.alloc (.cells #[] 2)) := ⟨_, 0, 0, by rw [show fitB sg t u n1 = false by unfold fitB; rw [HPL.out]; exact decide_eq_false h6], by unfold fitL; rw [if_neg (by unfold fitB; rw [HPL.out, decide_eq_false h6]; simp)]; exact own_empty w4 w.heap.size (Nat.le_of_lt f.size), (f.alloc _).b⟩
   have HF := hid F
   clear F o4 f
   go_ret2
   exact HF.out
end put
end
section
namespace heldT
section
variable {P : Program} {md : Region.Mode} {ops : Array Oper} {Q : Exit → Act → World → Prop} {S : World → Prop} {late : Nat → Bool}
def AnyT (P : Program) (md : Region.Mode) (ops : Array Oper) (Q : Exit → Act → World → Prop) (S : World → Prop) (late : Nat → Bool) : Nat → Array Bool → Act → World → Prop
 | 0, listed, a, w => Region.ready md ops listed = [] ∧ Q .normal a w
 | fuel + 1, listed, a, w => (Region.ready md ops listed = [] → Q .normal a w) ∧
  ∀ i ∈ Region.ready md ops listed, wpOp P ops Q i (fun a' w' => (late i = false → S w → S w') ∧ AnyT P md ops Q S late fuel (listed.setIfInBounds i true) a' w') a w
theorem AnyT.any : ∀ (fuel : Nat) (listed : Array Bool) (a : Act) (w : World), AnyT P md ops Q S late fuel listed a w → wpAny P md ops Q fuel listed a w
 | 0, _, _, _, h => h
 | fuel + 1, _, _, _, h => ⟨h.1, fun i hi => wpOp_mono (fun a' w' h' => AnyT.any fuel _ a' w' h'.2) (h.2 i hi)⟩
def Waits (md : Region.Mode) (ops : Array Oper) (late : Nat → Bool) (listed : Array Bool) (i : Nat) : Prop :=
 ∀ j o, ops[j]? = some o → late j = true → listed.getD j true = false → ∃ e ∈ o.after, Region.binds md e = true ∧ e.on = i
def waitsB (md : Region.Mode) (ops : Array Oper) (late : Nat → Bool) (listed : Array Bool) (i : Nat) : Bool :=
 (List.range ops.size).all fun j => !late j || listed.getD j true || ((ops[j]?).map fun o => o.after.any fun e => Region.binds md e && e.on == i).getD false
theorem waits_of {listed : Array Bool} {i : Nat} (h : waitsB md ops late listed i = true) : Waits md ops late listed i := by
 intro j o ho hl hu
 have hj : j < ops.size := by
  rcases Nat.lt_or_ge j ops.size with h' | h'
  ·exact h'
  ·rw [Array.getElem?_eq_none h'] at ho; cases ho
 have := List.all_eq_true.1 h j (List.mem_range.2 hj)
 rw [hl, hu, ho] at this
 simp only [Bool.not_true, Bool.false_or, Option.map_some, Option.getD_some, Array.any_eq_true', Bool.and_eq_true, beq_iff_eq] at this
 exact this
theorem AnyT.first {i : Nat} {oi : Oper} {v : Value} (hi : ops[i]? = some oi) (hsel : ∀ (j : Nat) (o : Oper) cs b, ops[j]? = some o → o.op ≠ .select cs b) (hQ : ∀ c a w, Q (.panic c) (a.put oi.dst v) w → Q (.panic c) a w) :
  ∀ (fuel : Nat) (listed : Array Bool) (a : Act) (w : World),
   (∀ j oj, ops[j]? = some oj → j ≠ i → listed.getD j true = false → (∀ e ∈ oj.after, Region.binds md e = true → e.on ≠ i) → oi.apart ops oj = true) → Waits md ops late listed i →
   i ∈ Region.ready md ops listed → YieldsIf P ops S oi v a → S w → AnyT P md ops Q S late fuel (listed.setIfInBounds i true) (a.put oi.dst v) w → AnyT P md ops Q S late (fuel + 1) listed a w := by
 intro fuel
 induction fuel with
 | zero =>
  intro listed a w _ _ hr hy hS H
  refine ⟨fun h => (by rw [h] at hr; cases hr), fun j hj => ?_⟩
  rcases Classical.em (j = i) with e | e
  ·subst e; exact hy.wpOp hi hS ⟨fun _ h => h, H⟩
  ·have := ready_mono hj e
   rw [H.1] at this
   cases this
 | succ fuel ih =>
  intro listed a w hfree hwait hr hy hS H
  refine ⟨fun h => (by rw [h] at hr; cases hr), fun j hj => ?_⟩
  rcases Classical.em (j = i) with e | hji
  ·subst e; exact hy.wpOp hi hS ⟨fun _ h => h, H⟩
  have h1 := H.2 j (ready_mono hj hji)
  obtain ⟨hjun, oj, hoj, hall⟩ := mem_ready.1 hj
  have h0 := (mem_ready.1 hr).1
  have hnot : ∀ e ∈ oj.after, Region.binds md e = true → e.on ≠ i := fun e he hb heq => by
   have h1 := hall e he hb
   rw [heq] at h1
   rcases Nat.lt_or_ge i listed.size with h' | h'
   ·simp [h'] at h0 h1; rw [h0] at h1; cases h1
   ·simp [Array.getElem?_eq_none h'] at h1
  have hlj : late j = false := by
   cases e : late j with
   | false => rfl
   | true =>
    obtain ⟨x, hx, hb, ho⟩ := hwait j oj hoj e hjun
    exact absurd ho (hnot x hx hb)
  have far : ∀ {k : Nat}, j ≠ k → (listed.setIfInBounds j true).getD k true = false → listed.getD k true = false := fun hjk h => by rwa [getD_set_ne true hjk] at h
  have same : ∀ {k : Nat}, k = j → listed.getD k true = false := fun e => by rw [e]; exact hjun
  have un : ∀ (k : Nat), (listed.setIfInBounds j true).getD k true = false → listed.getD k true = false := fun k h => by
   rcases Classical.em (k = j) with e | e
   ·exact same e
   ·exact far (fun e' => e e'.symm) h
  have h2 := wpOp_putIf hoj (hfree j oj hoj hji hjun hnot) (fun cs b => hsel i oi cs b hi) (fun cs b => hsel j oj cs b hoj) hQ hy h1
  refine wpOp_mono (fun a' w' h3 => ⟨h3.2.1, ih (listed.setIfInBounds j true) a' w' (fun k ok hk hki hun hno => hfree k ok hk hki (un k hun) hno) (fun k o hk hl hu => hwait k o hk hl (un k hu)) (ready_mono hr (Ne.symm hji)) h3.1 (h3.2.1 hlj hS) ?_⟩) h2
  rw [Array.setIfInBounds_comm _ _ hji]
  exact h3.2.2
theorem AnyT.take {i : Nat} {oi : Oper} {v : Value} {fuel : Nat} {listed : Array Bool} {a : Act} {w : World} (hi : ops[i]? = some oi) (hs : Region.noSelect ops = true) (hf : Region.free md ops listed i = true) (hw : waitsB md ops late listed i = true) (hr : (Region.ready md ops listed).contains i = true)
  (hQ : ∀ c a w, Q (.panic c) (a.put oi.dst v) w → Q (.panic c) a w) (hy : YieldsIf P ops S oi v a) (hS : S w) (h : AnyT P md ops Q S late fuel (listed.setIfInBounds i true) (a.put oi.dst v) w) : AnyT P md ops Q S late (fuel + 1) listed a w :=
 AnyT.first hi (Region.noSelect_spec hs) hQ fuel listed a w (Region.free_spec hi hf) (waits_of hw) (by simpa using hr) hy hS h
theorem AnyT.firstA {i : Nat} {oi : Oper} {v : Value} (hi : ops[i]? = some oi) (hsel : ∀ (j : Nat) (o : Oper) cs b, ops[j]? = some o → o.op ≠ .select cs b) (hQ : ∀ c a w, Q (.panic c) (a.put oi.dst v) w → Q (.panic c) a w) :
  ∀ (fuel : Nat) (listed : Array Bool) (a : Act) (w : World),
   (∀ j oj, ops[j]? = some oj → j ≠ i → listed.getD j true = false → (∀ e ∈ oj.after, Region.binds md e = true → e.on ≠ i) → oi.apart ops oj = true) →
   i ∈ Region.ready md ops listed → YieldsIf P ops (fun _ => True) oi v a → AnyT P md ops Q S late fuel (listed.setIfInBounds i true) (a.put oi.dst v) w → AnyT P md ops Q S late (fuel + 1) listed a w := by
 intro fuel
 induction fuel with
 | zero =>
  intro listed a w _ hr hy H
  refine ⟨fun h => (by rw [h] at hr; cases hr), fun j hj => ?_⟩
  rcases Classical.em (j = i) with e | e
  ·subst e; exact hy.wpOp hi trivial ⟨fun _ h => h, H⟩
  ·have := ready_mono hj e
   rw [H.1] at this
   cases this
 | succ fuel ih =>
  intro listed a w hfree hr hy H
  refine ⟨fun h => (by rw [h] at hr; cases hr), fun j hj => ?_⟩
  rcases Classical.em (j = i) with e | hji
  ·subst e; exact hy.wpOp hi trivial ⟨fun _ h => h, H⟩
  have h1 := H.2 j (ready_mono hj hji)
  obtain ⟨hjun, oj, hoj, hall⟩ := mem_ready.1 hj
  have h0 := (mem_ready.1 hr).1
  have hnot : ∀ e ∈ oj.after, Region.binds md e = true → e.on ≠ i := fun e he hb heq => by
   have h1 := hall e he hb
   rw [heq] at h1
   rcases Nat.lt_or_ge i listed.size with h' | h'
   ·simp [h'] at h0 h1; rw [h0] at h1; cases h1
   ·simp [Array.getElem?_eq_none h'] at h1
  have un : ∀ (k : Nat), (listed.setIfInBounds j true).getD k true = false → listed.getD k true = false := fun k h => by
   rcases Classical.em (k = j) with e | e
   ·rw [e]; exact hjun
   ·rwa [getD_set_ne true (fun e' => e e'.symm)] at h
  have h2 := wpOp_putIf hoj (hfree j oj hoj hji hjun hnot) (fun cs b => hsel i oi cs b hi) (fun cs b => hsel j oj cs b hoj) hQ hy h1
  refine wpOp_mono (fun a' w' h3 => ⟨h3.2.1, ih (listed.setIfInBounds j true) a' w' (fun k ok hk hki hun hno => hfree k ok hk hki (un k hun) hno) (ready_mono hr (Ne.symm hji)) h3.1 ?_⟩) h2
  rw [Array.setIfInBounds_comm _ _ hji]
  exact h3.2.2
theorem AnyT.takeA {i : Nat} {oi : Oper} {v : Value} {fuel : Nat} {listed : Array Bool} {a : Act} {w : World} (hi : ops[i]? = some oi) (hs : Region.noSelect ops = true) (hf : Region.free md ops listed i = true) (hr : (Region.ready md ops listed).contains i = true)
  (hQ : ∀ c a w, Q (.panic c) (a.put oi.dst v) w → Q (.panic c) a w) (hy : YieldsIf P ops (fun _ => True) oi v a) (h : AnyT P md ops Q S late fuel (listed.setIfInBounds i true) (a.put oi.dst v) w) : AnyT P md ops Q S late (fuel + 1) listed a w :=
 AnyT.firstA hi (Region.noSelect_spec hs) hQ fuel listed a w (Region.free_spec hi hf) (by simpa using hr) hy h
theorem AnyT.call {i : Nat} {o : Oper} {fuel : Nat} {listed : Array Bool} {a : Act} {w : World} (hr : Region.ready md ops listed = [i]) (ho : ops[i]? = some o)
  (h : ∀ K' : Act → World → Prop, Shut (∀ a w', (late i = false → S w → S w') → ((late i = false → S w → S w') → AnyT P md ops Q S late fuel (listed.setIfInBounds i true) a w') → K' a w') → if Region.wanted o (yielded ops a.tmps) = true then Oper.wp P o a w K' Q else K' (a.put o.dst undef) w) : AnyT P md ops Q S late (fuel + 1) listed a w :=
 ⟨fun h0 => absurd (hr ▸ h0) (by simp), fun j hj => by
  rw [hr, List.mem_singleton] at hj
  subst hj
  exact wpOp_step ho (fun K' hK => h K' (fun a w' hS hW => hK a w' ⟨hS, hW hS⟩))⟩
theorem AnyT.done {listed : Array Bool} {a : Act} {w : World} (hr : Region.ready md ops listed = []) (h : Q .normal a w) : ∀ fuel, AnyT P md ops Q S late fuel listed a w
 | 0 => ⟨hr, h⟩
 | _ + 1 => ⟨fun _ => h, by rw [hr]; simp⟩
theorem AnyT.start {id : Nat} {a : Act} {w : World} (late : Nat → Bool) (hm : P.follows .mixedOrders = true) (hS : S w.drew) (h : S w.drew → AnyT P .any ops Q S late ops.size (Array.replicate ops.size false) a w.drew) : (Code.region id ops true).wp P Q a w :=
 wp_region_any hm (AnyT.any _ _ _ _ (h hS))
end
end heldT
end
section
namespace matchMath
open sig term termOk termFacts endAt sub termMath fillMath posMath renMath
def vr (x : Int) : Nat := (-1 - x).toNat
def mst (sg t : List Int) : List Int → Nat → List (List Int) → Option (List (List Int))
 | [], _, s => some s
 | x :: r, k, s =>
  if t.length ≤ k then none
  else if 0 ≤ x then (if x = t.getD k 0 then mst sg t r (k + 1) s else none)
  else if (s.getD (vr x) []).length ≠ 0 ∧ s.getD (vr x) [] ≠ subL sg t k then none
  else mst sg t r (k + (subL sg t k).length) (s.set (vr x) (subL sg t k))
section
variable {sg t : List Int} {r : List Int} {x : Int} {k : Nat} {s : List (List Int)}
theorem mst_out (h : t.length ≤ k) : mst sg t (x :: r) k s = none := by simp only [mst]; rw [if_pos h]
theorem mst_sym (h : ¬ t.length ≤ k) (hx : 0 ≤ x) (he : x = t.getD k 0) : mst sg t (x :: r) k s = mst sg t r (k + 1) s := by simp only [mst]; rw [if_neg h, if_pos hx, if_pos he]
theorem mst_symNo (h : ¬ t.length ≤ k) (hx : 0 ≤ x) (he : ¬ x = t.getD k 0) : mst sg t (x :: r) k s = none := by simp only [mst]; rw [if_neg h, if_pos hx, if_neg he]
theorem mst_var (h : ¬ t.length ≤ k) (hx : ¬ 0 ≤ x) (he : ¬ ((s.getD (vr x) []).length ≠ 0 ∧ s.getD (vr x) [] ≠ subL sg t k)) : mst sg t (x :: r) k s = mst sg t r (k + (subL sg t k).length) (s.set (vr x) (subL sg t k)) := by simp only [mst]; rw [if_neg h, if_neg hx, if_neg he]
theorem mst_varNo (h : ¬ t.length ≤ k) (hx : ¬ 0 ≤ x) (he : (s.getD (vr x) []).length ≠ 0 ∧ s.getD (vr x) [] ≠ subL sg t k) : mst sg t (x :: r) k s = none := by simp only [mst]; rw [if_neg h, if_neg hx, if_pos he]
end
theorem set_get {s : List (List Int)} {i j : Nat} {v : List Int} : (s.set i v).getD j [] = if i = j ∧ i < s.length then v else s.getD j [] := by
 simp only [List.getD_eq_getElem?_getD, List.getElem?_set]
 by_cases h : i = j
 ·subst h
  by_cases h2 : i < s.length
  ·simp [h2]
  ·simp [h2]
 ·simp [h]
theorem vr_lt {x : Int} (h0 : ¬ 0 ≤ x) (h : -24 ≤ x) : vr x < 24 := by unfold vr; omega
theorem mst_ext {sg t : List Int} : ∀ {p : List Int} {k : Nat} {s s' : List (List Int)}, mst sg t p k s = some s' → s.length = 24 → (∀ x ∈ p, -24 ≤ x) → s'.length = 24 ∧ ∀ i, (s.getD i []).length ≠ 0 → s'.getD i [] = s.getD i [] := by
 intro p
 induction p with
 | nil => intro k s s' h hl _; injection h with h; subst h; exact ⟨hl, fun _ _ => rfl⟩
 | cons x r ih =>
  intro k s s' h hl hx
  have hr : ∀ y ∈ r, -24 ≤ y := fun y hy => hx y (List.mem_cons_of_mem _ hy)
  by_cases h1 : t.length ≤ k
  ·rw [mst_out h1] at h; cases h
  ·by_cases h2 : 0 ≤ x
   ·by_cases h3 : x = t.getD k 0
    ·rw [mst_sym h1 h2 h3] at h; exact ih h hl hr
    ·rw [mst_symNo h1 h2 h3] at h; cases h
   ·by_cases h3 : (s.getD (vr x) []).length ≠ 0 ∧ s.getD (vr x) [] ≠ subL sg t k
    ·rw [mst_varNo h1 h2 h3] at h; cases h
    ·rw [mst_var h1 h2 h3] at h
     obtain ⟨e1, e2⟩ := ih h (by rw [List.length_set]; exact hl) hr
     refine ⟨e1, fun i hi => ?_⟩
     have hs : (s.set (vr x) (subL sg t k)).getD i [] = s.getD i [] := by
      rw [set_get]
      split
      ·rename_i hc
       obtain ⟨rfl, _⟩ := hc
       by_cases e : s.getD (vr x) [] = subL sg t k
       ·exact e.symm
       ·exact absurd ⟨hi, e⟩ h3
      ·rfl
     rw [← hs] at hi ⊢
     exact e2 i hi
theorem sub_len1 {sg t : List Int} (hok : termOkB sg t = true) {k : Nat} (hk : k < t.length) : (subL sg t k).length = len1 sg t k ∧ t.drop k = subL sg t k ++ t.drop (k + (subL sg t k).length) ∧ scan sg 1 (subL sg t k) = some (subL sg t k).length := by
 have h := term_at hok hk
 have hl : (subL sg t k).length = len1 sg t k := by unfold subL; rw [List.length_take, List.length_drop]; omega
 refine ⟨hl, ?_, (term_parts (sub_term hok hk).1).2.2⟩
 rw [hl, ← List.drop_drop]
 exact (List.take_append_drop _ _).symm
theorem mst_sound {sg t : List Int} (hok : termOkB sg t = true) : ∀ {p : List Int} {k : Nat} {s s' : List (List Int)}, mst sg t p k s = some s' → s.length = 24 → (∀ x ∈ p, -24 ≤ x) →
  (∃ rest, t.drop k = fillL (fun i => s'.getD i []) p ++ rest) ∧ ∀ x ∈ p, x < 0 → scan sg 1 (s'.getD (vr x) []) = some (s'.getD (vr x) []).length := by
 intro p
 induction p with
 | nil => intro k s s' _ _ _; exact ⟨⟨t.drop k, by rw [fill_nil, List.nil_append]⟩, fun x hx => absurd hx (List.not_mem_nil)⟩
 | cons x r ih =>
  intro k s s' h hl hx
  have hr : ∀ y ∈ r, -24 ≤ y := fun y hy => hx y (List.mem_cons_of_mem _ hy)
  have hx0 : -24 ≤ x := hx x (List.mem_cons_self ..)
  by_cases h1 : t.length ≤ k
  ·rw [mst_out h1] at h; cases h
  ·by_cases h2 : 0 ≤ x
   ·by_cases h3 : x = t.getD k 0
    ·rw [mst_sym h1 h2 h3] at h
     obtain ⟨⟨rest, e⟩, hv⟩ := ih h hl hr
     refine ⟨⟨rest, ?_⟩, fun y hy h0 => ?_⟩
     ·rw [drop_cons (by omega), e, ← h3, fill_cons, rep_sym h2]; rfl
     ·rcases List.mem_cons.1 hy with rfl | hy
      ·omega
      ·exact hv y hy h0
    ·rw [mst_symNo h1 h2 h3] at h; cases h
   ·by_cases h3 : (s.getD (vr x) []).length ≠ 0 ∧ s.getD (vr x) [] ≠ subL sg t k
    ·rw [mst_varNo h1 h2 h3] at h; cases h
    ·rw [mst_var h1 h2 h3] at h
     have hl' : (s.set (vr x) (subL sg t k)).length = 24 := by rw [List.length_set]; exact hl
     obtain ⟨⟨rest, e⟩, hv⟩ := ih h hl' hr
     obtain ⟨_, e2⟩ := mst_ext h hl' hr
     obtain ⟨l1, l2, l3⟩ := sub_len1 hok (show k < t.length by omega)
     have hpos := (sub_term hok (show k < t.length by omega)).2.2.2
     have hg : (s.set (vr x) (subL sg t k)).getD (vr x) [] = subL sg t k := by rw [set_get, if_pos ⟨rfl, by rw [hl]; exact vr_lt h2 hx0⟩]
     have hgx : s'.getD (vr x) [] = subL sg t k := by rw [e2 (vr x) (by rw [hg]; omega), hg]
     refine ⟨⟨rest, ?_⟩, fun y hy h0 => ?_⟩
     ·rw [l2, e, fill_cons, rep_var (by omega), List.append_assoc]
      congr 1
      exact hgx.symm
     ·rcases List.mem_cons.1 hy with rfl | hy
      ·rw [hgx]; exact l3
      ·exact hv y hy h0
theorem mst_full {sg t : List Int} {L : Nat → List Int} : ∀ {p : List Int} {k : Nat} {s : List (List Int)} {rest : List Int}, t.drop k = fillL L p ++ rest → s.length = 24 → (∀ x ∈ p, -24 ≤ x) → (∀ x ∈ p, x < 0 → scan sg 1 (L (vr x)) = some (L (vr x)).length) → (∀ i, (s.getD i []).length ≠ 0 → s.getD i [] = L i) →
  ∃ s', mst sg t p k s = some s' ∧ (∀ i, (s'.getD i []).length ≠ 0 → s'.getD i [] = L i) ∧ ∀ x ∈ p, x < 0 → s'.getD (vr x) [] = L (vr x) := by
 intro p
 induction p with
 | nil => intro k s rest _ _ _ _ hc; exact ⟨s, rfl, hc, fun x hx => absurd hx (List.not_mem_nil)⟩
 | cons x r ih =>
  intro k s rest h hl hx hL hc
  have hr : ∀ y ∈ r, -24 ≤ y := fun y hy => hx y (List.mem_cons_of_mem _ hy)
  have hLr : ∀ y ∈ r, y < 0 → scan sg 1 (L (vr y)) = some (L (vr y)).length := fun y hy => hL y (List.mem_cons_of_mem _ hy)
  have hx0 : -24 ≤ x := hx x (List.mem_cons_self ..)
  rw [fill_cons, List.append_assoc] at h
  by_cases h2 : 0 ≤ x
  ·rw [rep_sym h2] at h
   have hk : k < t.length := by
    by_cases hk : k < t.length
    ·exact hk
    ·rw [List.drop_eq_nil_of_le (by omega)] at h; cases h
   rw [drop_cons hk] at h
   injection h with e1 e2
   obtain ⟨s', m1, m2, m3⟩ := ih e2 hl hr hLr hc
   exact ⟨s', by rw [mst_sym (by omega) h2 e1.symm]; exact m1, m2, fun y hy h0 => by
    rcases List.mem_cons.1 hy with rfl | hy
    ·omega
    ·exact m3 y hy h0⟩
  ·rw [rep_var (by omega)] at h
   change t.drop k = L (vr x) ++ (fillL L r ++ rest) at h
   have hsc := hL x (List.mem_cons_self ..) (by omega)
   have hpos := scan_pos (q := 0) hsc
   have hk : k < t.length := by
    by_cases hk : k < t.length
    ·exact hk
    ·rw [List.drop_eq_nil_of_le (by omega)] at h
     have := congrArg List.length h
     simp only [List.length_nil, List.length_append] at this
     omega
   have hsub : subL sg t k = L (vr x) := by
    unfold subL
    have e : len1 sg t k = (L (vr x)).length := len1_eq (by rw [h]; exact scan_append hsc)
    rw [e, h, List.take_left' rfl]
   have hnext : t.drop (k + (subL sg t k).length) = fillL L r ++ rest := by rw [← List.drop_drop, h, hsub, List.drop_left' rfl]
   have hno : ¬ ((s.getD (vr x) []).length ≠ 0 ∧ s.getD (vr x) [] ≠ subL sg t k) := fun ⟨g1, g2⟩ => g2 (by rw [hsub]; exact hc _ g1)
   have hl' : (s.set (vr x) (subL sg t k)).length = 24 := by rw [List.length_set]; exact hl
   obtain ⟨s', m1, m2, m3⟩ := ih hnext hl' hr hLr (fun i hi => by
    rw [set_get] at hi ⊢
    split
    ·rename_i hcc; rw [hsub, ← hcc.1]
    ·rename_i hcc; rw [if_neg hcc] at hi; exact hc i hi)
   refine ⟨s', by rw [mst_var (by omega) h2 hno]; exact m1, m2, fun y hy h0 => ?_⟩
   rcases List.mem_cons.1 hy with rfl | hy
   ·have hg : (s.set (vr y) (subL sg t k)).getD (vr y) [] = L (vr y) := by rw [set_get, if_pos ⟨rfl, by rw [hl]; exact vr_lt h2 hx0⟩, hsub]
    rw [(mst_ext m1 hl' hr).2 (vr y) (by rw [hg]; omega), hg]
   ·exact m3 y hy h0
def s0 : List (List Int) := List.replicate 24 []
theorem s0_get (i : Nat) : s0.getD i [] = [] := by
 unfold s0
 rw [List.getD_eq_getElem?_getD, List.getElem?_replicate]
 split <;> rfl
def matchO (sg p t : List Int) : Option (List (List Int)) := if (termOkB sg p && termOkB sg t) = true then mst sg t p 0 s0 else none
def instB (sg p t : List Int) : Bool := (matchO sg p t).isSome
theorem match_yes {sg p t : List Int} (h1 : termOkB sg p = true) (h2 : termOkB sg t = true) : matchO sg p t = mst sg t p 0 s0 := by unfold matchO; rw [if_pos (by rw [h1, h2]; rfl)]
theorem match_no {sg p t : List Int} (h : termOkB sg p = false ∨ termOkB sg t = false) : matchO sg p t = none := by
 unfold matchO
 rw [if_neg]
 rcases h with h | h <;> rw [h] <;> simp
theorem inst_no {sg p t : List Int} (h : termOkB sg p = false ∨ termOkB sg t = false) : instB sg p t = false := by unfold instB; rw [match_no h]; rfl
theorem inst_ok {sg p t : List Int} (h : instB sg p t = true) : termOkB sg p = true ∧ termOkB sg t = true := by
 cases h1 : termOkB sg p with
 | false => rw [inst_no (.inl h1)] at h; cases h
 | true =>
  cases h2 : termOkB sg t with
  | false => rw [inst_no (.inr h2)] at h; cases h
  | true => exact ⟨rfl, rfl⟩
def Turns (sg p t : List Int) (L : Nat → List Int) : Prop := fillL L p = t ∧ ∀ x ∈ p, x < 0 → scan sg 1 (L (vr x)) = some (L (vr x)).length
theorem match_turns {sg p t : List Int} {s' : List (List Int)} (h : matchO sg p t = some s') : s'.length = 24 ∧ Turns sg p t (fun i => s'.getD i []) := by
 have h12 : termOkB sg p = true ∧ termOkB sg t = true := inst_ok (by unfold instB; rw [h]; rfl)
 obtain ⟨h1, h2⟩ := h12
 rw [match_yes h1 h2] at h
 have hx : ∀ x ∈ p, -24 ≤ x := fun x hx => (term_mem h1 hx).1
 obtain ⟨⟨rest, e⟩, hv⟩ := mst_sound h2 h (by rfl) hx
 refine ⟨(mst_ext h (by rfl) hx).1, ?_, hv⟩
 rw [List.drop_zero] at e
 have hs := scan_fill (L := fun i => s'.getD i []) (term_parts h1).2.2 hv
 have hs2 := scan_append (r := rest) hs
 rw [← e, (term_parts h2).2.2] at hs2
 injection hs2 with hs2
 have hl := congrArg List.length e
 rw [List.length_append] at hl
 have hr : rest = [] := List.eq_nil_of_length_eq_zero (by omega)
 rw [e, hr, List.append_nil]
theorem turns_match {sg p t : List Int} {L : Nat → List Int} (h1 : termOkB sg p = true) (h2 : termOkB sg t = true) (h : Turns sg p t L) : ∃ s', matchO sg p t = some s' ∧ ∀ x ∈ p, x < 0 → s'.getD (vr x) [] = L (vr x) := by
 rw [match_yes h1 h2]
 obtain ⟨s', m1, _, m3⟩ := mst_full (sg := sg) (t := t) (L := L) (p := p) (k := 0) (s := s0) (rest := []) (by rw [List.drop_zero, List.append_nil, h.1]) (by rfl) (fun x hx => (term_mem h1 hx).1) h.2 (fun i hi => by rw [s0_get] at hi; exact absurd rfl hi)
 exact ⟨s', m1, m3⟩
theorem inst_iff {sg p t : List Int} (h1 : termOkB sg p = true) (h2 : termOkB sg t = true) : instB sg p t = true ↔ ∃ L, Turns sg p t L := by
 constructor
 ·intro h
  unfold instB at h
  obtain ⟨s', hs⟩ := Option.isSome_iff_exists.1 h
  exact ⟨_, (match_turns hs).2⟩
 ·rintro ⟨L, h⟩
  obtain ⟨s', hs, _⟩ := turns_match h1 h2 h
  unfold instB
  rw [hs]; rfl
end matchMath
end
section
namespace stepMath
open sig term termOk termFacts fillMath gives endAt sub matchMath termMath posMath putMath ruleMath
def putAt (sg t u : List Int) (a : Nat) : List Int := putL t a (len1 sg t a) u
def stepO (sg : List Int) (x : Rl) (t : List Int) (a : Nat) : Option (List Int) :=
 match mst sg (subL sg t a) x.1 0 s0 with
 | none => none
 | some ss => if (fillL (givesL ss) x.2).length ≤ 60 ∧ (putAt sg t (fillL (givesL ss) x.2) a).length ≤ 60 then some (putAt sg t (fillL (givesL ss) x.2) a) else none
def redB (sg : List Int) (x : Rl) (t : List Int) (a : Nat) : Bool := (mst sg (subL sg t a) x.1 0 s0).isSome
theorem sub_ok {sg t : List Int} (h : termOkB sg t = true) {a : Nat} (ha : a < t.length) : termOkB sg (subL sg t a) = true := by
 obtain ⟨h1, h2, h3⟩ := term_parts h
 obtain ⟨e1, e2, e3⟩ := sub_len1 h ha
 have h4 := term_at h ha
 exact term_mk h1 (by omega) e3
end stepMath
end
section
namespace walkMath
open sig term termOk termFacts fillMath gives sub matchMath putMath ruleMath stepMath
abbrev St := Int × Int × List Int
def inB (x : Int) (n : Nat) : Bool := decide (0 ≤ x ∧ x < n)
def rightB (sg : List Int) (rs : List Rl) (t : List Int) : Bool := sysOkB sg rs && termOkB sg t
def thereR (sg : List Int) (rs : List Rl) (t : List Int) (a r : Int) : Bool := rightB sg rs t && (inB a t.length && inB r rs.length)
def rl (rs : List Rl) (r : Int) : Rl := rs.getD r.toNat ([], [])
def redexB (sg : List Int) (rs : List Rl) (t : List Int) (a r : Int) : Bool := thereR sg rs t a r && redB sg (rl rs r) t a.toNat
def stepAtO (sg : List Int) (rs : List Rl) (t : List Int) (a r : Int) : Option (List Int) := if thereR sg rs t a r = true then stepO sg (rl rs r) t a.toNat else none
theorem there_parts {sg : List Int} {rs : List Rl} {t : List Int} {a r : Int} (h : thereR sg rs t a r = true) : sysOkB sg rs = true ∧ termOkB sg t = true ∧ (0 ≤ a ∧ a < t.length) ∧ (0 ≤ r ∧ r < rs.length) := by
 unfold thereR rightB inB at h
 simp only [Bool.and_eq_true, decide_eq_true_eq] at h
 exact ⟨h.1.1, h.1.2, h.2.1, h.2.2⟩
theorem there_mk {sg : List Int} {rs : List Rl} {t : List Int} {a r : Int} (h1 : sysOkB sg rs = true) (h2 : termOkB sg t = true) (h3 : 0 ≤ a ∧ a < t.length) (h4 : 0 ≤ r ∧ r < rs.length) : thereR sg rs t a r = true := by
 unfold thereR rightB inB
 rw [h1, h2, decide_eq_true h3, decide_eq_true h4]
 rfl
theorem rl_ok {sg : List Int} {rs : List Rl} {r : Int} (h : sysOkB sg rs = true) (hr : 0 ≤ r ∧ r < rs.length) : ruleOkB sg (rl rs r) = true := (sys_parts h).2.2 _ (rl_mem (by omega))
end walkMath
end
section
open Go.Lib (hid)
open List (setIfInBounds_toArray set_cons_zero set_cons_succ getElem_toArray getElem_cons_zero getElem_cons_succ)
namespace drawL7
open Go.RowKit base ints sig term termOk termFacts cursor marks app appAt sym segs segsHelp kinds dice drawTerm drawAny drawSub drawTermW drawX drawKnown drawSys drawSysAny drawSysD ruleMath ruleSpec gives heldT
open shape (Sh Dat nc dft sI sz sz_ints rd_ints)
open kindsR (sRule sSystem sRuleS sSig)
set_option maxRecDepth 100000
structure Dy (w : World) (p : Nat) (A : Option Addr) (n c : Nat) (S : Option Addr) (sn sc : Nat) (R : Option Addr) (rn rc : Nat) (d : Dat sSystem) (wr : World) : Prop where
 di : Dice wr p A n c
 r : Row wr w.heap.size 29 #[.slice S sn sc, .slice R rn rc]
 s : RdQ wr (Out wr p) sSystem [.slice S sn sc, .slice R rn rc] d
 g : w.grownBy wr (some p)
 hp : p < w.heap.size
section
variable {w : World} {p : Nat} {A : Option Addr} {n c : Nat} {S : Option Addr} {sn sc : Nat} {R : Option Addr} {rn rc : Nat} {d : Dat sSystem} {wr w' : World}
theorem Dy.dice (t : Dy w p A n c S sn sc R rn rc d wr) (h : Dice w' p A n c) (hg : wr.grownBy w' (some p)) : Dy w p A n c S sn sc R rn rc d w' :=
 ⟨h, Row.away t.r hg (fun e => by injection e with e; have := t.hp; omega), out_dice t.s hg, t.g.trans hg, t.hp⟩
theorem grown_of_below (hb : Below w.heap.size w w') (r : Option Nat) : w.grownBy w' r := ⟨hb.os, hb.tape, hb.output, hb.size, fun k hk _ => hb.block k hk⟩
theorem Dy.next (t : Dy w p A n c S sn sc R rn rc d wr) (hb : Below wr.heap.size wr w') : Dy w p A n c S sn sc R rn rc d w' :=
 ⟨t.di.next hb, t.r.next hb, out_below t.s hb, t.g.trans (grown_of_below hb _), t.hp⟩
theorem rdq_sig (h : RdQ wr (Out wr p) sSystem [.slice S sn sc, .slice R rn rc] d) : Go.Proofs.Ytmoidijngeijkaa.drawTerm.Rd wr p wr.heap.size S sn d.1 := by
 obtain ⟨ca, cb, e, h1, h2⟩ := h
 have l1 := h1.len
 have l1 : ca.length = 1 := l1
 obtain ⟨x, rfl⟩ : ∃ x, ca = [x] := by
  cases ca with
  | nil => cases l1
  | cons x r => cases r with
   | nil => exact ⟨x, rfl⟩
   | cons y z => simp at l1
 rw [List.singleton_append, List.cons.injEq] at e
 obtain ⟨rfl, -⟩ := e
 obtain ⟨A, n, c, e, hc, hl, h1⟩ := h1
 injection e with e _
 injection e with e1 e2 e3
 subst e1 e2 e3
 refine ⟨hl, fun hn => ?_⟩
 obtain ⟨b, off, e2, hb, h2⟩ := h1 hn
 refine ⟨b, off, e2, hb.1, hb.2, fun j hj => ?_⟩
 obtain ⟨es, hel, hp, hr⟩ := h2 j hj
 have hr : es = [.int .i64 (d.1.getD j 0)] := hr
 subst hr
 have := hp 0 (by simp)
 simpa [nc] using this
theorem Dy.sg (t : Dy w p A n c S sn sc R rn rc d wr) : Go.Proofs.Ytmoidijngeijkaa.drawTerm.Rd wr p wr.heap.size S sn d.1 := rdq_sig t.s
theorem Dy.rd (t : Dy w p A n c S sn sc R rn rc d wr) : Go.Proofs.Ytmoidijngeijkaa.shape.Rd wr wr.heap.size sSystem [.slice S sn sc, .slice R rn rc] d := out_rd t.s
theorem Dy.len (t : Dy w p A n c S sn sc R rn rc d wr) (hz : sz sSystem d ≤ 1048576) : List.length d.2 = rn ∧ rn ≤ rc ∧ rc ≤ 9223372036854775807 := by
 obtain ⟨A1, n1, c1, A2, n2, c2, e1, e2, -, -, h5, h6, -⟩ := rd_sys t.rd hz
 injection e2 with e3 e4 e5
 subst e3 e4 e5
 exact ⟨h6, h5.1, h5.2.1⟩
theorem Dy.rule (t : Dy w p A n c S sn sc R rn rc d wr) (hz : sz sSystem d ≤ 1048576) {k : Nat} (hk : k < rn) : ∃ b off l ln lc, R = some ⟨b, off, none⟩ ∧ b < wr.heap.size ∧ wr.cell? ⟨b, off + k * 2, none⟩ = some (.slice l ln lc) ∧ Seg wr wr.heap.size l ln (d.2.getD k ([], [])).1 ∧ Cap l ln lc := by
 obtain ⟨A1, n1, c1, A2, n2, c2, e1, e2, -, -, -, h6, -, -, h9, -, h11⟩ := rd_sys t.rd hz
 injection e2 with e3 e4 e5
 subst e3 e4 e5
 obtain ⟨b, off, l, r, x, e, hb, ex, cl, -, hx⟩ := rd_at h9 (Below.refl wr.heap.size wr) h6 hk
 have hzx : sz sRule x ≤ 1048576 := by rw [← ex.out]; exact h11 k hk
 obtain ⟨L, ln, lc, L', ln', lc', rfl, rfl, s1, q1, -, -, -, -⟩ := rd_rule hx hzx
 exact ⟨b, off, L, ln, lc, e, hb, cl, by rw [ex.out]; exact s1, q1⟩
theorem ansR_from {w1 : World} {L : Nat} {e : Ending} (hg : w.grownBy w1 (some p)) (h : AnsR w1 p A n c L e w') : AnsR w p A n c L e w' := by
 obtain ⟨O, on, oc, xs, he, h1, h2, h3, h4, h5, h6, h7⟩ := h
 exact ⟨O, on, oc, xs, he, h1, h2, h3, h4, h5, h6, hg.trans h7⟩
theorem gives_each60 {ss : List (List Int)} (h : ∀ j, (ss.getD j []).length ≤ 60) (i : Nat) : (givesL ss i).length ≤ 60 := by
 unfold givesL
 split
 ·simp [Go.Proofs.Ytmoidijngeijkaa.fillMath.vt]
 ·exact h i
theorem ansR_at {L base on oc : Nat} {O : Option Addr} {xs : List Int} (t : Dy w p A n c S sn sc R rn rc d wr) (h : Own wr base (.slice O on oc) xs) (hb : w.heap.size ≤ base) (hL : on ≤ L) : AnsR w p A n c L (.returned (.slice O on oc)) wr :=
 ansR_own h (Nat.lt_of_lt_of_le t.hp hb) hL t.di t.g
theorem fit_len {ss : List (List Int)} {t : List Int} (h : Go.Proofs.Ytmoidijngeijkaa.filled.fitsB ss t = true) : (Go.Proofs.Ytmoidijngeijkaa.filled.fitL ss t).length ≤ 60 := by
 unfold Go.Proofs.Ytmoidijngeijkaa.filled.fitL
 rw [if_pos h]
 exact of_decide_eq_true h
theorem sys_rule2 {sg : List Int} {rs : List Rl} (h : sysOkB sg rs = true) {r : Nat} (hr : r < rs.length) : ruleOkB sg (rs.getD r ([], [])) = true := by
 have := Go.Proofs.Ytmoidijngeijkaa.walkMath.rl_ok (r := (r : Int)) h (by omega)
 unfold Go.Proofs.Ytmoidijngeijkaa.walkMath.rl at this
 simpa using this
theorem put_len {sg t u : List Int} {a : Nat} (h : Go.Proofs.Ytmoidijngeijkaa.put.fitB sg t u a = true) : (Go.Proofs.Ytmoidijngeijkaa.put.fitL sg t u a).length ≤ 60 := by
 unfold Go.Proofs.Ytmoidijngeijkaa.put.fitL
 rw [if_pos h]
 exact of_decide_eq_true h
end
set_option maxHeartbeats 8000000 in
theorem l7DrawTerm (p : Nat) (A : Option Addr) (n c : Nat) (S : Option Addr) (sn sc : Nat) (R : Option Addr) (rn rc : Nat) (d : Dat sSystem) (w : World) (hd : Dice w p A n c) (hs : RdQ w (Out w p) sSystem [.slice S sn sc, .slice R rn rc] d) (hz : sz sSystem d ≤ 2000) :
  Calls Try.prog 49 #[.pointer (some ⟨p, 0, none⟩), .agg #[.slice S sn sc, .slice R rn rc]] w (AnsR w p A n c 65) := by
 obtain ⟨W, hW, rA, bel⟩ := box1 w 29 #[.slice S sn sc, .slice R rn rc]
 have T : Dy w p A n c S sn sc R rn rc d W := ⟨hd.next bel, rA, out_below hs bel, grown_of_below bel _, hd.lt⟩
 have hz1 : sz sSystem d ≤ 1048576 := by omega
 have hlr := T.len hz1
 have hsn : sn ≤ 1048576 := by
  have h1 := (sys_szs hz1).1
  rw [sz_ints] at h1
  have := T.sg.1
  omega
 have LS := hid (specSystemOk _ _ d W T.rd hz1)
 have HW := hid hW
 have HT := hid T
 have K0 : W.cell? ⟨w.heap.size, 0, none⟩ = some (.slice S sn sc) := T.r.cell 0
 have K1 : W.cell? ⟨w.heap.size, 1, none⟩ = some (.slice R rn rc) := T.r.cell 1
 have HLR := hid hlr.1
 have hrc := hlr.2
 clear hW hd hs bel rA T hlr
 have LA := hid (fun (w1 : World) (T : Dy w p A n c S sn sc R rn rc d w1) => (drawAny p A n c S sn sc d.1 w1 T.di T.sg hsn).mono fun _ _ h => ansR_from T.g h)
 cases ok : sysOkB d.1 d.2 with
 | false =>
  have HO := hid ok
  clear ok
  go_enter Try.func49, Try.ntmps49
  go_wp2_with fail
  rw [← HW.out]
  go_wp2_with fail
  refine LS.out.mono ?_
  rintro e w1 ⟨he, bb⟩
  rw [HO.out] at he
  subst he
  have HT1 := hid (HT.out.next bb)
  have k0 : w1.cell? ⟨w.heap.size, 0, none⟩ = some (.slice S sn sc) := HT1.out.r.cell 0
  clear bb K0 K1 HT LS HW
  have LAX := hid (LA.out w1 HT1.out)
  go_wp2_with fail
  refine LAX.out.mono ?_
  rintro e w9 ⟨O9, on9, oc9, xs9, rfl, z1, z2, z3, z4, z5, z6, z7⟩
  have F := hid (show AnsR w p A n c 65 (.returned (.slice O9 on9 oc9)) w9 from ⟨O9, on9, oc9, xs9, rfl, z1, z2, z3, z4, z5, z6, z7⟩)
  clear z1 z2 z3 z4 z5 z6 z7 LAX HT1
  go_wp2
  go_ret
  exact F.out
 | true =>
  have HO := hid ok
  have hsp := sys_parts ok
  have hars := hid (sig_arities hsp.1).1
  have hsl : 1 ≤ sn ∧ sn ≤ 8 := by have h1 := (sig_arities hsp.1).2; have h2 := HT.out.sg.1; omega
  have hrn : rn ≤ 12 := by have h1 := hsp.2.1; have h2 := HLR.out; omega
  clear ok hsp
  by_cases h0 : rn = 0
  ·have h0' : ¬ (0 : Int) < (rn : Int) := by omega
   have h0d : decide ((0 : Int) < (rn : Int)) = false := decide_eq_false h0'
   clear h0
   go_enter Try.func49, Try.ntmps49
   go_wp2_with fail
   rw [← HW.out]
   go_wp2_with fail
   refine LS.out.mono ?_
   rintro e w1 ⟨he, bb⟩
   rw [HO.out] at he
   subst he
   have HT1 := hid (HT.out.next bb)
   have k0 : w1.cell? ⟨w.heap.size, 0, none⟩ = some (.slice S sn sc) := HT1.out.r.cell 0
   have k1 : w1.cell? ⟨w.heap.size, 1, none⟩ = some (.slice R rn rc) := HT1.out.r.cell 1
   clear bb K0 K1 HT LS HW
   have LAX := hid (LA.out w1 HT1.out)
   go_wp2_with fail
   refine LAX.out.mono ?_
   rintro e w9 ⟨O9, on9, oc9, xs9, rfl, z1, z2, z3, z4, z5, z6, z7⟩
   have F := hid (show AnsR w p A n c 65 (.returned (.slice O9 on9 oc9)) w9 from ⟨O9, on9, oc9, xs9, rfl, z1, z2, z3, z4, z5, z6, z7⟩)
   clear z1 z2 z3 z4 z5 z6 z7 LAX HT1
   go_wp2
   go_ret
   exact F.out
  ·have h0' : (0 : Int) < (rn : Int) := by omega
   have h0d : decide ((0 : Int) < (rn : Int)) = true := decide_eq_true h0'
   have h0n : 0 < rn := by omega
   clear h0
   go_enter Try.func49, Try.ntmps49
   go_wp2_with fail
   rw [← HW.out]
   go_wp2_with fail
   refine LS.out.mono ?_
   rintro e w1 ⟨he, bb⟩
   rw [HO.out] at he
   subst he
   have HT1 := hid (HT.out.next bb)
   have k0 : w1.cell? ⟨w.heap.size, 0, none⟩ = some (.slice S sn sc) := HT1.out.r.cell 0
   have k1 : w1.cell? ⟨w.heap.size, 1, none⟩ = some (.slice R rn rc) := HT1.out.r.cell 1
   have LO := hid (once p A n c 2 w1 HT1.out.di (by omega) (by omega))
   clear bb K0 K1 HT LS HW
   go_wp2_with fail
   refine LO.out.mono ?_
   rintro e w2 ⟨b1, rfl, d2, g2⟩
   have HT2 := hid (HT1.out.dice d2 g2)
   clear d2 g2 k0 k1 HT1 LO
   cases b1 with
   | false =>
    have k0 : w2.cell? ⟨w.heap.size, 0, none⟩ = some (.slice S sn sc) := HT2.out.r.cell 0
    have LAX := hid (LA.out w2 HT2.out)
    go_wp2_with fail
    refine LAX.out.mono ?_
    rintro e w9 ⟨O9, on9, oc9, xs9, rfl, z1, z2, z3, z4, z5, z6, z7⟩
    have F := hid (show AnsR w p A n c 65 (.returned (.slice O9 on9 oc9)) w9 from ⟨O9, on9, oc9, xs9, rfl, z1, z2, z3, z4, z5, z6, z7⟩)
    clear z1 z2 z3 z4 z5 z6 z7 LAX HT2
    go_wp2
    go_ret
    exact F.out
   | true =>
    have T := HT2.out.next (drew_below w2)
    have c0 : w2.drew.cell? ⟨w.heap.size, 0, none⟩ = some (.slice S sn sc) := T.r.cell 0
    have c1 : w2.drew.cell? ⟨w.heap.size, 1, none⟩ = some (.slice R rn rc) := T.r.cell 1
    have hpw : p < w.heap.size := T.hp
    clear HT2
    go_wp2_with fail
    have hpw2 : p < w2.drew.heap.size := Nat.lt_of_lt_of_le hpw T.g.size
    refine AnyT.start (S := (fun w' => w'.cell? ⟨w.heap.size, 0, none⟩ = some (.slice S sn sc) ∧ w'.cell? ⟨w.heap.size, 1, none⟩ = some (.slice R rn rc))) (fun _ => false) (by kernel_rfl) ⟨c0, c1⟩ (fun hHeld => ?_)
    refine AnyT.takeA (i := 0) (v := ?_) rfl (by kernel_rfl) (by kernel_rfl) (by kernel_rfl) (fun _ _ _ h => h) (Or.inl ⟨by rfl, ?_⟩) ?_
    rotate_left 1
    ·(intro w0 _; go_simp; try with_reducible rfl)
    try simp only [Act.put, setIfInBounds_toArray, set_cons_zero, set_cons_succ, getElem_toArray, getElem_cons_zero, getElem_cons_succ]
    refine AnyT.takeA (i := 1) (v := ?_) rfl (by kernel_rfl) (by kernel_rfl) (by kernel_rfl) (fun _ _ _ h => h) (Or.inl ⟨by rfl, ?_⟩) ?_
    rotate_left 1
    ·(intro w0 _; go_simp; try with_reducible rfl)
    try simp only [Act.put, setIfInBounds_toArray, set_cons_zero, set_cons_succ, getElem_toArray, getElem_cons_zero, getElem_cons_succ]
    refine AnyT.take (i := 2) (v := ?_) rfl (by kernel_rfl) (by kernel_rfl) (by kernel_rfl) (by kernel_rfl) (fun _ _ _ h => h) (Or.inl ⟨by rfl, ?_⟩) (by assumption) ?_
    rotate_left 1
    ·(intro w0 hSw; (try dsimp only at hSw); go_simp; try with_reducible rfl)
    try simp only [Act.put, setIfInBounds_toArray, set_cons_zero, set_cons_succ, getElem_toArray, getElem_cons_zero, getElem_cons_succ]
    refine AnyT.takeA (i := 4) (v := ?_) rfl (by kernel_rfl) (by kernel_rfl) (by kernel_rfl) (fun _ _ _ h => h) (Or.inl ⟨by rfl, ?_⟩) ?_
    rotate_left 1
    ·(intro w0 _; go_simp; try with_reducible rfl)
    try simp only [Act.put, setIfInBounds_toArray, set_cons_zero, set_cons_succ, getElem_toArray, getElem_cons_zero, getElem_cons_succ]
    refine AnyT.take (i := 5) (v := ?_) rfl (by kernel_rfl) (by kernel_rfl) (by kernel_rfl) (by kernel_rfl) (fun _ _ _ h => h) (Or.inl ⟨by rfl, ?_⟩) (by assumption) ?_
    rotate_left 1
    ·(intro w0 hSw; (try dsimp only at hSw); go_simp; try with_reducible rfl)
    try simp only [Act.put, setIfInBounds_toArray, set_cons_zero, set_cons_succ, getElem_toArray, getElem_cons_zero, getElem_cons_succ]
    refine AnyT.takeA (i := 6) (v := ?_) rfl (by kernel_rfl) (by kernel_rfl) (by kernel_rfl) (fun _ _ _ h => h) (Or.inl ⟨by rfl, ?_⟩) ?_
    rotate_left 1
    ·(intro w0 _; go_simp; try with_reducible rfl)
    try simp only [Act.put, setIfInBounds_toArray, set_cons_zero, set_cons_succ, getElem_toArray, getElem_cons_zero, getElem_cons_succ]
    refine AnyT.takeA (i := 7) (v := ?_) rfl (by kernel_rfl) (by kernel_rfl) (by kernel_rfl) (fun _ _ _ h => h) (Or.inl ⟨by rfl, ?_⟩) ?_
    rotate_left 1
    ·(intro w0 _; go_simp; try with_reducible rfl)
    try simp only [Act.put, setIfInBounds_toArray, set_cons_zero, set_cons_succ, getElem_toArray, getElem_cons_zero, getElem_cons_succ]
    refine AnyT.take (i := 8) (v := ?_) rfl (by kernel_rfl) (by kernel_rfl) (by kernel_rfl) (by kernel_rfl) (fun _ _ _ h => h) (Or.inl ⟨by rfl, ?_⟩) (by assumption) ?_
    rotate_left 1
    ·(intro w0 hSw; (try dsimp only at hSw); go_simp; try with_reducible rfl)
    try simp only [Act.put, setIfInBounds_toArray, set_cons_zero, set_cons_succ, getElem_toArray, getElem_cons_zero, getElem_cons_succ]
    refine AnyT.takeA (i := 9) (v := ?_) rfl (by kernel_rfl) (by kernel_rfl) (by kernel_rfl) (fun _ _ _ h => h) (Or.inl ⟨by rfl, ?_⟩) ?_
    rotate_left 1
    ·(intro w0 _; go_simp; try with_reducible rfl)
    try simp only [Act.put, setIfInBounds_toArray, set_cons_zero, set_cons_succ, getElem_toArray, getElem_cons_zero, getElem_cons_succ]
    refine AnyT.call (i := 3) (by kernel_rfl) rfl (fun K hK => ?_)
    try simp only [Act.put, setIfInBounds_toArray, set_cons_zero, set_cons_succ, getElem_toArray, getElem_cons_zero, getElem_cons_succ]
    rw [if_pos (by rfl)]
    go_simp
    (go_at_call 74; refine (Go.Proofs.Ytmoidijngeijkaa.drawS.draw p A n c S sn sc d.1 _ T.di T.sg hars.out (by omega) (by omega)).mono ?_; rintro e u1 ⟨B, m, cB, xss, rfl, oB, hB, d1, g1⟩; replace T := T.dice d1 g1; have e0u1 : u1.cell? ⟨w.heap.size, 0, none⟩ = some (.slice S sn sc) := T.r.cell 0; have e1u1 : u1.cell? ⟨w.heap.size, 1, none⟩ = some (.slice R rn rc) := T.r.cell 1; go_wp2_with fail)
    refine hK.out _ _ (fun _ _ => ?_) (fun hKeep => ?_)
    ·exact ⟨e0u1, e1u1⟩
    replace hHeld := hKeep (by first | rfl | trivial) hHeld
    clear hK K hKeep
    try simp only [Act.put, setIfInBounds_toArray, set_cons_zero, set_cons_succ, getElem_toArray, getElem_cons_zero, getElem_cons_succ]
    refine AnyT.call (i := 10) (by kernel_rfl) rfl (fun K hK => ?_)
    try simp only [Act.put, setIfInBounds_toArray, set_cons_zero, set_cons_succ, getElem_toArray, getElem_cons_zero, getElem_cons_succ]
    rw [if_pos (by rfl)]
    go_simp
    (go_at_call 70; refine (below p A n c (rn : Int) _ T.di (by omega) (by omega)).mono ?_; rintro e u2 ⟨x, rfl, hx0, hx1, d2, g2⟩; replace T := T.dice d2 g2; obtain ⟨k, rfl⟩ := Int.eq_ofNat_of_zero_le hx0; have hk : k < rn := (by omega); have oB2 := oB.dice g2 hpw2; have e0u2 : u2.cell? ⟨w.heap.size, 0, none⟩ = some (.slice S sn sc) := T.r.cell 0; have e1u2 : u2.cell? ⟨w.heap.size, 1, none⟩ = some (.slice R rn rc) := T.r.cell 1; go_wp2_with fail)
    refine hK.out _ _ (fun _ _ => ?_) (fun hKeep => ?_)
    ·exact ⟨e0u2, e1u2⟩
    replace hHeld := hKeep (by first | rfl | trivial) hHeld
    clear hK K hKeep
    try simp only [Act.put, setIfInBounds_toArray, set_cons_zero, set_cons_succ, getElem_toArray, getElem_cons_zero, getElem_cons_succ]
    obtain ⟨rb, roff, lA, ln, lc, hR, hrb, cl, sL, qL⟩ := T.rule hz1 hk
    subst hR
    have hl60 : ln ≤ 60 := by have h1 := (rule_parts (sys_rule2 HO.out (show k < d.2.length by rw [HLR.out]; exact hk))).1; have h2 := (term_len h1).2; have h3 := sL.1; omega
    have hvars := hid (fun (x : Int) hx => (term_mem (rule_parts (sys_rule2 HO.out (show k < d.2.length by rw [HLR.out]; exact hk))).1 (x := x) hx).1)
    obtain ⟨ls, hls⟩ : ∃ l, (d.2.getD k ([], [])).1 = l := ⟨_, rfl⟩
    rw [hls] at sL hvars
    clear hls
    have i0 : (0 : Int) ≤ (k : Int) := by omega
    have i1 : (k : Int) < (rn : Int) := by omega
    have HSL := hid sL
    have HSB := hid (Go.Proofs.Ytmoidijngeijkaa.drawSS.OwnR.segs oB2)
    have hT1 := hid (small_tot hB oB2.1 (by omega))
    have hG1 := hid (gives_each60 (fun j => Nat.le_trans (hB.2 j) (by omega)))
    clear sL d1 g1 d2 g2 oB hx0 hx1
    refine AnyT.call (i := 11) (by kernel_rfl) rfl (fun K hK => ?_)
    try simp only [Act.put, setIfInBounds_toArray, set_cons_zero, set_cons_succ, getElem_toArray, getElem_cons_zero, getElem_cons_succ]
    rw [if_pos (by rfl)]
    go_simp
    refine hK.out _ _ (fun _ _ => ?_) (fun hKeep => ?_)
    ·exact ⟨e0u2, e1u2⟩
    replace hHeld := hKeep (by first | rfl | trivial) hHeld
    clear hK K hKeep
    try simp only [Act.put, setIfInBounds_toArray, set_cons_zero, set_cons_succ, getElem_toArray, getElem_cons_zero, getElem_cons_succ]
    refine AnyT.call (i := 12) (by kernel_rfl) rfl (fun K hK => ?_)
    try simp only [Act.put, setIfInBounds_toArray, set_cons_zero, set_cons_succ, getElem_toArray, getElem_cons_zero, getElem_cons_succ]
    rw [if_pos (by rfl)]
    go_simp
    refine hK.out _ _ (fun _ _ => ?_) (fun hKeep => ?_)
    ·exact ⟨e0u2, e1u2⟩
    replace hHeld := hKeep (by first | rfl | trivial) hHeld
    clear hK K hKeep
    try simp only [Act.put, setIfInBounds_toArray, set_cons_zero, set_cons_succ, getElem_toArray, getElem_cons_zero, getElem_cons_succ]
    refine AnyT.call (i := 13) (by kernel_rfl) rfl (fun K hK => ?_)
    try simp only [Act.put, setIfInBounds_toArray, set_cons_zero, set_cons_succ, getElem_toArray, getElem_cons_zero, getElem_cons_succ]
    rw [if_pos (by rfl)]
    go_simp
    refine hK.out _ _ (fun _ _ => ?_) (fun hKeep => ?_)
    ·exact ⟨e0u2, e1u2⟩
    replace hHeld := hKeep (by first | rfl | trivial) hHeld
    clear hK K hKeep
    try simp only [Act.put, setIfInBounds_toArray, set_cons_zero, set_cons_succ, getElem_toArray, getElem_cons_zero, getElem_cons_succ]
    refine AnyT.call (i := 14) (by kernel_rfl) rfl (fun K hK => ?_)
    try simp only [Act.put, setIfInBounds_toArray, set_cons_zero, set_cons_succ, getElem_toArray, getElem_cons_zero, getElem_cons_succ]
    rw [if_pos (by rfl)]
    go_simp
    (go_at_call 73; refine (Go.Proofs.Ytmoidijngeijkaa.filled.l2Filled B lA m cB ln lc xss ls u2 HSB.out HSL.out hT1.out hl60 hvars.out hG1.out).mono ?_; rintro e u3 ⟨O, on, oc, rfl, oO, b3⟩; have zu2 : w.heap.size ≤ u2.heap.size := T.g.size; replace T := T.next b3; have zu3 := b3.size; have e0u3 : u3.cell? ⟨w.heap.size, 0, none⟩ = some (.slice S sn sc) := T.r.cell 0; have e1u3 : u3.cell? ⟨w.heap.size, 1, none⟩ = some (.slice (some ⟨rb, roff, none⟩) rn rc) := T.r.cell 1; go_wp2_with fail)
    refine hK.out _ _ (fun _ _ => ?_) (fun hKeep => ?_)
    ·exact ⟨e0u3, e1u3⟩
    replace hHeld := hKeep (by first | rfl | trivial) hHeld
    clear hK K hKeep
    try simp only [Act.put, setIfInBounds_toArray, set_cons_zero, set_cons_succ, getElem_toArray, getElem_cons_zero, getElem_cons_succ]
    refine AnyT.takeA (i := 15) (v := ?_) rfl (by kernel_rfl) (by kernel_rfl) (by kernel_rfl) (fun _ _ _ h => h) (Or.inl ⟨by rfl, ?_⟩) ?_
    rotate_left 1
    ·(intro w0 _; go_simp; try with_reducible rfl)
    try simp only [Act.put, setIfInBounds_toArray, set_cons_zero, set_cons_succ, getElem_toArray, getElem_cons_zero, getElem_cons_succ]
    refine AnyT.takeA (i := 16) (v := ?_) rfl (by kernel_rfl) (by kernel_rfl) (by kernel_rfl) (fun _ _ _ h => h) (Or.inl ⟨by rfl, ?_⟩) ?_
    rotate_left 1
    ·(intro w0 _; go_simp; try with_reducible rfl)
    try simp only [Act.put, setIfInBounds_toArray, set_cons_zero, set_cons_succ, getElem_toArray, getElem_cons_zero, getElem_cons_succ]
    refine AnyT.takeA (i := 17) (v := ?_) rfl (by kernel_rfl) (by kernel_rfl) (by kernel_rfl) (fun _ _ _ h => h) (Or.inl ⟨by rfl, ?_⟩) ?_
    rotate_left 1
    ·(intro w0 _; go_simp; try with_reducible rfl)
    try simp only [Act.put, setIfInBounds_toArray, set_cons_zero, set_cons_succ, getElem_toArray, getElem_cons_zero, getElem_cons_succ]
    refine AnyT.takeA (i := 18) (v := ?_) rfl (by kernel_rfl) (by kernel_rfl) (by kernel_rfl) (fun _ _ _ h => h) (Or.inl ⟨by rfl, ?_⟩) ?_
    rotate_left 1
    ·(intro w0 _; go_simp; try with_reducible rfl)
    try simp only [Act.put, setIfInBounds_toArray, set_cons_zero, set_cons_succ, getElem_toArray, getElem_cons_zero, getElem_cons_succ]
    refine AnyT.takeA (i := 19) (v := ?_) rfl (by kernel_rfl) (by kernel_rfl) (by kernel_rfl) (fun _ _ _ h => h) (Or.inl ⟨by rfl, ?_⟩) ?_
    rotate_left 1
    ·(intro w0 _; go_simp; try with_reducible rfl)
    try simp only [Act.put, setIfInBounds_toArray, set_cons_zero, set_cons_succ, getElem_toArray, getElem_cons_zero, getElem_cons_succ]
    refine AnyT.done (by kernel_rfl) ?_ _
    clear e0u1 e1u1 e0u2 e1u2 e0u3 e1u3 cl
    have HT5 := hid T
    have HOO := hid oO
    clear T oO b3
    obtain ⟨bf, hbf⟩ : ∃ b, Go.Proofs.Ytmoidijngeijkaa.filled.fitsB xss ls = b := ⟨_, rfl⟩
    obtain ⟨ys, hys⟩ : ∃ y, Go.Proofs.Ytmoidijngeijkaa.filled.fitL xss ls = y := ⟨_, rfl⟩
    rw [hys] at HOO
    rw [hbf]
    have HYS := hid (show bf = true → ys.length ≤ 60 from fun e => by rw [← hys]; exact fit_len (hbf.trans e))
    clear hbf hys c0 c1
    cases bf with
    | false =>
     have k0 : u3.cell? ⟨w.heap.size, 0, none⟩ = some (.slice S sn sc) := HT5.out.r.cell 0
     have LAX := hid (LA.out u3 HT5.out)
     go_wp2_with fail
     refine LAX.out.mono ?_
     rintro e w9 ⟨O9, on9, oc9, xs9, rfl, z1, z2, z3, z4, z5, z6, z7⟩
     have F := hid (show AnsR w p A n c 65 (.returned (.slice O9 on9 oc9)) w9 from ⟨O9, on9, oc9, xs9, rfl, z1, z2, z3, z4, z5, z6, z7⟩)
     clear z1 z2 z3 z4 z5 z6 z7 LAX HT5
     go_wp2
     go_ret
     exact F.out
    | true =>
     have hon60 : on ≤ 60 := by have h1 := HYS.out rfl; have h2 := Own.len HOO.out; omega
     have LO := hid (once p A n c 2 u3 HT5.out.di (by omega) (by omega))
     go_wp2_with fail
     refine LO.out.mono ?_
     rintro e w6 ⟨b2, rfl, d6, g6⟩
     have HT6 := hid (HT5.out.dice d6 g6)
     have HO6 := hid (Go.Proofs.Ytmoidijngeijkaa.drawSig.Own.away HOO.out g6 (fun k e => by injection e with e; omega))
     clear d6 g6 HT5 HOO LO
     cases b2 with
     | true =>
      have F := hid (ansR_at (L := 65) HT6.out HO6.out (by omega) (by omega))
      clear HT6 HO6
      go_wp2
      go_ret
      exact F.out
     | false =>
      have k0 : w6.cell? ⟨w.heap.size, 0, none⟩ = some (.slice S sn sc) := HT6.out.r.cell 0
      have LU := hid (drawTermW p A n c S sn sc d.1 2 hars.out (by omega) (by omega) (by omega) (by omega) 2 3 w6 HT6.out.di HT6.out.sg (by omega) (by omega) (by omega))
      go_wp2_with fail
      refine LU.out.mono ?_
      rintro e w7 ⟨U, un, uc, us, rfl, oU, hu1, hu2, husc, d7, g7⟩
      have hw67 : w6.heap.size ≤ w7.heap.size := g7.size
      have HT7 := hid (HT6.out.dice d7 g7)
      have HO7 := hid (Go.Proofs.Ytmoidijngeijkaa.drawSig.Own.away HO6.out g7 (fun k e => by injection e with e; omega))
      have hu16 : un ≤ 16 := by have : (4 : Nat) ^ 2 = 16 := rfl; omega
      have HUT := hid (show termOkB d.1 us = true from term_mk (sys_parts HO.out).1 (by have := Own.len oU; omega) husc)
      have hpw7 : p < w7.heap.size := Nat.lt_of_lt_of_le hpw HT7.out.g.size
      have hw6 : w.heap.size ≤ w6.heap.size := HT6.out.g.size
      have T := HT7.out.next (drew_below w7)
      have oU1 := oU.next (drew_below w7)
      have oY1 := HO7.out.next (drew_below w7)
      have c0 : w7.drew.cell? ⟨w.heap.size, 0, none⟩ = some (.slice S sn sc) := T.r.cell 0
      clear k0 d7 g7 HT6 HO6 LU husc oU HT7 HO7
      go_wp2_with fail
      refine AnyT.start (S := (fun w' => w'.cell? ⟨w.heap.size, 0, none⟩ = some (.slice S sn sc))) (fun _ => false) (by kernel_rfl) c0 (fun hHeld => ?_)
      refine AnyT.takeA (i := 0) (v := ?_) rfl (by kernel_rfl) (by kernel_rfl) (by kernel_rfl) (fun _ _ _ h => h) (Or.inl ⟨by rfl, ?_⟩) ?_
      rotate_left 1
      ·(intro w0 _; go_simp; try with_reducible rfl)
      try simp only [Act.put, setIfInBounds_toArray, set_cons_zero, set_cons_succ, getElem_toArray, getElem_cons_zero, getElem_cons_succ]
      refine AnyT.take (i := 1) (v := ?_) rfl (by kernel_rfl) (by kernel_rfl) (by kernel_rfl) (by kernel_rfl) (fun _ _ _ h => h) (Or.inl ⟨by rfl, ?_⟩) (by assumption) ?_
      rotate_left 1
      ·(intro w0 hSw; (try dsimp only at hSw); go_simp; try with_reducible rfl)
      try simp only [Act.put, setIfInBounds_toArray, set_cons_zero, set_cons_succ, getElem_toArray, getElem_cons_zero, getElem_cons_succ]
      refine AnyT.takeA (i := 2) (v := ?_) rfl (by kernel_rfl) (by kernel_rfl) (by kernel_rfl) (fun _ _ _ h => h) (Or.inl ⟨by rfl, ?_⟩) ?_
      rotate_left 1
      ·(intro w0 _; go_simp; try with_reducible rfl)
      try simp only [Act.put, setIfInBounds_toArray, set_cons_zero, set_cons_succ, getElem_toArray, getElem_cons_zero, getElem_cons_succ]
      refine AnyT.takeA (i := 3) (v := ?_) rfl (by kernel_rfl) (by kernel_rfl) (by kernel_rfl) (fun _ _ _ h => h) (Or.inl ⟨by rfl, ?_⟩) ?_
      rotate_left 1
      ·(intro w0 _; go_simp; try with_reducible rfl)
      try simp only [Act.put, setIfInBounds_toArray, set_cons_zero, set_cons_succ, getElem_toArray, getElem_cons_zero, getElem_cons_succ]
      refine AnyT.takeA (i := 4) (v := ?_) rfl (by kernel_rfl) (by kernel_rfl) (by kernel_rfl) (fun _ _ _ h => h) (Or.inl ⟨by rfl, ?_⟩) ?_
      rotate_left 1
      ·(intro w0 _; go_simp; try with_reducible rfl)
      try simp only [Act.put, setIfInBounds_toArray, set_cons_zero, set_cons_succ, getElem_toArray, getElem_cons_zero, getElem_cons_succ]
      refine AnyT.takeA (i := 5) (v := ?_) rfl (by kernel_rfl) (by kernel_rfl) (by kernel_rfl) (fun _ _ _ h => h) (Or.inl ⟨by rfl, ?_⟩) ?_
      rotate_left 1
      ·(intro w0 _; go_simp; try with_reducible rfl)
      try simp only [Act.put, setIfInBounds_toArray, set_cons_zero, set_cons_succ, getElem_toArray, getElem_cons_zero, getElem_cons_succ]
      refine AnyT.takeA (i := 7) (v := ?_) rfl (by kernel_rfl) (by kernel_rfl) (by kernel_rfl) (fun _ _ _ h => h) (Or.inl ⟨by rfl, ?_⟩) ?_
      rotate_left 1
      ·(intro w0 _; go_simp; try with_reducible rfl)
      try simp only [Act.put, setIfInBounds_toArray, set_cons_zero, set_cons_succ, getElem_toArray, getElem_cons_zero, getElem_cons_succ]
      refine AnyT.call (i := 6) (by kernel_rfl) rfl (fun K hK => ?_)
      try simp only [Act.put, setIfInBounds_toArray, set_cons_zero, set_cons_succ, getElem_toArray, getElem_cons_zero, getElem_cons_succ]
      rw [if_pos (by rfl)]
      go_simp
      (go_at_call 70; refine (below p A n c (un : Int) _ T.di (by omega) (by omega)).mono ?_; rintro e u9 ⟨x, rfl, hx0, hx1, d9, g9⟩; replace T := T.dice d9 g9; obtain ⟨a, rfl⟩ := Int.eq_ofNat_of_zero_le hx0; have ha : a < un := (by omega); have oU2 := Go.Proofs.Ytmoidijngeijkaa.drawSig.Own.away oU1 g9 (fun k e => by injection e with e; omega); have oY2 := Go.Proofs.Ytmoidijngeijkaa.drawSig.Own.away oY1 g9 (fun k e => by injection e with e; omega); have e0u9 : u9.cell? ⟨w.heap.size, 0, none⟩ = some (.slice S sn sc) := T.r.cell 0; go_wp2_with fail)
      refine hK.out _ _ (fun _ _ => ?_) (fun hKeep => ?_)
      ·exact e0u9
      replace hHeld := hKeep (by first | rfl | trivial) hHeld
      clear hK K hKeep
      try simp only [Act.put, setIfInBounds_toArray, set_cons_zero, set_cons_succ, getElem_toArray, getElem_cons_zero, getElem_cons_succ]
      have haU : a < us.length := by have := Own.len oU2; omega
      have LP := hid (Go.Proofs.Ytmoidijngeijkaa.put.l3Put S U O sn sc un uc on oc d.1 us ys a u9 T.sg.seg (Own.seg oU2) (Own.seg oY2) (look.own_cap oY2).2.2 (by omega) (by omega) hon60 (look.own_cap oU2).1 (look.own_cap oU2).2.1 HUT.out haU)
      clear d9 g9 oU1 oY1 oU2 oY2 hx0 hx1 haU
      refine AnyT.call (i := 8) (by kernel_rfl) rfl (fun K hK => ?_)
      try simp only [Act.put, setIfInBounds_toArray, set_cons_zero, set_cons_succ, getElem_toArray, getElem_cons_zero, getElem_cons_succ]
      rw [if_pos (by rfl)]
      go_simp
      (go_at_call 76; refine LP.out.mono ?_; rintro e u10 ⟨X, xn, xc, rfl, oX, b10⟩; have zu9 : w.heap.size ≤ u9.heap.size := T.g.size; replace T := T.next b10; have e0u10 : u10.cell? ⟨w.heap.size, 0, none⟩ = some (.slice S sn sc) := T.r.cell 0; go_wp2_with fail)
      refine hK.out _ _ (fun _ _ => ?_) (fun hKeep => ?_)
      ·exact e0u10
      replace hHeld := hKeep (by first | rfl | trivial) hHeld
      clear hK K hKeep
      try simp only [Act.put, setIfInBounds_toArray, set_cons_zero, set_cons_succ, getElem_toArray, getElem_cons_zero, getElem_cons_succ]
      refine AnyT.takeA (i := 9) (v := ?_) rfl (by kernel_rfl) (by kernel_rfl) (by kernel_rfl) (fun _ _ _ h => h) (Or.inl ⟨by rfl, ?_⟩) ?_
      rotate_left 1
      ·(intro w0 _; go_simp; try with_reducible rfl)
      try simp only [Act.put, setIfInBounds_toArray, set_cons_zero, set_cons_succ, getElem_toArray, getElem_cons_zero, getElem_cons_succ]
      refine AnyT.takeA (i := 10) (v := ?_) rfl (by kernel_rfl) (by kernel_rfl) (by kernel_rfl) (fun _ _ _ h => h) (Or.inl ⟨by rfl, ?_⟩) ?_
      rotate_left 1
      ·(intro w0 _; go_simp; try with_reducible rfl)
      try simp only [Act.put, setIfInBounds_toArray, set_cons_zero, set_cons_succ, getElem_toArray, getElem_cons_zero, getElem_cons_succ]
      refine AnyT.takeA (i := 11) (v := ?_) rfl (by kernel_rfl) (by kernel_rfl) (by kernel_rfl) (fun _ _ _ h => h) (Or.inl ⟨by rfl, ?_⟩) ?_
      rotate_left 1
      ·(intro w0 _; go_simp; try with_reducible rfl)
      try simp only [Act.put, setIfInBounds_toArray, set_cons_zero, set_cons_succ, getElem_toArray, getElem_cons_zero, getElem_cons_succ]
      refine AnyT.takeA (i := 12) (v := ?_) rfl (by kernel_rfl) (by kernel_rfl) (by kernel_rfl) (fun _ _ _ h => h) (Or.inl ⟨by rfl, ?_⟩) ?_
      rotate_left 1
      ·(intro w0 _; go_simp; try with_reducible rfl)
      try simp only [Act.put, setIfInBounds_toArray, set_cons_zero, set_cons_succ, getElem_toArray, getElem_cons_zero, getElem_cons_succ]
      refine AnyT.takeA (i := 13) (v := ?_) rfl (by kernel_rfl) (by kernel_rfl) (by kernel_rfl) (fun _ _ _ h => h) (Or.inl ⟨by rfl, ?_⟩) ?_
      rotate_left 1
      ·(intro w0 _; go_simp; try with_reducible rfl)
      try simp only [Act.put, setIfInBounds_toArray, set_cons_zero, set_cons_succ, getElem_toArray, getElem_cons_zero, getElem_cons_succ]
      refine AnyT.done (by kernel_rfl) ?_ _
      clear e0u9 e0u10
      have HT10 := hid T
      have HOX := hid oX
      clear T oX b10 c0
      obtain ⟨bf, hbf⟩ : ∃ b, Go.Proofs.Ytmoidijngeijkaa.put.fitB d.1 us ys a = b := ⟨_, rfl⟩
      obtain ⟨zs, hzs⟩ : ∃ y, Go.Proofs.Ytmoidijngeijkaa.put.fitL d.1 us ys a = y := ⟨_, rfl⟩
      rw [hzs] at HOX
      rw [hbf]
      have HZ := hid (show bf = true → zs.length ≤ 60 from fun e => by rw [← hzs]; exact put_len (hbf.trans e))
      clear hbf hzs
      cases bf with
      | true =>
       have hxn : xn ≤ 65 := by have h1 := HZ.out rfl; have h2 := Own.len HOX.out; omega
       have F := hid (ansR_at (L := 65) HT10.out HOX.out (by have := HT10.out.g.size; omega) hxn)
       clear HT10 HOX
       go_wp2
       go_ret
       exact F.out
      | false =>
       have k0 : u10.cell? ⟨w.heap.size, 0, none⟩ = some (.slice S sn sc) := HT10.out.r.cell 0
       have LAX := hid (LA.out u10 HT10.out)
       go_wp2_with fail
       refine LAX.out.mono ?_
       rintro e w9 ⟨O9, on9, oc9, xs9, rfl, z1, z2, z3, z4, z5, z6, z7⟩
       have F := hid (show AnsR w p A n c 65 (.returned (.slice O9 on9 oc9)) w9 from ⟨O9, on9, oc9, xs9, rfl, z1, z2, z3, z4, z5, z6, z7⟩)
       clear z1 z2 z3 z4 z5 z6 z7 LAX HT10
       go_wp2
       go_ret
       exact F.out
end drawL7
end
end Go.Proofs.Ytmoidijngeijkaa
