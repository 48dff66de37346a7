/-
  MERGED: my texts BySpec, WalkSpecD, WalkX2, BySpecB, ByX, TabR, Whole, TakeMath, Take, Extended, StepImpl, AnyR, RuleImpl, RuleImplB, one behind the other, as they are. By an AI agent.
-/
import Derived.Test.YtblhmplpcdcejaaGreatMFnExactWalkBy5
import Derived.Laws.Rows
import Derived.Laws.ResultCell
import Derived.Deep.RegionHeld3
import Derived.Deep.WholeRow
import Derived.Shelf.Abstract
namespace Go.Proofs.YtblhmplpcdcejaaGreat
section
open Go.Lib (hid)
open List (setIfInBounds_toArray set_cons_zero set_cons_succ getElem_toArray getElem_cons_zero getElem_cons_succ)
namespace bySpec
open Go.RowKit base ints sig term termOk endAt endOf marks app sym sub segs segsHelp kinds termFacts same shifted shape drawX kindsR kindsW varsOf ruleMath ruleSpec stepMath walkMath stepSpec walkSpec ownL heldT orderMath orderSpec
set_option maxRecDepth 100000
structure Wb (w : World) (T : TypeId) (a v : Value) (B : Nat) (X O : Option Addr) (xn xc on oc : Nat) (fr : List Int) (L : List St) (wr : World) : Prop where
 r0 : Row wr w.heap.size T #[a, v]
 r1 : Row wr (w.heap.size + 1) 39 #[.slice none 0 0, .slice none 0 0]
 r3 : Row wr B 39 #[.slice X xn xc, .slice O on oc]
 x : Ownd wr (w.heap.size + 1 + 1) B X xn xc fr
 o : OwnL wr (B + 1) wr.heap.size 71 sStep O on oc L
 b : Below w.heap.size w wr
 z : w.heap.size + 1 + 1 ≤ B
theorem Wb.next {w wr w' : World} {T : TypeId} {a v : Value} {B : Nat} {X O : Option Addr} {xn xc on oc : Nat} {fr : List Int} {L : List St} (h : Wb w T a v B X O xn xc on oc fr L wr) (hb : Below wr.heap.size wr w') : Wb w T a v B X O xn xc on oc fr L w' :=
 ⟨h.r0.next hb, h.r1.next hb, h.r3.next hb, h.x.next hb, (h.o.next hb).wider (Nat.le_refl _) hb.size, next_trans h.b hb, h.z⟩
theorem Wb.app {w w5 w4 : World} {T : TypeId} {a v : Value} {B : Nat} {X O : Option Addr} {xn xc on oc : Nat} {fr : List Int} {L : List St} {O' oc' : Nat} {y : St} {o : Obj} (h : Wb w T a v B X O xn xc on oc fr L w5) (oL4 : OwnL w4 (B + 1) w4.heap.size 71 sStep (some ⟨O', 0, none⟩) (on + 1) oc' (L ++ [y])) (hg4 : (w5.alloc o).grownBy w4 (blk O)) :
  Wb w T a v B X (some ⟨O', 0, none⟩) xn xc (on + 1) oc' fr (L ++ [y]) (w4.setCell ⟨B, 1, none⟩ (.slice (some ⟨O', 0, none⟩) (on + 1) oc')) := by
 have z := h.z
 have hB : B < w5.heap.size := h.r3.lt
 have hblk : ∀ k, blk O = some k → B + 1 ≤ k ∧ k < w5.heap.size := fun k e => h.o.ge k e
 have b0 : Below w5.heap.size w5 (w5.alloc o) := (Below.refl _ _).alloc (Nat.le_refl _) _
 have b4 : Below (B + 1) (w5.alloc o) w4 := (Below.refl _ _).grown hg4 (by simp; omega) (fun k e => (hblk k e).1)
 have b5 : Below (B + 1) w5 w4 := (b0.mono (by omega)).trans b4
 have hz4 : w5.heap.size + 1 ≤ w4.heap.size := by have := hg4.size; simpa using this
 refine ⟨(h.r0.below b5 (by omega)).far (show w.heap.size ≠ B by omega) _, (h.r1.below b5 (by omega)).far (show w.heap.size + 1 ≠ B by omega) _, (h.r3.below b5 (by omega)).put 1 _, ?_, ?_, (h.b.trans (b5.mono (by omega))).setCell (show w.heap.size ≤ B by omega) _, z⟩
 ·exact ((h.x.next b0).btw (lo' := B + 1) (hi' := w4.heap.size) (Btw.of_grown hg4 (fun q hq => by have h8 := hblk q hq; omega)) (.inl (by omega))).btw (lo' := B) (hi' := B + 1) ⟨rfl, rfl, rfl, by simp, fun k hk ho => Below.heap_setCell w4 _ _ k (by show k ≠ B; omega)⟩ (.inl (Nat.le_refl _))
 ·have o5 : OwnL (w4.setCell ⟨B, 1, none⟩ (.slice (some ⟨O', 0, none⟩) (on + 1) oc')) (B + 1) w4.heap.size 71 sStep (some ⟨O', 0, none⟩) (on + 1) oc' (L ++ [y]) := oL4.btw (lo' := B) (hi' := B + 1) ⟨rfl, rfl, rfl, by simp, fun k hk ho => Below.heap_setCell w4 _ _ k (by show k ≠ B; omega)⟩ (.inr (Nat.le_refl _))
  exact o5.wider (Nat.le_refl _) (by simp)
theorem fuel_yes {F : Nat} (h : F ≤ 60) : fuelB (F : Int) = true := decide_eq_true (by omega)
theorem ansWalk_yes {w wr w' : World} {T : TypeId} {a v : Value} {B : Nat} {X O : Option Addr} {xn xc on oc : Nat} {fr : List Int} {L : List St} {k : Wk} {b : Bool} (h : Wb w T a v B X O xn xc on oc fr L wr) (hk : k = (fr, L)) (hb : Below wr.heap.size wr w') :
  AnsWalk w k b (.returned (.tuple #[.agg #[.slice X xn xc, .slice O on oc], .bool b])) ((w'.setCell ⟨w.heap.size + 1, 0, none⟩ (.slice X xn xc)).setCell ⟨w.heap.size + 1, 1, none⟩ (.slice O on oc)) := by
 have h2 := h.next hb
 have z := h.z
 have ow : Owned w' (w.heap.size + 1 + 1) w'.heap.size sWalk [.slice X xn xc, .slice O on oc] (fr, L) := owned_walk (h2.x.wider (Nat.le_refl _) (Nat.le_succ _)) h2.o (by omega) h2.r3.lt
 exact ⟨_, _, _, _, _, _, rfl, by rw [hk]; exact ((ow.put (g := w.heap.size + 1) (i := 0) (by omega)).put (g := w.heap.size + 1) (i := 1) (by omega)).wider (by omega) (by simp), (h2.b.setCell (show w.heap.size ≤ w.heap.size + 1 by omega) _).setCell (show w.heap.size ≤ w.heap.size + 1 by omega) _⟩
theorem AnsWalk.next {w w1 w2 : World} {k : Wk} {b : Bool} {e : Ending} (h : AnsWalk w k b e w1) (hb : Below w1.heap.size w1 w2) : AnsWalk w k b e w2 := by
 obtain ⟨A0, n0, c0, A1, n1, c1, he, ho, hw⟩ := h
 exact ⟨A0, n0, c0, A1, n1, c1, he, (ho.next hb).wider (Nat.le_refl _) hb.size, next_trans hw hb⟩
set_option maxHeartbeats 8000000 in
theorem specWalkBy (a v u : Value) (d : Dat sSystem) (t : List Int) (s f : Int) (w : World) (h : Rd w w.heap.size sSystem [a, v] d) (ht : Rd w w.heap.size sI [u] t) (hz : sz sSystem d ≤ 1048576) (hz' : sz sI t ≤ 1048576) :
  Calls Tryz.prog 20 #[.agg #[a, v], u, .int .i64 s, .int .i64 f] w (AnsWalk w (byW d.1 d.2 t s f) (byD d.1 d.2 t s f)) := by
 obtain ⟨T, m, c, rfl, hT, hcT⟩ := rd_ints.1 ht
 have hm := len_ints hT.1 hz'
 obtain ⟨A, n, cs, V, q, cv, rfl, rfl, -⟩ := rd_sys h hz
 obtain ⟨W, hW, r0, r1, bel⟩ : ∃ W, W = (w.alloc (.cells #[.slice A n cs, .slice V q cv] 45)).alloc (.cells #[.slice none 0 0, .slice none 0 0] 39) ∧ Row W w.heap.size 45 #[.slice A n cs, .slice V q cv] ∧ Row W (w.heap.size + 1) 39 #[.slice none 0 0, .slice none 0 0] ∧ Below w.heap.size w W := by
  refine ⟨_, rfl, (Row.new w _ _).alloc _, ?_, ((Below.refl _ _).alloc (Nat.le_refl _) _).alloc (by simp) _⟩
  have := Row.new (w.alloc (.cells #[.slice A n cs, .slice V q cv] 45)) 39 #[.slice none 0 0, .slice none 0 0]
  simpa using this
 have HW := hid hW
 have LR := hid (l8Right _ _ _ d t s W (h.next bel) (ht.next bel) hz hz')
 have LC := hid (fun (w1 : World) (bb : Below w.heap.size w w1) => copyInts T m c t w1 (hT.next bb) hcT.2.2 hm)
 have LK := hid (fun (w1 : World) (bb : Below w.heap.size w w1) (nw : Value) (x : List Int) (hx : Rd w1 w1.heap.size sI [nw] x) (hx2 : sz sI x ≤ 1048576) => specPickBy _ _ nw d x s w1 (h.next bb) hx hz hx2)
 have LS := hid (fun (w1 : World) (bb : Below w.heap.size w w1) (nw : Value) (x : List Int) (hx : Rd w1 w1.heap.size sI [nw] x) hok y k hy hk => l7Step _ _ nw d x y k w1 (h.next bb) hx hz hok hy hk)
 have LN := hid (fun (w1 : World) (bb : Below w.heap.size w w1) (nw : Value) (x : List Int) (hx : Rd w1 w1.heap.size sI [nw] x) (hx2 : sz sI x ≤ 1048576) => specNormalIn _ _ nw d x w1 (h.next bb) hx hz hx2)
 have K0 : W.cell? ⟨w.heap.size, 0, none⟩ = some (.slice A n cs) := r0.cell 0
 have K1 : W.cell? ⟨w.heap.size, 1, none⟩ = some (.slice V q cv) := r0.cell 1
 clear hW h ht hz hT hcT
 cases ok : (rightB d.1 d.2 t && stratB s) with
 | false =>
  have HS := hid (by_off (by_no1 (f := f) ok))
  rw [ok] at LR
  clear ok LC LK LS LN
  go_enter Tryz.func20, Tryz.ntmps20
  go_wp2_with fail
  rw [← HW.out]
  go_wp2_with fail
  refine LR.out.mono ?_
  rintro e w1 ⟨rfl, bb⟩
  replace r1 := r1.next bb
  replace bel := next_trans bel bb
  clear K0 K1
  have y0 : w1.cell? ⟨w.heap.size + 1, 0, none⟩ = some (.slice none 0 0) := r1.cell 0
  have y1 : w1.cell? ⟨w.heap.size + 1, 1, none⟩ = some (.slice none 0 0) := r1.cell 1
  have g0 := r1.free 0
  have g1 := r1.free 1
  have ra := r1.put 0 (.slice none 0 0)
  have y2 : (w1.setCell ⟨w.heap.size + 1, 0, none⟩ (.slice none 0 0)).cell? ⟨w.heap.size + 1, 1, none⟩ = some (.slice none 0 0) := ra.cell 1
  have g2 := ra.free 1
  have rb := ra.put 1 (.slice none 0 0)
  have u0 : ((w1.setCell ⟨w.heap.size + 1, 0, none⟩ (.slice none 0 0)).setCell ⟨w.heap.size + 1, 1, none⟩ (.slice none 0 0)).cell? ⟨w.heap.size + 1, 0, none⟩ = some (.slice none 0 0) := rb.cell 0
  have u1 : ((w1.setCell ⟨w.heap.size + 1, 0, none⟩ (.slice none 0 0)).setCell ⟨w.heap.size + 1, 1, none⟩ (.slice none 0 0)).cell? ⟨w.heap.size + 1, 1, none⟩ = some (.slice none 0 0) := rb.cell 1
  have FZ : AnsWalk w (byW d.1 d.2 t s f) (byD d.1 d.2 t s f) (.returned (.tuple #[.agg #[.slice none 0 0, .slice none 0 0], .bool false])) ((w1.setCell ⟨w.heap.size + 1, 0, none⟩ (.slice none 0 0)).setCell ⟨w.heap.size + 1, 1, none⟩ (.slice none 0 0)) := ansWalk_no HS.out (((bel).setCell (show w.heap.size ≤ w.heap.size + 1 by omega) _).setCell (show w.heap.size ≤ w.heap.size + 1 by omega) _)
  have HFZ := hid FZ
  clear FZ ra rb bb bel r0 r1 LR
  go_wp2
  exact bodyPost_ret (v := .tuple #[.agg #[.slice none 0 0, .slice none 0 0], .bool false]) (by simp [results, Tryz.results20, go_sem, u0, u1]) rfl HFZ.out
 | true =>
  have HS := hid ok
  rw [ok] at LR
  clear ok
  by_cases hf : 0 ≤ f ∧ f ≤ 60
  ·obtain ⟨F, rfl⟩ := Int.eq_ofNat_of_zero_le hf.1
   have hF : F ≤ 60 := by omega
   have HB := hid (by_yes HS.out (fuel_yes hF))
   have HR := hid ((Bool.and_eq_true _ _).mp HS.out)
   have HIN := hid (fun w1 => inYes (F : Int) 0 60 w1 (by omega))
   have zW : w.heap.size + 1 < W.heap.size := r1.lt
   clear hf
   go_enter Tryz.func20, Tryz.ntmps20
   go_wp2_with fail
   rw [← HW.out]
   go_wp2_with fail
   refine LR.out.mono ?_
   rintro e w1 ⟨rfl, bb⟩
   replace r0 := r0.next bb
   replace r1 := r1.next bb
   replace bel := next_trans bel bb
   have zw1 : w.heap.size + 1 < w1.heap.size := r1.lt
   have LI := hid (HIN.out w1)
   have LC1 := hid (LC.out w1 bel)
   clear bb K0 K1 LR zW HIN
   go_wp2_with fail
   refine LI.out.mono ?_
   rintro e w2 ⟨rfl, rfl⟩
   go_wp2_with fail
   refine LC1.out.mono ?_
   rintro e w3 ⟨X, xn, xc, rfl, oX, bb⟩
   replace r0 := r0.next bb
   replace r1 := r1.next bb
   replace bel := next_trans bel bb
   have zz := bb.size
   have b4 : Below w3.heap.size w3 (w3.alloc (.cells #[.slice X xn xc, .slice none 0 0] 39)) := (Below.refl _ _).alloc (Nat.le_refl _) _
   obtain ⟨W4, hW4⟩ : ∃ W4, W4 = w3.alloc (.cells #[.slice X xn xc, .slice none 0 0] 39) := ⟨_, rfl⟩
   have HI0 := hid (show Wb w 45 (.slice A n cs) (.slice V q cv) w3.heap.size X none xn xc 0 0 t [] W4 from by
    rw [hW4]
    exact ⟨r0.next b4, r1.next b4, Row.new _ _ _, ((Ownd.of_own oX).next b4).wider (by omega) (Nat.le_refl _), OwnL.nil _ _ _ _ _, next_trans bel b4, by omega⟩)
   have LC2 := hid (LC.out W4 HI0.out.b)
   have HW4 := hid hW4
   clear bb oX b4 r0 r1 bel hW4 LC1 HW LI LC
   go_wp2_with fail
   rw [← HW4.out]
   refine LC2.out.mono ?_
   rintro e w5 ⟨N, nn, nc, rfl, oN, bb⟩
   have HI1 := hid (HI0.out.next bb)
   have HN1 := hid (Own.lower oN (show w.heap.size + 1 + 1 ≤ W4.heap.size by have h1 := HI0.out.r3.lt; have h2 := HI0.out.z; omega))
   clear HW4 bb oN HI0 LC2
   generalize w3.heap.size = B at *
   go_wp2_with fail
   go_loopg [11] F (fun g now_ wr => ∃ (i on oc nn nc : Nat) (O N : Option Addr) (L : List St) (x : List Int), now_ = .slice N nn nc ∧ i + g = F ∧ Gone d.1 d.2 s F t i L x ∧ Wb w 45 (.slice A n cs) (.slice V q cv) B X O xn xc on oc t L wr ∧ Own wr (w.heap.size + 1 + 1) (.slice N nn nc) x)
   case atStart => exact ⟨0, 0, 0, _, _, _, _, _, _, rfl, by omega, gone_zero HR.out.1, HI1.out, HN1.out⟩
   case round =>
    clear HI1 HN1
    obtain ⟨i, on, oc, nn, nc, O, N, L, x, rfl, hig, G, J, hN⟩ := hrel
    have HI := hid hig
    have HG := hid G
    have hon : on = i := by rw [← G.2.1, J.o.1]
    subst hon
    have hx60 : x.length ≤ 60 := (term_len (right_parts G.2.2.2.1).2).2
    have hx2 : sz sI x ≤ 1048576 := by rw [sz_ints]; omega
    have K0 : wr.cell? ⟨w.heap.size, 0, none⟩ = some (.slice A n cs) := J.r0.cell 0
    have K1 : wr.cell? ⟨w.heap.size, 1, none⟩ = some (.slice V q cv) := J.r0.cell 1
    have K2 : wr.cell? ⟨B, 0, none⟩ = some (.slice X xn xc) := J.r3.cell 0
    have K3 : wr.cell? ⟨B, 1, none⟩ = some (.slice O on oc) := J.r3.cell 1
    have HJ := hid J
    have HNR := hid hN
    have HX2 := hid hx2
    clear J hN hig G hx2
    by_cases hlt : on < F
    ·have h1 : (on : Int) < (F : Int) := by omega
     have LK1 := hid (LK.out wr HJ.out.b _ x (rd_own HNR.out) HX2.out)
     rw [pickO_yes HG.out.2.2.2.1 HR.out.2] at LK1
     cases hp : pickL d.1 d.2 x s with
     | none =>
      have HP := hid (gone_none HG.out hp)
      rw [hp] at LK1
      clear hp LK LS
      go_wp2_with fail
      refine LK1.out.mono ?_
      rintro e w6 ⟨he, bb⟩
      have he : e = .returned (.tuple #[.int .i64 0, .int .i64 0, .bool false]) := he
      subst he
      have HJ2 := hid (HJ.out.next bb)
      have HN2 := hid (HNR.out.next bb)
      clear K0 K1 K2 K3 bb HJ HNR LK1
      go_upto_region 12 with fail
      have HZ := hid (by_done HP.out HG.out.2.2.1 HB.out)
      have c0 : w6.cell? ⟨w.heap.size, 0, none⟩ = some (.slice A n cs) := HJ2.out.r0.cell 0
      have c1 : w6.cell? ⟨w.heap.size, 1, none⟩ = some (.slice V q cv) := HJ2.out.r0.cell 1
      have c2 : w6.cell? ⟨B, 0, none⟩ = some (.slice X xn xc) := HJ2.out.r3.cell 0
      have c3 : w6.cell? ⟨B, 1, none⟩ = some (.slice O on oc) := HJ2.out.r3.cell 1
      have zS : w.heap.size < w6.drew.heap.size := show w.heap.size < w6.heap.size from HJ2.out.r0.lt
      have zB : B < w6.drew.heap.size := show B < w6.heap.size from HJ2.out.r3.lt
      have LN1 := hid (LN.out w6.drew (next_trans HJ2.out.b (drew_below w6)) _ x (rd_own (HN2.out.next (drew_below w6))) HX2.out)
      have HBD := hid (drew_below w6)
      clear LN HN2
      refine AnyT.start (S := (fun w' => w'.cell? ⟨w.heap.size, 0, none⟩ = some (.slice A n cs) ∧ w'.cell? ⟨w.heap.size, 1, none⟩ = some (.slice V q cv) ∧ w'.cell? ⟨B, 0, none⟩ = some (.slice X xn xc) ∧ w'.cell? ⟨B, 1, none⟩ = some (.slice O on oc))) (fun _ => false) (by kernel_rfl) ⟨c0, c1, c2, c3⟩ (fun hHeld => ?_)
      refine AnyT.take (i := 0) (v := ?_) rfl (by kernel_rfl) (by kernel_rfl) (by kernel_rfl) (by kernel_rfl) (fun _ _ _ h => h) (Or.inl ⟨by rfl, ?_⟩) (by assumption) ?_
      rotate_left 1
      ·(intro w0 hSw; (try dsimp only at hSw); go_simp; try with_reducible rfl)
      try simp only [Act.put, setIfInBounds_toArray, set_cons_zero, set_cons_succ, getElem_toArray, getElem_cons_zero, getElem_cons_succ]
      refine AnyT.take (i := 1) (v := ?_) rfl (by kernel_rfl) (by kernel_rfl) (by kernel_rfl) (by kernel_rfl) (fun _ _ _ h => h) (Or.inl ⟨by rfl, ?_⟩) (by assumption) ?_
      rotate_left 1
      ·(intro w0 hSw; (try dsimp only at hSw); go_simp; try with_reducible rfl)
      try simp only [Act.put, setIfInBounds_toArray, set_cons_zero, set_cons_succ, getElem_toArray, getElem_cons_zero, getElem_cons_succ]
      refine AnyT.takeA (i := 2) (v := ?_) rfl (by kernel_rfl) (by kernel_rfl) (by kernel_rfl) (fun _ _ _ h => h) (Or.inl ⟨by rfl, ?_⟩) ?_
      rotate_left 1
      ·(intro w0 _; go_simp; try with_reducible rfl)
      try simp only [Act.put, setIfInBounds_toArray, set_cons_zero, set_cons_succ, getElem_toArray, getElem_cons_zero, getElem_cons_succ]
      refine AnyT.call (i := 3) (by kernel_rfl) rfl (fun K hK => ?_)
      try simp only [Act.put, setIfInBounds_toArray, set_cons_zero, set_cons_succ, getElem_toArray, getElem_cons_zero, getElem_cons_succ]
      rw [if_pos (by rfl)]
      go_simp
      (go_at_call 60; refine LN1.out.mono ?_; rintro e w9 ⟨rfl, bb9⟩; have e0 : w9.cell? ⟨w.heap.size, 0, none⟩ = some (.slice A n cs) := (bb9.cell (p := ⟨w.heap.size, 0, none⟩) zS).trans c0; have e1 : w9.cell? ⟨w.heap.size, 1, none⟩ = some (.slice V q cv) := (bb9.cell (p := ⟨w.heap.size, 1, none⟩) zS).trans c1; have e2 : w9.cell? ⟨B, 0, none⟩ = some (.slice X xn xc) := (bb9.cell (p := ⟨B, 0, none⟩) zB).trans c2; have e3 : w9.cell? ⟨B, 1, none⟩ = some (.slice O on oc) := (bb9.cell (p := ⟨B, 1, none⟩) zB).trans c3; go_wp2_with fail)
      refine hK.out _ _ (fun _ _ => ?_) (fun hKeep => ?_)
      ·exact ⟨e0, e1, e2, e3⟩
      replace hHeld := hKeep (by first | rfl | trivial) hHeld
      clear hK K hKeep
      try simp only [Act.put, setIfInBounds_toArray, set_cons_zero, set_cons_succ, getElem_toArray, getElem_cons_zero, getElem_cons_succ]
      have hb9 := HBD.out.trans bb9
      have r9 := HJ2.out.r1.next hb9
      have g0 := r9.free 0
      have g1 := r9.free 1
      have y0 : w9.cell? ⟨w.heap.size + 1, 0, none⟩ = some (.slice none 0 0) := r9.cell 0
      have y1 : w9.cell? ⟨w.heap.size + 1, 1, none⟩ = some (.slice none 0 0) := r9.cell 1
      have ra := r9.put 0 (.slice X xn xc)
      have y2 : (w9.setCell ⟨w.heap.size + 1, 0, none⟩ (.slice X xn xc)).cell? ⟨w.heap.size + 1, 1, none⟩ = some (.slice none 0 0) := ra.cell 1
      have g2 := ra.free 1
      have rb := ra.put 1 (.slice O on oc)
      have u0 : ((w9.setCell ⟨w.heap.size + 1, 0, none⟩ (.slice X xn xc)).setCell ⟨w.heap.size + 1, 1, none⟩ (.slice O on oc)).cell? ⟨w.heap.size + 1, 0, none⟩ = some (.slice X xn xc) := rb.cell 0
      have u1 : ((w9.setCell ⟨w.heap.size + 1, 0, none⟩ (.slice X xn xc)).setCell ⟨w.heap.size + 1, 1, none⟩ (.slice O on oc)).cell? ⟨w.heap.size + 1, 1, none⟩ = some (.slice O on oc) := rb.cell 1
      have j9 := HJ2.out.next hb9
      have a0 := (j9.r0.far (show w.heap.size ≠ w.heap.size + 1 by omega) (p := ⟨w.heap.size + 1, 0, none⟩) (.slice X xn xc)).far (show w.heap.size ≠ w.heap.size + 1 by omega) (p := ⟨w.heap.size + 1, 1, none⟩) (.slice O on oc)
      have a3 := (j9.r3.far (show B ≠ w.heap.size + 1 by have := j9.z; omega) (p := ⟨w.heap.size + 1, 0, none⟩) (.slice X xn xc)).far (show B ≠ w.heap.size + 1 by have := j9.z; omega) (p := ⟨w.heap.size + 1, 1, none⟩) (.slice O on oc)
      have FZ : AnsWalk w (byW d.1 d.2 t s (F : Int)) (byD d.1 d.2 t s (F : Int)) (.returned (.tuple #[.agg #[.slice X xn xc, .slice O on oc], .bool (normalB d.1 d.2 x)])) ((w9.setCell ⟨w.heap.size + 1, 0, none⟩ (.slice X xn xc)).setCell ⟨w.heap.size + 1, 1, none⟩ (.slice O on oc)) := by
       rw [← HZ.out.2]
       exact ansWalk_yes (b := byD d.1 d.2 t s (F : Int)) HJ2.out HZ.out.1 hb9
      have HFZ := hid FZ
      have HA0 := hid a0
      have HA3 := hid a3
      clear FZ ra rb r9 hb9 bb9 j9 a0 a3
      refine AnyT.call (i := 4) (by kernel_rfl) rfl (fun K hK => ?_)
      try simp only [Act.put, setIfInBounds_toArray, set_cons_zero, set_cons_succ, getElem_toArray, getElem_cons_zero, getElem_cons_succ]
      rw [if_pos (by rfl)]
      go_simp
      refine hK.out _ _ (fun _ _ => ?_) (fun hKeep => ?_)
      ·exact ⟨HA0.out.cell 0, HA0.out.cell 1, HA3.out.cell 0, HA3.out.cell 1⟩
      replace hHeld := hKeep (by first | rfl | trivial) hHeld
      clear hK K hKeep
      try simp only [Act.put, setIfInBounds_toArray, set_cons_zero, set_cons_succ, getElem_toArray, getElem_cons_zero, getElem_cons_succ]
      refine AnyT.takeA (i := 5) (v := ?_) rfl (by kernel_rfl) (by kernel_rfl) (by kernel_rfl) (fun _ _ _ h => h) (Or.inl ⟨by rfl, ?_⟩) ?_
      rotate_left 1
      ·(intro w0 _; go_simp; try with_reducible rfl)
      try simp only [Act.put, setIfInBounds_toArray, set_cons_zero, set_cons_succ, getElem_toArray, getElem_cons_zero, getElem_cons_succ]
      refine AnyT.done (by kernel_rfl) ?_ _
      go_wp2
      exact bodyPost_ret (v := .tuple #[.agg #[.slice X xn xc, .slice O on oc], .bool (normalB d.1 d.2 x)]) (by simp [results, Tryz.results20, go_sem, u0, u1]) rfl HFZ.out
     | some p =>
      obtain ⟨pa, pk, rfl, hpa, hpk, hred, -, hst⟩ := pick_step HG.out.2.2.2.1 hp
      have LS1 := hid (fun (w1 : World) (bb : Below wr.heap.size wr w1) => LS.out w1 (next_trans HJ.out.b bb) _ x (rd_own (HNR.out.next bb)) HG.out.2.2.2.1 pa pk hpa hpk)
      have HP := hid hp
      rw [hp] at LK1
      have LK2 := hid (show Calls Tryz.prog 58 #[.agg #[.slice A n cs, .slice V q cv], .slice N nn nc, .int .i64 s] wr (fun e w' => e = .returned (.tuple #[.int .i64 (pa : Int), .int .i64 (pk : Int), .bool true]) ∧ Below wr.heap.size wr w') from LK1.out)
      have HST := hid hst
      obtain ⟨so, hso⟩ : ∃ so, stepO d.1 (d.2.getD pk ([], [])) x pa = so := ⟨_, rfl⟩
      rw [hso] at LS1 HST
      have HSO := hid hso
      clear hp LK LS LK1 hst hso hred
      cases so with
      | none =>
       have HQ := hid (gone_stop HG.out HP.out HST.out)
       go_wp2_with fail
       refine LK2.out.mono ?_
       rintro e w6 ⟨rfl, bb⟩
       have HJ2 := hid (HJ.out.next bb)
       have LS2 := hid (LS1.out w6 bb)
       have HN2 := hid (HNR.out.next bb)
       have k0 : w6.cell? ⟨w.heap.size, 0, none⟩ = some (.slice A n cs) := HJ2.out.r0.cell 0
       have k1 : w6.cell? ⟨w.heap.size, 1, none⟩ = some (.slice V q cv) := HJ2.out.r0.cell 1
       clear K0 K1 K2 K3 bb HJ HNR LK2 LS1
       go_wp2_with fail
       refine LS2.out.mono ?_
       rintro e w7 ⟨Y, yn, yc, he, oY, bb⟩
       have he : e = .returned (.tuple #[.slice Y yn yc, .bool false]) := he
       subst he
       have HJ3 := hid (HJ2.out.next bb)
       have HN3 := hid (HN2.out.next bb)
       clear k0 k1 bb HJ2 HN2 LS2 oY
       go_upto_region 12 with fail
       have HZ := hid (by_done HQ.out HG.out.2.2.1 HB.out)
       have c0 : w7.cell? ⟨w.heap.size, 0, none⟩ = some (.slice A n cs) := HJ3.out.r0.cell 0
       have c1 : w7.cell? ⟨w.heap.size, 1, none⟩ = some (.slice V q cv) := HJ3.out.r0.cell 1
       have c2 : w7.cell? ⟨B, 0, none⟩ = some (.slice X xn xc) := HJ3.out.r3.cell 0
       have c3 : w7.cell? ⟨B, 1, none⟩ = some (.slice O on oc) := HJ3.out.r3.cell 1
       have zS : w.heap.size < w7.drew.heap.size := show w.heap.size < w7.heap.size from HJ3.out.r0.lt
       have zB : B < w7.drew.heap.size := show B < w7.heap.size from HJ3.out.r3.lt
       have LN1 := hid (LN.out w7.drew (next_trans HJ3.out.b (drew_below w7)) _ x (rd_own (HN3.out.next (drew_below w7))) HX2.out)
       have HBD := hid (drew_below w7)
       clear LN HN3
       refine AnyT.start (S := (fun w' => w'.cell? ⟨w.heap.size, 0, none⟩ = some (.slice A n cs) ∧ w'.cell? ⟨w.heap.size, 1, none⟩ = some (.slice V q cv) ∧ w'.cell? ⟨B, 0, none⟩ = some (.slice X xn xc) ∧ w'.cell? ⟨B, 1, none⟩ = some (.slice O on oc))) (fun _ => false) (by kernel_rfl) ⟨c0, c1, c2, c3⟩ (fun hHeld => ?_)
       refine AnyT.take (i := 0) (v := ?_) rfl (by kernel_rfl) (by kernel_rfl) (by kernel_rfl) (by kernel_rfl) (fun _ _ _ h => h) (Or.inl ⟨by rfl, ?_⟩) (by assumption) ?_
       rotate_left 1
       ·(intro w0 hSw; (try dsimp only at hSw); go_simp; try with_reducible rfl)
       try simp only [Act.put, setIfInBounds_toArray, set_cons_zero, set_cons_succ, getElem_toArray, getElem_cons_zero, getElem_cons_succ]
       refine AnyT.take (i := 1) (v := ?_) rfl (by kernel_rfl) (by kernel_rfl) (by kernel_rfl) (by kernel_rfl) (fun _ _ _ h => h) (Or.inl ⟨by rfl, ?_⟩) (by assumption) ?_
       rotate_left 1
       ·(intro w0 hSw; (try dsimp only at hSw); go_simp; try with_reducible rfl)
       try simp only [Act.put, setIfInBounds_toArray, set_cons_zero, set_cons_succ, getElem_toArray, getElem_cons_zero, getElem_cons_succ]
       refine AnyT.takeA (i := 2) (v := ?_) rfl (by kernel_rfl) (by kernel_rfl) (by kernel_rfl) (fun _ _ _ h => h) (Or.inl ⟨by rfl, ?_⟩) ?_
       rotate_left 1
       ·(intro w0 _; go_simp; try with_reducible rfl)
       try simp only [Act.put, setIfInBounds_toArray, set_cons_zero, set_cons_succ, getElem_toArray, getElem_cons_zero, getElem_cons_succ]
       refine AnyT.call (i := 3) (by kernel_rfl) rfl (fun K hK => ?_)
       try simp only [Act.put, setIfInBounds_toArray, set_cons_zero, set_cons_succ, getElem_toArray, getElem_cons_zero, getElem_cons_succ]
       rw [if_pos (by rfl)]
       go_simp
       (go_at_call 60; refine LN1.out.mono ?_; rintro e w9 ⟨rfl, bb9⟩; have e0 : w9.cell? ⟨w.heap.size, 0, none⟩ = some (.slice A n cs) := (bb9.cell (p := ⟨w.heap.size, 0, none⟩) zS).trans c0; have e1 : w9.cell? ⟨w.heap.size, 1, none⟩ = some (.slice V q cv) := (bb9.cell (p := ⟨w.heap.size, 1, none⟩) zS).trans c1; have e2 : w9.cell? ⟨B, 0, none⟩ = some (.slice X xn xc) := (bb9.cell (p := ⟨B, 0, none⟩) zB).trans c2; have e3 : w9.cell? ⟨B, 1, none⟩ = some (.slice O on oc) := (bb9.cell (p := ⟨B, 1, none⟩) zB).trans c3; go_wp2_with fail)
       refine hK.out _ _ (fun _ _ => ?_) (fun hKeep => ?_)
       ·exact ⟨e0, e1, e2, e3⟩
       replace hHeld := hKeep (by first | rfl | trivial) hHeld
       clear hK K hKeep
       try simp only [Act.put, setIfInBounds_toArray, set_cons_zero, set_cons_succ, getElem_toArray, getElem_cons_zero, getElem_cons_succ]
       have hb9 := HBD.out.trans bb9
       have r9 := HJ3.out.r1.next hb9
       have g0 := r9.free 0
       have g1 := r9.free 1
       have y0 : w9.cell? ⟨w.heap.size + 1, 0, none⟩ = some (.slice none 0 0) := r9.cell 0
       have y1 : w9.cell? ⟨w.heap.size + 1, 1, none⟩ = some (.slice none 0 0) := r9.cell 1
       have ra := r9.put 0 (.slice X xn xc)
       have y2 : (w9.setCell ⟨w.heap.size + 1, 0, none⟩ (.slice X xn xc)).cell? ⟨w.heap.size + 1, 1, none⟩ = some (.slice none 0 0) := ra.cell 1
       have g2 := ra.free 1
       have rb := ra.put 1 (.slice O on oc)
       have u0 : ((w9.setCell ⟨w.heap.size + 1, 0, none⟩ (.slice X xn xc)).setCell ⟨w.heap.size + 1, 1, none⟩ (.slice O on oc)).cell? ⟨w.heap.size + 1, 0, none⟩ = some (.slice X xn xc) := rb.cell 0
       have u1 : ((w9.setCell ⟨w.heap.size + 1, 0, none⟩ (.slice X xn xc)).setCell ⟨w.heap.size + 1, 1, none⟩ (.slice O on oc)).cell? ⟨w.heap.size + 1, 1, none⟩ = some (.slice O on oc) := rb.cell 1
       have j9 := HJ3.out.next hb9
       have a0 := (j9.r0.far (show w.heap.size ≠ w.heap.size + 1 by omega) (p := ⟨w.heap.size + 1, 0, none⟩) (.slice X xn xc)).far (show w.heap.size ≠ w.heap.size + 1 by omega) (p := ⟨w.heap.size + 1, 1, none⟩) (.slice O on oc)
       have a3 := (j9.r3.far (show B ≠ w.heap.size + 1 by have := j9.z; omega) (p := ⟨w.heap.size + 1, 0, none⟩) (.slice X xn xc)).far (show B ≠ w.heap.size + 1 by have := j9.z; omega) (p := ⟨w.heap.size + 1, 1, none⟩) (.slice O on oc)
       have FZ : AnsWalk w (byW d.1 d.2 t s (F : Int)) (byD d.1 d.2 t s (F : Int)) (.returned (.tuple #[.agg #[.slice X xn xc, .slice O on oc], .bool (normalB d.1 d.2 x)])) ((w9.setCell ⟨w.heap.size + 1, 0, none⟩ (.slice X xn xc)).setCell ⟨w.heap.size + 1, 1, none⟩ (.slice O on oc)) := by
        rw [← HZ.out.2]
        exact ansWalk_yes (b := byD d.1 d.2 t s (F : Int)) HJ3.out HZ.out.1 hb9
       have HFZ := hid FZ
       have HA0 := hid a0
       have HA3 := hid a3
       clear FZ ra rb r9 hb9 bb9 j9 a0 a3
       refine AnyT.call (i := 4) (by kernel_rfl) rfl (fun K hK => ?_)
       try simp only [Act.put, setIfInBounds_toArray, set_cons_zero, set_cons_succ, getElem_toArray, getElem_cons_zero, getElem_cons_succ]
       rw [if_pos (by rfl)]
       go_simp
       refine hK.out _ _ (fun _ _ => ?_) (fun hKeep => ?_)
       ·exact ⟨HA0.out.cell 0, HA0.out.cell 1, HA3.out.cell 0, HA3.out.cell 1⟩
       replace hHeld := hKeep (by first | rfl | trivial) hHeld
       clear hK K hKeep
       try simp only [Act.put, setIfInBounds_toArray, set_cons_zero, set_cons_succ, getElem_toArray, getElem_cons_zero, getElem_cons_succ]
       refine AnyT.takeA (i := 5) (v := ?_) rfl (by kernel_rfl) (by kernel_rfl) (by kernel_rfl) (fun _ _ _ h => h) (Or.inl ⟨by rfl, ?_⟩) ?_
       rotate_left 1
       ·(intro w0 _; go_simp; try with_reducible rfl)
       try simp only [Act.put, setIfInBounds_toArray, set_cons_zero, set_cons_succ, getElem_toArray, getElem_cons_zero, getElem_cons_succ]
       refine AnyT.done (by kernel_rfl) ?_ _
       go_wp2
       exact bodyPost_ret (v := .tuple #[.agg #[.slice X xn xc, .slice O on oc], .bool (normalB d.1 d.2 x)]) (by simp [results, Tryz.results20, go_sem, u0, u1]) rfl HFZ.out
      | some y =>
       have HG2 := hid (gone_step HG.out hlt HP.out HST.out)
       have HL60 : L.length ≤ 60 := by rw [HG.out.2.1]; omega
       go_wp2_with fail
       refine LK2.out.mono ?_
       rintro e w6 ⟨rfl, bb⟩
       have HJ2 := hid (HJ.out.next bb)
       have LS2 := hid (LS1.out w6 bb)
       have k0 : w6.cell? ⟨w.heap.size, 0, none⟩ = some (.slice A n cs) := HJ2.out.r0.cell 0
       have k1 : w6.cell? ⟨w.heap.size, 1, none⟩ = some (.slice V q cv) := HJ2.out.r0.cell 1
       clear K0 K1 K2 K3 bb HJ HNR LK2 LS1
       go_wp2_with fail
       refine LS2.out.mono ?_
       rintro e w7 ⟨Y, yn, yc, he, oY, bb⟩
       have he : e = .returned (.tuple #[.slice Y yn yc, .bool true]) := he
       subst he
       have oY : Own w7 w6.heap.size (.slice Y yn yc) y := oY
       have J3 := HJ2.out.next bb
       have c3 : w7.cell? ⟨B, 1, none⟩ = some (.slice O on oc) := J3.r3.cell 1
       have zB : B + 1 ≤ w6.heap.size := HJ2.out.r3.lt
       have b3 : Below w7.heap.size w7 (w7.alloc (.cells #[.int .i64 (pa : Int), .int .i64 (pk : Int), .slice Y yn yc] 71)) := (Below.refl _ _).alloc (Nat.le_refl _) _
       have z2 := bb.size
       have HAPP := hid (show OwnL (w7.alloc (.cells #[.int .i64 (pa : Int), .int .i64 (pk : Int), .slice Y yn yc] 71)) (B + 1) w6.heap.size 71 sStep O on oc L ∧ OwnL (w7.alloc (.cells #[.int .i64 (pa : Int), .int .i64 (pk : Int), .slice Y yn yc] 71)) w6.heap.size (w7.heap.size + 1) 71 sStep (some ⟨w7.heap.size, 0, none⟩) 1 1 [((pa : Int), (pk : Int), y)] from
        ⟨(HJ2.out.o.next bb).next b3, OwnL.single (e := 71) (s := sStep) (Row.new w7 71 #[.int .i64 (pa : Int), .int .i64 (pk : Int), .slice Y yn yc]) ((owned_step oY (pa : Int) (pk : Int)).next b3) (Nat.le_refl _) z2⟩)
       have HBY := hid (show ∀ k, blk O = some k → k < w6.heap.size from fun k e => (HJ2.out.o.ge k e).2)
       have HJ3 := hid J3
       have HOY := hid (oY.next b3)
       have HYG := hid (show ∀ k, blk Y = some k → w6.heap.size ≤ k from fun k e => (ownLt oY k e).1)
       have r3 := J3.r3.next b3
       have HR3 := hid r3
       clear k0 k1 bb HJ2 LS2 oY b3 J3 r3
       go_wp2_with (at_builtin; refine appLm rfl _ _ 37 71 sStep _ _ Tryz.underlying37 info_StepS rfl (by decide) rfl (B + 1) w6.heap.size w6.heap.size (w7.heap.size + 1) O on oc w7.heap.size 1 1 _ _ rfl HAPP.out.1 rfl HAPP.out.2 (Nat.le_refl _) zB (by omega) (by omega) (by simp; omega) ?_; intro A4 oc' w4 oL4 hg4 hat4 b4 hf4; obtain ⟨O', rfl⟩ := hf4 (.inr (by omega)); have rB4 := HR3.out.below b4 (show B < B + 1 by omega); have y1 : w4.cell? ⟨B, 1, none⟩ = some (.slice O on oc) := rB4.cell 1; have g1 := rB4.free 1; refine (?_ : Hid _).out)
       have HJ5 := hid (HJ3.out.app oL4 hg4)
       have oY4 : Own w4 w6.heap.size (.slice Y yn yc) y := Go.Proofs.YtblhmplpcdcejaaGreat.appAt.Own.kept HOY.out hg4 (by
        cases hY : blk Y with
        | none => exact .inl rfl
        | some k => exact .inr fun e => by have h1 := HYG.out k hY; have h2 := HBY.out k e.symm; omega)
       have oY5 := (Ownd.of_own oY4).btw (w' := w4.setCell ⟨B, 1, none⟩ (.slice (some ⟨O', 0, none⟩) (on + 1) oc')) (lo' := B) (hi' := B + 1) ⟨rfl, rfl, rfl, by simp, fun k hk ho => Below.heap_setCell w4 _ _ k (by show k ≠ B; omega)⟩ (.inr (by omega))
       have hy60 : y.length ≤ 60 := (term_len (right_parts HG2.out.2.2.2.1).2).2
       have LC3 := hid (copyInts Y yn yc y _ (Own.seg oY5.1) (look.own_cap oY5.1).2.2 (by have := Own.len oY5.1; omega))
       clear oL4 hg4 hat4 b4 hf4 HAPP HJ3 HOY HBY HYG HR3 rB4 oY4 oY5
       refine hid ?_
       go_wp2_with fail
       refine LC3.out.mono ?_
       rintro e w8 ⟨N2, nn2, nc2, rfl, oN, bb⟩
       have HJ6 := hid (HJ5.out.next bb)
       have HN6 := hid (Own.lower oN (show w.heap.size + 1 + 1 ≤ _ by have h1 := HJ5.out.r3.lt; have h2 := HJ5.out.z; omega))
       clear bb oN HJ5 LC3 y1 g1 c3
       go_wp2
       go_roundg (gk - 1)
       case measure => have := HI.out; omega
       case rel => exact ⟨on + 1, on + 1, oc', nn2, nc2, some ⟨O', 0, none⟩, N2, L ++ [((pa : Int), (pk : Int), y)], y, rfl, by have := HI.out; omega, HG2.out, HJ6.out, HN6.out⟩
    ·have HP := hid (gone_full HG.out hlt)
     have h1 : ¬ (on : Int) < (F : Int) := by omega
     clear LK LS
     go_upto_region 12 with fail
     have HJ2 := HJ
     have HN2 := HNR
     clear HJ HNR K0 K1 K2 K3
     have HZ := hid (by_done HP.out HG.out.2.2.1 HB.out)
     have c0 : wr.cell? ⟨w.heap.size, 0, none⟩ = some (.slice A n cs) := HJ2.out.r0.cell 0
     have c1 : wr.cell? ⟨w.heap.size, 1, none⟩ = some (.slice V q cv) := HJ2.out.r0.cell 1
     have c2 : wr.cell? ⟨B, 0, none⟩ = some (.slice X xn xc) := HJ2.out.r3.cell 0
     have c3 : wr.cell? ⟨B, 1, none⟩ = some (.slice O on oc) := HJ2.out.r3.cell 1
     have zS : w.heap.size < wr.drew.heap.size := show w.heap.size < wr.heap.size from HJ2.out.r0.lt
     have zB : B < wr.drew.heap.size := show B < wr.heap.size from HJ2.out.r3.lt
     have LN1 := hid (LN.out wr.drew (next_trans HJ2.out.b (drew_below wr)) _ x (rd_own (HN2.out.next (drew_below wr))) HX2.out)
     have HBD := hid (drew_below wr)
     clear LN HN2
     refine AnyT.start (S := (fun w' => w'.cell? ⟨w.heap.size, 0, none⟩ = some (.slice A n cs) ∧ w'.cell? ⟨w.heap.size, 1, none⟩ = some (.slice V q cv) ∧ w'.cell? ⟨B, 0, none⟩ = some (.slice X xn xc) ∧ w'.cell? ⟨B, 1, none⟩ = some (.slice O on oc))) (fun _ => false) (by kernel_rfl) ⟨c0, c1, c2, c3⟩ (fun hHeld => ?_)
     refine AnyT.take (i := 0) (v := ?_) rfl (by kernel_rfl) (by kernel_rfl) (by kernel_rfl) (by kernel_rfl) (fun _ _ _ h => h) (Or.inl ⟨by rfl, ?_⟩) (by assumption) ?_
     rotate_left 1
     ·(intro w0 hSw; (try dsimp only at hSw); go_simp; try with_reducible rfl)
     try simp only [Act.put, setIfInBounds_toArray, set_cons_zero, set_cons_succ, getElem_toArray, getElem_cons_zero, getElem_cons_succ]
     refine AnyT.take (i := 1) (v := ?_) rfl (by kernel_rfl) (by kernel_rfl) (by kernel_rfl) (by kernel_rfl) (fun _ _ _ h => h) (Or.inl ⟨by rfl, ?_⟩) (by assumption) ?_
     rotate_left 1
     ·(intro w0 hSw; (try dsimp only at hSw); go_simp; try with_reducible rfl)
     try simp only [Act.put, setIfInBounds_toArray, set_cons_zero, set_cons_succ, getElem_toArray, getElem_cons_zero, getElem_cons_succ]
     refine AnyT.takeA (i := 2) (v := ?_) rfl (by kernel_rfl) (by kernel_rfl) (by kernel_rfl) (fun _ _ _ h => h) (Or.inl ⟨by rfl, ?_⟩) ?_
     rotate_left 1
     ·(intro w0 _; go_simp; try with_reducible rfl)
     try simp only [Act.put, setIfInBounds_toArray, set_cons_zero, set_cons_succ, getElem_toArray, getElem_cons_zero, getElem_cons_succ]
     refine AnyT.call (i := 3) (by kernel_rfl) rfl (fun K hK => ?_)
     try simp only [Act.put, setIfInBounds_toArray, set_cons_zero, set_cons_succ, getElem_toArray, getElem_cons_zero, getElem_cons_succ]
     rw [if_pos (by rfl)]
     go_simp
     (go_at_call 60; refine LN1.out.mono ?_; rintro e w9 ⟨rfl, bb9⟩; have e0 : w9.cell? ⟨w.heap.size, 0, none⟩ = some (.slice A n cs) := (bb9.cell (p := ⟨w.heap.size, 0, none⟩) zS).trans c0; have e1 : w9.cell? ⟨w.heap.size, 1, none⟩ = some (.slice V q cv) := (bb9.cell (p := ⟨w.heap.size, 1, none⟩) zS).trans c1; have e2 : w9.cell? ⟨B, 0, none⟩ = some (.slice X xn xc) := (bb9.cell (p := ⟨B, 0, none⟩) zB).trans c2; have e3 : w9.cell? ⟨B, 1, none⟩ = some (.slice O on oc) := (bb9.cell (p := ⟨B, 1, none⟩) zB).trans c3; go_wp2_with fail)
     refine hK.out _ _ (fun _ _ => ?_) (fun hKeep => ?_)
     ·exact ⟨e0, e1, e2, e3⟩
     replace hHeld := hKeep (by first | rfl | trivial) hHeld
     clear hK K hKeep
     try simp only [Act.put, setIfInBounds_toArray, set_cons_zero, set_cons_succ, getElem_toArray, getElem_cons_zero, getElem_cons_succ]
     have hb9 := HBD.out.trans bb9
     have r9 := HJ2.out.r1.next hb9
     have g0 := r9.free 0
     have g1 := r9.free 1
     have y0 : w9.cell? ⟨w.heap.size + 1, 0, none⟩ = some (.slice none 0 0) := r9.cell 0
     have y1 : w9.cell? ⟨w.heap.size + 1, 1, none⟩ = some (.slice none 0 0) := r9.cell 1
     have ra := r9.put 0 (.slice X xn xc)
     have y2 : (w9.setCell ⟨w.heap.size + 1, 0, none⟩ (.slice X xn xc)).cell? ⟨w.heap.size + 1, 1, none⟩ = some (.slice none 0 0) := ra.cell 1
     have g2 := ra.free 1
     have rb := ra.put 1 (.slice O on oc)
     have u0 : ((w9.setCell ⟨w.heap.size + 1, 0, none⟩ (.slice X xn xc)).setCell ⟨w.heap.size + 1, 1, none⟩ (.slice O on oc)).cell? ⟨w.heap.size + 1, 0, none⟩ = some (.slice X xn xc) := rb.cell 0
     have u1 : ((w9.setCell ⟨w.heap.size + 1, 0, none⟩ (.slice X xn xc)).setCell ⟨w.heap.size + 1, 1, none⟩ (.slice O on oc)).cell? ⟨w.heap.size + 1, 1, none⟩ = some (.slice O on oc) := rb.cell 1
     have j9 := HJ2.out.next hb9
     have a0 := (j9.r0.far (show w.heap.size ≠ w.heap.size + 1 by omega) (p := ⟨w.heap.size + 1, 0, none⟩) (.slice X xn xc)).far (show w.heap.size ≠ w.heap.size + 1 by omega) (p := ⟨w.heap.size + 1, 1, none⟩) (.slice O on oc)
     have a3 := (j9.r3.far (show B ≠ w.heap.size + 1 by have := j9.z; omega) (p := ⟨w.heap.size + 1, 0, none⟩) (.slice X xn xc)).far (show B ≠ w.heap.size + 1 by have := j9.z; omega) (p := ⟨w.heap.size + 1, 1, none⟩) (.slice O on oc)
     have FZ : AnsWalk w (byW d.1 d.2 t s (F : Int)) (byD d.1 d.2 t s (F : Int)) (.returned (.tuple #[.agg #[.slice X xn xc, .slice O on oc], .bool (normalB d.1 d.2 x)])) ((w9.setCell ⟨w.heap.size + 1, 0, none⟩ (.slice X xn xc)).setCell ⟨w.heap.size + 1, 1, none⟩ (.slice O on oc)) := by
      rw [← HZ.out.2]
      exact ansWalk_yes (b := byD d.1 d.2 t s (F : Int)) HJ2.out HZ.out.1 hb9
     have HFZ := hid FZ
     have HA0 := hid a0
     have HA3 := hid a3
     clear FZ ra rb r9 hb9 bb9 j9 a0 a3
     refine AnyT.call (i := 4) (by kernel_rfl) rfl (fun K hK => ?_)
     try simp only [Act.put, setIfInBounds_toArray, set_cons_zero, set_cons_succ, getElem_toArray, getElem_cons_zero, getElem_cons_succ]
     rw [if_pos (by rfl)]
     go_simp
     refine hK.out _ _ (fun _ _ => ?_) (fun hKeep => ?_)
     ·exact ⟨HA0.out.cell 0, HA0.out.cell 1, HA3.out.cell 0, HA3.out.cell 1⟩
     replace hHeld := hKeep (by first | rfl | trivial) hHeld
     clear hK K hKeep
     try simp only [Act.put, setIfInBounds_toArray, set_cons_zero, set_cons_succ, getElem_toArray, getElem_cons_zero, getElem_cons_succ]
     refine AnyT.takeA (i := 5) (v := ?_) rfl (by kernel_rfl) (by kernel_rfl) (by kernel_rfl) (fun _ _ _ h => h) (Or.inl ⟨by rfl, ?_⟩) ?_
     rotate_left 1
     ·(intro w0 _; go_simp; try with_reducible rfl)
     try simp only [Act.put, setIfInBounds_toArray, set_cons_zero, set_cons_succ, getElem_toArray, getElem_cons_zero, getElem_cons_succ]
     refine AnyT.done (by kernel_rfl) ?_ _
     go_wp2
     exact bodyPost_ret (v := .tuple #[.agg #[.slice X xn xc, .slice O on oc], .bool (normalB d.1 d.2 x)]) (by simp [results, Tryz.results20, go_sem, u0, u1]) rfl HFZ.out
  ·have HB := hid (by_off (by_no2 (sg := d.1) (rs := d.2) (t := t) (s := s) (decide_eq_false hf : fuelB f = false)))
   have HIN := hid (fun w1 => inNo f 0 60 w1 hf)
   clear hf LC LK LS LN
   go_enter Tryz.func20, Tryz.ntmps20
   go_wp2_with fail
   rw [← HW.out]
   go_wp2_with fail
   refine LR.out.mono ?_
   rintro e w1 ⟨rfl, bb⟩
   replace r1 := r1.next bb
   replace bel := next_trans bel bb
   have LI := hid (HIN.out w1)
   clear bb K0 K1 LR HIN
   go_wp2_with fail
   refine LI.out.mono ?_
   rintro e w2 ⟨rfl, rfl⟩
   have y0 : w1.cell? ⟨w.heap.size + 1, 0, none⟩ = some (.slice none 0 0) := r1.cell 0
   have y1 : w1.cell? ⟨w.heap.size + 1, 1, none⟩ = some (.slice none 0 0) := r1.cell 1
   have g0 := r1.free 0
   have g1 := r1.free 1
   have ra := r1.put 0 (.slice none 0 0)
   have y2 : (w1.setCell ⟨w.heap.size + 1, 0, none⟩ (.slice none 0 0)).cell? ⟨w.heap.size + 1, 1, none⟩ = some (.slice none 0 0) := ra.cell 1
   have g2 := ra.free 1
   have rb := ra.put 1 (.slice none 0 0)
   have u0 : ((w1.setCell ⟨w.heap.size + 1, 0, none⟩ (.slice none 0 0)).setCell ⟨w.heap.size + 1, 1, none⟩ (.slice none 0 0)).cell? ⟨w.heap.size + 1, 0, none⟩ = some (.slice none 0 0) := rb.cell 0
   have u1 : ((w1.setCell ⟨w.heap.size + 1, 0, none⟩ (.slice none 0 0)).setCell ⟨w.heap.size + 1, 1, none⟩ (.slice none 0 0)).cell? ⟨w.heap.size + 1, 1, none⟩ = some (.slice none 0 0) := rb.cell 1
   have FZ : AnsWalk w (byW d.1 d.2 t s f) (byD d.1 d.2 t s f) (.returned (.tuple #[.agg #[.slice none 0 0, .slice none 0 0], .bool false])) ((w1.setCell ⟨w.heap.size + 1, 0, none⟩ (.slice none 0 0)).setCell ⟨w.heap.size + 1, 1, none⟩ (.slice none 0 0)) := ansWalk_no HB.out (((bel).setCell (show w.heap.size ≤ w.heap.size + 1 by omega) _).setCell (show w.heap.size ≤ w.heap.size + 1 by omega) _)
   have HFZ := hid FZ
   clear FZ ra rb bel r0 r1 LI
   go_wp2
   exact bodyPost_ret (v := .tuple #[.agg #[.slice none 0 0, .slice none 0 0], .bool false]) (by simp [results, Tryz.results20, go_sem, u0, u1]) rfl HFZ.out
end bySpec
end
section
namespace walkSpec
open Go.RowKit base ints sig term termOk endAt endOf marks app sym sub segs segsHelp kinds termFacts same shifted shape kindsR kindsW varsOf ruleMath ruleSpec stepMath walkMath stepSpec ownL heldT
set_option maxRecDepth 100000
section
variable {sg : List Int} {rs : List Rl} {k : Wk} {t : List Int} {x : Int}
end
structure Wi (w : World) (a v f s : Value) (B : Nat) (X O : Option Addr) (xn xc on oc : Nat) (fr : List Int) (L : List St) (wr : World) : Prop where
 r0 : Row wr w.heap.size 45 #[a, v]
 r1 : Row wr (w.heap.size + 1) 39 #[f, s]
 r2 : Row wr (w.heap.size + 1 + 1) 39 #[.slice none 0 0, .slice none 0 0]
 r3 : Row wr B 39 #[.slice X xn xc, .slice O on oc]
 x : Ownd wr (w.heap.size + 1 + 1 + 1) B X xn xc fr
 o : OwnL wr (B + 1) wr.heap.size 71 sStep O on oc L
 b : Below w.heap.size w wr
 z : w.heap.size + 1 + 1 + 1 ≤ B
theorem Wi.next {w wr w' : World} {a v f s : Value} {B : Nat} {X O : Option Addr} {xn xc on oc : Nat} {fr : List Int} {L : List St} (h : Wi w a v f s B X O xn xc on oc fr L wr) (hb : Below wr.heap.size wr w') : Wi w a v f s B X O xn xc on oc fr L w' :=
 ⟨h.r0.next hb, h.r1.next hb, h.r2.next hb, h.r3.next hb, h.x.next hb, (h.o.next hb).wider (Nat.le_refl _) hb.size, next_trans h.b hb, h.z⟩
end walkSpec
end
section
namespace walkX
open Go.RowKit base sig term termOk termFacts segs shape kindsR kindsW ruleMath stepMath walkMath walkSpec
theorem steps_sz {L : List St} {C : Nat} (h : ∀ s ∈ L, s.2.2.length ≤ C) : sz sStepS L ≤ L.length * (C + 1) := by
 induction L with
 | nil => exact Nat.zero_le _
 | cons x r ih =>
  have h1 := ih (fun s hs => h s (List.mem_cons_of_mem _ hs))
  have h2 := h x (List.mem_cons_self ..)
  have e : sz sStepS (x :: r) = (r.length + 1) + ((0 + (0 + sz sI x.2.2)) + (r.map (sz sStep)).sum) := rfl
  have e2 : sz sStepS r = r.length + (r.map (sz sStep)).sum := rfl
  rw [e, sz_ints, List.length_cons, Nat.add_mul]
  rw [e2] at h1
  omega
theorem walk_sz {k : Wk} (h1 : k.1.length ≤ 60) (h2 : k.2.length ≤ 60) (h3 : ∀ s ∈ k.2, s.2.2.length ≤ 60) : sz sWalk k ≤ 1048576 := by
 show sz sI k.1 + sz sStepS k.2 ≤ 1048576
 have a := steps_sz h3
 have b : k.2.length * (60 + 1) ≤ 60 * 61 := Nat.mul_le_mul h2 (Nat.le_refl _)
 rw [sz_ints]
 omega
theorem zero_sz : sz sWalk (([], []) : List Int × List St) ≤ 1048576 := walk_sz (k := ([], [])) (by simp) (by simp) (fun s hs => by cases hs)
theorem walkB_sz {sg : List Int} {rs : List Rl} {k : Wk} (h : walkB sg rs k = true) : sz sWalk k ≤ 1048576 := by
 obtain ⟨-, q2, q3, q4⟩ := walk_parts h
 exact walk_sz (term_len q2).2 q3 (fun s hs => (term_len ((go_ok q2 q4).2 s hs)).2)
end walkX
end
section
namespace bySpec
open Go.RowKit base ints sig term termOk endAt endOf marks app sym sub segs segsHelp kinds termFacts same shifted shape drawX kindsR kindsW varsOf ruleMath ruleSpec stepMath walkMath stepSpec walkSpec walkX ownL heldT orderMath orderSpec
set_option maxRecDepth 100000
theorem byW_sz {sg : List Int} {rs : List Rl} {t : List Int} {s f : Int} : sz sWalk (byW sg rs t s f) ≤ 1048576 := by
 cases h : byB sg rs t s f with
 | true => exact walkB_sz (by_walk h)
 | false => rw [(by_off h).1]; exact zero_sz
end bySpec
end
section
namespace byX
open Go.RowKit base sig term marks app sym segs shape kindsR kindsW varsOf ruleMath ruleSpec stepMath walkMath stepSpec walkSpec orderMath orderSpec bySpec
theorem specWalkByX (a v u : Value) (d : Dat sSystem) (t : List Int) (s f : Int) (w : World) (h : Rd w w.heap.size sSystem [a, v] d) (ht : Rd w w.heap.size sI [u] t) (hz : sz sSystem d ≤ 1048576) (hz' : sz sI t ≤ 1048576) (_ : -9223372036854775808 ≤ s) (_ : s ≤ 9223372036854775807) (_ : -9223372036854775808 ≤ f) (_ : f ≤ 9223372036854775807) :
  Calls Tryz.prog 20 #[.agg #[a, v], u, .int .i64 s, .int .i64 f] w (AnsWalk w (byW d.1 d.2 t s f) (byD d.1 d.2 t s f)) := specWalkBy a v u d t s f w h ht hz hz'
end byX
end
section
namespace whole
open Go.RowKit base segs matchMath
set_option maxRecDepth 100000
def z24 : Array Value := Array.replicate 24 (.slice none 0 0)
theorem z24_size : z24.size = 24 := by simp [z24]
section
variable {w w' : World} {B B' g : Nat} {cs : Array Value} {s : List (List Int)} {t : TypeId}
def TabR (w : World) (B : Nat) (cs : Array Value) (s : List (List Int)) : Prop :=
 cs.size = 24 ∧ s.length = 24 ∧ ∀ j, j < 24 → ∃ A n c, cs[j]? = some (.slice A n c) ∧ Seg w B A n (s.getD j []) ∧ Cap A n c
theorem TabR.new (w : World) (B : Nat) : TabR w B z24 s0 :=
 ⟨z24_size, rfl, fun j hj => ⟨none, 0, 0, by simp [z24, hj], by rw [s0_get]; exact Seg.empty, ⟨Nat.le_refl _, by omega, fun _ => rfl⟩⟩⟩
theorem TabR.keep (h : TabR w B cs s) (hk : ∀ p : Addr, p.block < B → w'.cell? p = w.cell? p) : TabR w' B cs s :=
 ⟨h.1, h.2.1, fun j hj => by obtain ⟨A, n, c, e, hs, hc⟩ := h.2.2 j hj; exact ⟨A, n, c, e, hs.keep hk, hc⟩⟩
theorem TabR.more (h : TabR w B cs s) (hB : B ≤ B') : TabR w B' cs s :=
 ⟨h.1, h.2.1, fun j hj => by obtain ⟨A, n, c, e, hs, hc⟩ := h.2.2 j hj; exact ⟨A, n, c, e, hs.more hB, hc⟩⟩
theorem TabR.below (h : TabR w B cs s) (hb : Below B w w') : TabR w' B cs s := h.keep fun _ hp => hb.cell hp
theorem TabR.put (h : TabR w B cs s) {j : Nat} (hj : j < 24) {A : Option Addr} {n c : Nat} {ys : List Int} (hs : Seg w B A n ys) (hc : Cap A n c) : TabR w B (cs.setIfInBounds j (.slice A n c)) (s.set j ys) := by
 refine ⟨by rw [Array.size_setIfInBounds]; exact h.1, by rw [List.length_set]; exact h.2.1, fun i hi => ?_⟩
 by_cases e : j = i
 ·subst e
  exact ⟨A, n, c, by rw [Array.getElem?_setIfInBounds_self_of_lt (by rw [h.1]; exact hj)], by rw [set_get, if_pos ⟨rfl, by rw [h.2.1]; exact hj⟩]; exact hs, hc⟩
 ·obtain ⟨A', n', c', e', hs', hc'⟩ := h.2.2 i hi
  exact ⟨A', n', c', by rw [Array.getElem?_setIfInBounds_ne e]; exact e', by rw [set_get, if_neg (fun hh => e hh.1)]; exact hs', hc'⟩
theorem TabR.one (h : TabR w B cs s) : cs.all (·.oneCell') = true := by
 rw [Array.all_eq_true]
 intro i hi
 obtain ⟨A, n, c, e, _⟩ := h.2.2 i (by rw [← h.1]; exact hi)
 rw [Array.getElem?_eq_getElem hi] at e
 injection e with e
 rw [e]; rfl
theorem TabR.segs (h : TabR w B cs s) (hr : Row w g t cs) (hB : B ≤ w.heap.size) : Segs w w.heap.size (some ⟨g, 0, none⟩) 24 s := by
 refine ⟨h.2.1, fun _ => ⟨g, 0, rfl, hr.lt, fun j hj => ?_⟩⟩
 obtain ⟨A, n, c, e, hs, hc⟩ := h.2.2 j hj
 exact ⟨A, n, c, by rw [Nat.zero_add, hr.cell j, e], hs.more hB, hc⟩
end
end whole
end
section
namespace whole
open Go.RowKit base cursor marks app sym segs matchMath matchSpec
set_option maxRecDepth 100000
section
variable {P : Program} {ops : Array Oper} {rest : List Oper} {o : Oper} {a : Act} {w : World} {Q : Exit → Act → World → Prop}
theorem rowAlloc (hgd : o.guard = none) (t : TypeId) (ho : o.op = .alloc t) (z : Array Value) (hz : ∀ w, (zeroValue t).run P w = .ok (.agg z) w)
  (h : wpList P ops Q rest (a.put o.dst (.pointer (some ⟨w.heap.size, 0, none⟩))) (w.alloc (.cells z t))) : wpList P ops Q (o :: rest) a w :=
 wpList_plain hgd fun _ hK => by
  unfold Oper.wp execOp
  simp only [ho, Instr.alloc, Sem.run_bind, hz, Result.andThen_ok, newVar, Value.cells]
  exact hK _ _ h
theorem rowBox (hgd : o.guard = none) (t : TypeId) (x : Operand) (ho : o.op = .box t x) (z : Array Value) (hx : a.eval x = .agg z)
  (h : wpList P ops Q rest (a.put o.dst (.pointer (some ⟨w.heap.size, 0, none⟩))) (w.alloc (.cells z t))) : wpList P ops Q (o :: rest) a w :=
 wpList_plain hgd fun _ hK => by
  unfold Oper.wp execOp
  simp only [ho, hx, Instr.box, Sem.run_bind, Result.andThen_ok, newVar, Value.cells]
  exact hK _ _ h
theorem rowBuild (hgd : o.guard = none) (t : TypeId) (ho : o.op = .build t #[]) (z : Array Value) (hz : P.built t [] = some z)
  (h : wpList P ops Q rest (a.put o.dst (.agg z)) w) : wpList P ops Q (o :: rest) a w :=
 wpList_plain hgd fun _ hK => by
  refine wp_build t #[] ho (by simp [hz]) ?_
  simp only [List.map_toArray, List.map_nil, hz, Option.getD_some]
  exact hK _ _ h
theorem rowStore (hgd : o.guard = none) (ty : TypeId) (x y : Operand) (ho : o.op = .store ty x y) (g : Nat) (cells old : Array Value) (t : TypeId) (hx : a.eval x = .pointer (some ⟨g, 0, none⟩)) (hy : a.eval y = .agg cells)
  (hg : w.heap[g]? = some (.cells old t (0, 0))) (hi : (P.info? ty).map (·.size) = some cells.size) (hs : old.size = cells.size) (h1 : cells.all (·.oneCell') = true)
  (h : wpList P ops Q rest (a.put o.dst undef) (w.setRow g cells)) : wpList P ops Q (o :: rest) a w :=
 wpList_plain hgd fun _ hK => by
  unfold Oper.wp execOp
  simp only [ho, hx, hy, Instr.storeAt, Instr.sureAddr, Sem.run_bind, Sem.run_pure, Result.andThen_ok, run_storeVar_row w g t ty old cells hg hi hs h1]
  exact hK _ _ h
theorem results_row_tmp {fn : Func} {p u : Tmp} {ty : TypeId} (h : fn.results = #[.cell p ty, .tmp u]) (tmps : Array Value) (g : Nat) (t : TypeId) (cs : Array Value) (d : TypeDesc)
  (hp : tmps.getD p undef = .pointer (some ⟨g, 0, none⟩)) (hg : w.heap[g]? = some (.cells cs t (0, 0)))
  (hu : P.underlying ty = some d) (hd : (match d with | .struct _ | .array _ _ => true | _ => false) = true) (hi : (P.info? ty).map (·.size) = some cs.size) :
  (results fn tmps).run P w = .ok (.tuple #[.agg cs, tmps.getD u undef]) w := by
 rw [results_cell_tmp h, hp]
 simp [asAddr, Result.andThen, run_loadVar_row w g t ty cs (0, 0) d hg hu hd hi]
end
theorem z24_one : z24.all (·.oneCell') = true := by kernel_rfl
theorem info_b : (Tryz.prog.info? 145).map (fun i => (i.zero, i.size)) = some (some (.agg z24), 24) := by kernel_rfl
theorem zero_b : ∀ w, (zeroValue 145).run Tryz.prog w = .ok (.agg z24) w := by
 intro w
 cases hq : Tryz.prog.info? 145 with
 | none => have h := info_b; simp [hq] at h
 | some i => have h := info_b; simp [hq] at h; simp [zeroValue, typeInfo, hq, h.1]
theorem size_b : (Tryz.prog.info? 145).map (·.size) = some 24 := by kernel_rfl
theorem built_b : Tryz.prog.built 145 [] = some z24 := by kernel_rfl
section
variable {w w' : World} {B B' g : Nat} {cs : Array Value} {s : List (List Int)} {t : TypeId}
theorem Row.setRow (h : Row w g t cs) (c' : Array Value) : Row (w.setRow g c') g t c' := setRow_heap w g cs c' t (0, 0) h
theorem grown_setRow (w : World) (g : Nat) (c' : Array Value) : w.grownBy (w.setRow g c') (some g) :=
 ⟨rfl, rfl, rfl, by simp, fun k _ hk => setRow_other w g k c' (fun e => hk (by rw [e]))⟩
end
end whole
end
section
namespace takeMath
open sig term termOk termFacts endAt sub termMath fillMath posMath renMath matchMath
def Sync (sg p t : List Int) (i k : Nat) : Prop := ∃ q, scan sg q (p.drop i) = some (p.length - i) ∧ ∃ j, scan sg q (t.drop k) = some j
section
variable {sg p t : List Int} {i k : Nat} {x : Int}
theorem Sync.start (h1 : termOkB sg p = true) (h2 : termOkB sg t = true) (ha : k < t.length) : Sync sg p t 0 k :=
 ⟨1, by rw [List.drop_zero, Nat.sub_zero]; exact (term_parts h1).2.2, _, (term_at h2 ha).1⟩
theorem Sync.lt (h : Sync sg p t i k) (hi : i < p.length) : k < t.length := by
 obtain ⟨q, h1, j, h2⟩ := h
 cases q with
 | zero => rw [scan_zero] at h1; injection h1 with h1; omega
 | succ q =>
  have a := scan_pos h2
  have b := scan_le h2
  rw [List.length_drop] at b
  omega
theorem Sync.sym (h : Sync sg p t i k) (hi : i < p.length) (hx : p.getD i 0 = x) (hy : t.getD k 0 = x) : Sync sg p t (i + 1) (k + 1) := by
 have hk := h.lt hi
 obtain ⟨q, h1, j, h2⟩ := h
 rw [drop_cons hi, hx] at h1
 rw [drop_cons hk, hy] at h2
 cases q with
 | zero => rw [scan_zero] at h1; injection h1 with h1; omega
 | succ q =>
  by_cases hn : ar sg x < 0
  ·rw [scan_bad hn] at h1; cases h1
  ·rw [scan_step hn, Option.map_eq_some_iff] at h1 h2
   obtain ⟨a, e1, e2⟩ := h1
   obtain ⟨b, e3, e4⟩ := h2
   exact ⟨_, by rw [e1]; congr 1; omega, b, e3⟩
theorem Sync.var (h : Sync sg p t i k) (hi : i < p.length) (hx : p.getD i 0 = x) (h0 : -24 ≤ x) (h1 : x < 0) (hok : termOkB sg t = true) : Sync sg p t (i + 1) (k + (subL sg t k).length) := by
 have hk := h.lt hi
 have hl := (sub_len1 hok hk).1
 obtain ⟨q, h1, j, h2⟩ := h
 rw [drop_cons hi, hx] at h1
 cases q with
 | zero => rw [scan_zero] at h1; injection h1 with h1; omega
 | succ q =>
  have hz : ar sg x = 0 := ar_var (by omega)
  rw [scan_step (by omega), hz, Option.map_eq_some_iff] at h1
  obtain ⟨a, e1, e2⟩ := h1
  obtain ⟨j1, g1, _, _, g2⟩ := scan_first h2
  rw [hl, len1_eq g1]
  exact ⟨q, by rw [show p.length - (i + 1) = a by omega]; exact e1, _, g2⟩
end
theorem mst_at {sg p t : List Int} {k : Nat} (h1 : termOkB sg p = true) (h2 : termOkB sg t = true) (hk : k < t.length) : (mst sg t p k s0).isSome = instB sg p (subL sg t k) := by
 have hx : ∀ x ∈ p, -24 ≤ x := fun x hx => (term_mem h1 hx).1
 have hs := (sub_term h2 hk).1
 obtain ⟨_, e2, e3⟩ := sub_len1 h2 hk
 rw [Bool.eq_iff_iff, inst_iff h1 hs, Option.isSome_iff_exists]
 constructor
 ·rintro ⟨s', h⟩
  obtain ⟨⟨rest, e⟩, hv⟩ := mst_sound h2 h (by rfl) hx
  refine ⟨fun i => s'.getD i [], ?_, hv⟩
  have a := scan_append (r := rest) (scan_fill (L := fun i => s'.getD i []) (term_parts h1).2.2 hv)
  rw [← e] at a
  unfold subL
  rw [len1_eq a, e, List.take_left' rfl]
 ·rintro ⟨L, hL, hv⟩
  obtain ⟨s', m1, _⟩ := mst_full (sg := sg) (t := t) (L := L) (p := p) (k := k) (s := s0) (rest := t.drop (k + (subL sg t k).length)) (by rw [hL]; exact e2) (by rfl) hx hv (fun i hi => by rw [s0_get] at hi; exact absurd rfl hi)
  exact ⟨s', m1⟩
end takeMath
end
section
open Go.Lib (hid)
namespace take
open Go.RowKit base ints sig same term termOk endAt marks app sym sub segs termFacts termMath posMath cursor matchMath matchSpec whole takeMath curO
set_option maxRecDepth 100000
theorem set_same {s : List (List Int)} {v : Nat} {ys : List Int} (h : s.getD v [] = ys) (hv : v < s.length) : s.set v ys = s := by
 refine List.ext_getElem (by simp) fun i h1 h2 => ?_
 rw [List.getElem_set]
 split
 ·rename_i e
  subst e
  rw [← h]
  simp [List.getD, hv]
 ·rfl
structure Tk (w : World) (g : Nat) (A : Option Addr) (n c : Nat) (Q : Option Addr) (m mc : Nat) (sg t : List Int) (k : Nat) (s : List (List Int)) : Prop where
 row : Row w (g + 1) 138 #[.slice A n c, .slice Q m mc, .int .i64 k]
 tab : ∃ cs, Row w g 145 cs ∧ TabR w g cs s
 ss : Seg w g A n sg
 st : Seg w g Q m t
 le : k ≤ m
 hn : n ≤ 1048576
 hm : m ≤ 1048576
 ars : Arities sg
 hs : ∀ j, (s.getD j []).length ≤ m
section
variable {w w' : World} {g : Nat} {A : Option Addr} {n c : Nat} {Q : Option Addr} {m mc : Nat} {sg t : List Int} {k k' : Nat} {s : List (List Int)}
theorem Tk.cur (h : Tk w g A n c Q m mc sg t k s) : Cur w (g + 1) A n c Q m mc sg t k := ⟨h.row, h.ss.more (Nat.le_succ _), h.st.more (Nat.le_succ _), h.le, h.hn, h.hm, h.ars⟩
theorem Tk.lt (h : Tk w g A n c Q m mc sg t k s) : g + 1 < w.heap.size := h.row.lt
theorem keep_of {B : Nat} {r : Option Nat} (hg : w.grownBy w' r) (hB : B ≤ w.heap.size) (hr : ∀ k, r = some k → B ≤ k) : ∀ p : Addr, p.block < B → w'.cell? p = w.cell? p :=
 fun q hq => World.cell?_of_block (hg.block q.block (by omega) (fun e => by have := hr _ e.symm; omega))
theorem Tk.move (h : Tk w g A n c Q m mc sg t k s) (hg : w.grownBy w' (some (g + 1))) (hr : Row w' (g + 1) 138 #[.slice A n c, .slice Q m mc, .int .i64 k']) (hk : k' ≤ m) : Tk w' g A n c Q m mc sg t k' s := by
 have hl := h.lt
 have hk0 := keep_of (B := g) hg (by omega) (fun k e => by injection e; omega)
 obtain ⟨cs, h1, h2⟩ := h.tab
 refine ⟨hr, ⟨cs, (hg.block g (by omega) (fun e => by injection e; omega)).trans h1, h2.keep hk0⟩, h.ss.keep hk0, h.st.keep hk0, hk, h.hn, h.hm, h.ars, h.hs⟩
theorem Tk.drewN (h : Tk w g A n c Q m mc sg t k s) (d : Nat) : Tk (w.drewN d) g A n c Q m mc sg t k s := ⟨h.row, h.tab, h.ss, h.st, h.le, h.hn, h.hm, h.ars, h.hs⟩
theorem Tk.put (h : Tk w g A n c Q m mc sg t k s) {j : Nat} (hj : j < 24) {D : Option Addr} {dn dc : Nat} {ys : List Int} (hs : Seg w g D dn ys) (hc : Cap D dn dc) (hl : ys.length ≤ m) :
  Tk (w.setCell ⟨g, j, none⟩ (.slice D dn dc)) g A n c Q m mc sg t k (s.set j ys) := by
 have hlt := h.lt
 have hg : w.grownBy (w.setCell ⟨g, j, none⟩ (.slice D dn dc)) (some g) := grown_put (World.grownBy.refl _ _) _ _
 have hk0 := keep_of (B := g) hg (by omega) (fun k e => by injection e; omega)
 obtain ⟨cs, h1, h2⟩ := h.tab
 exact ⟨h.row.far (show g + 1 ≠ g by omega) _, ⟨_, h1.put j _, (h2.put hj hs hc).keep hk0⟩, h.ss.keep hk0, h.st.keep hk0, h.le, h.hn, h.hm, h.ars, fun i => by rw [set_get]; split; exact hl; exact h.hs i⟩
theorem Tk.held (h : Tk w g A n c Q m mc sg t k s) {j : Nat} (hj : j < 24) : ∃ D dn dc, w.cell? ⟨g, j, none⟩ = some (.slice D dn dc) ∧ Seg w g D dn (s.getD j []) ∧ w.frozen? ⟨g, j, none⟩ = false := by
 obtain ⟨cs, h1, h2⟩ := h.tab
 obtain ⟨D, dn, dc, e, hs, _⟩ := h2.2.2 j hj
 exact ⟨D, dn, dc, by rw [h1.cell j, e], hs, h1.free j⟩
theorem Tk.len (h : Tk w g A n c Q m mc sg t k s) : s.length = 24 := by obtain ⟨cs, h1, h2⟩ := h.tab; exact h2.2.1
end
theorem btw_drewN (lo hi : Nat) (w : World) (d : Nat) : Btw lo hi w (w.drewN d) := ⟨rfl, rfl, rfl, Nat.le_refl _, fun _ _ _ => rfl⟩
def AnsTake (w : World) (g : Nat) (A : Option Addr) (n c : Nat) (Q : Option Addr) (m mc : Nat) (sg t : List Int) (k : Nat) (s : List (List Int)) (x : Int) (e : Ending) (w' : World) : Prop :=
 Btw g (g + 2) w w' ∧ ((∃ k' s', e = .returned (.bool true) ∧ Tk w' g A n c Q m mc sg t k' s' ∧ ((0 ≤ x ∧ t.getD k 0 = x ∧ k' = k + 1) ∨ (x < 0 ∧ k' = k + (subL sg t k).length)) ∧ ∀ r, mst sg t (x :: r) k s = mst sg t r k' s') ∨
  (e = .returned (.bool false) ∧ ∀ r, mst sg t (x :: r) k s = none))
set_option maxHeartbeats 1000000 in
theorem take (g : Nat) (A Q : Option Addr) (n c m mc : Nat) (sg t : List Int) (k : Nat) (s : List (List Int)) (x : Int) (w : World) (h : Tk w g A n c Q m mc sg t k s) (hk : k < m) (hmc : m ≤ mc) (hmc2 : mc ≤ 9223372036854775807) (hx : -24 ≤ x) (hok : termOkB sg t = true) :
  Calls Tryz.prog 133 #[.pointer (some ⟨g, 0, none⟩), .int .i64 x, .pointer (some ⟨g + 1, 0, none⟩)] w (AnsTake w g A n c Q m mc sg t k s x) := by
 have HT := hid hok
 have HL := hid h.st.1
 have hkt : ¬ t.length ≤ k := by rw [HL.out]; omega
 have hm := h.hm
 have c1 : w.cell? ⟨g + 1, 1, none⟩ = some (.slice Q m mc) := h.row.cell 1
 have c2 : w.cell? ⟨g + 1, 2, none⟩ = some (.int .i64 k) := h.row.cell 2
 have f2 : w.frozen? ⟨g + 1, 2, none⟩ = false := h.row.free 2
 obtain ⟨b, off, y, rfl, hbb, hy, ey⟩ := h.st.spot hk
 have i0 : (0 : Int) ≤ (k : Int) := by omega
 have i1 : (k : Int) < (m : Int) := by omega
 clear hok
 by_cases hx0 : 0 ≤ x
 ·have g0 : w.grownBy (w.setCell ⟨g + 1, 2, none⟩ (.int .i64 ((k : Int) + 1))) (some (g + 1)) := grown_put (World.grownBy.refl _ _) _ _
  have r0 := h.row.put 2 (.int .i64 ((k : Int) + 1))
  have er : (.int .i64 ((k : Int) + 1) : Value) = .int .i64 ((k + 1 : Nat) : Int) := by simp
  have r1 := r0
  rw [er] at r1
  have M := hid (h.move (k' := k + 1) g0 (by rw [← er] at r1; rw [← er]; exact r0) hk)
  clear r0 r1 er
  have B := hid (Btw.of_grown (lo := g) (hi := g + 2) g0 (fun k e => by injection e; omega))
  have hy1 : (w.setCell ⟨g + 1, 2, none⟩ (.int .i64 ((k : Int) + 1))).cell? ⟨b, off + k, none⟩ = some (.int .i64 y) := (World.cell?_setCell_far w ⟨g + 1, 2, none⟩ ⟨b, off + k, none⟩ _ (by show g + 1 ≠ b; omega)).trans hy
  by_cases hxy : x = y
  ·subst hxy
   have F := fun d => (show AnsTake w g A n c (some ⟨b, off, none⟩) m mc sg t k s x (.returned (.bool true)) ((w.setCell ⟨g + 1, 2, none⟩ (.int .i64 ((k : Int) + 1))).drewN d) from
    ⟨B.out.trans (btw_drewN _ _ _ d), .inl ⟨k + 1, s, rfl, M.out.drewN d, .inl ⟨hx0, ey.out, rfl⟩, fun r => mst_sym hkt hx0 ey.out.symm⟩⟩)
   have HF := hid F
   clear F M B g0 h ey
   go_enter Tryz.func133, Tryz.ntmps133
   go_wp2
   go_quiet (fail)
   go_wp2
   go_ret
   exact HF.out _
  ·have hd : (y == x) = false := by simp; exact fun e => hxy e.symm
   have F := fun d => (show AnsTake w g A n c (some ⟨b, off, none⟩) m mc sg t k s x (.returned (.bool false)) ((w.setCell ⟨g + 1, 2, none⟩ (.int .i64 ((k : Int) + 1))).drewN d) from
    ⟨B.out.trans (btw_drewN _ _ _ d), .inr ⟨rfl, fun r => mst_symNo hkt hx0 (by rw [ey.out]; exact hxy)⟩⟩)
   have HF := hid F
   clear F M B g0 h ey
   go_enter Tryz.func133, Tryz.ntmps133
   go_wp2
   go_quiet (fail)
   go_wp2
   go_ret
   exact HF.out _
 ·obtain ⟨v, hv⟩ : ∃ v : Nat, x = -1 - (v : Int) := ⟨(-1 - x).toNat, by omega⟩
  subst hv
  have hv24 : v < 24 := by omega
  have HVR := hid (show vr (-1 - (v : Int)) = v by unfold vr; omega)
  obtain ⟨t1, t2, t3⟩ := term_at HT.out (show k < t.length by rw [HL.out]; exact hk)
  rw [HL.out] at t3
  obtain ⟨j, hj⟩ : ∃ j, len1 sg t k = j := ⟨_, rfl⟩
  have hsl := (sub_len1 HT.out (show k < t.length by rw [HL.out]; exact hk)).1
  have hsub : subL sg t k = (t.drop k).take j := by unfold subL; rw [hj]
  rw [hj] at t1 t2 t3 hsl
  obtain ⟨ys, hys⟩ : ∃ ys, subL sg t k = ys := ⟨_, rfl⟩
  rw [hys] at hsl hsub
  have HYS := hid hys
  have HSUB := hid hsub
  have HSL := hid hsl
  have T1 := hid t1
  have C := hid h.cur
  have HH := hid h
  have HKT := hid hkt
  have a1 : (k : Int) ≤ (k : Int) + (j : Int) := by omega
  have a2 : (k : Int) + (j : Int) ≤ (mc : Int) := by omega
  have a3 : ¬ mc = k := by omega
  have a4 : k + j ≤ mc := by omega
  have w1 : IntKind.i64.wrap (-1 - (-1 - (v : Int))) = (v : Int) := by rw [IntKind.wrap_i64]; omega
  have w2 : IntKind.i64.wrap (v : Int) = (v : Int) := by rw [IntKind.wrap_i64]; omega
  have j0 : (0 : Int) ≤ (v : Int) := by omega
  have j1 : (v : Int) < 24 := by omega
  clear hj hys hsub hsl t1 hy ey f2 hkt h
  go_enter Tryz.func133, Tryz.ntmps133
  have C2 := hid (C.out.drewN 1)
  go_wp2_with fail
  go_region_held3 (fun _ => True) (trivial)
   (first
    | (go_at_call 136; refine (partC (g + 1) A n c b off m mc sg t k j w.drew C2.out T1.out t3 t2 hmc hmc2).mono ?_; rintro e w3 ⟨rfl, hg0, hc⟩))
  ·have hg : w.grownBy w3 (some (g + 1)) := grown_trans (World.grownBy.refl w _) ⟨hg0.os, hg0.tape, hg0.output, hg0.size, hg0.block⟩
   have M := HH.out.move hg hc.row t3
   have b3 := Btw.of_grown (lo := g) (hi := g + 2) hg (fun k e => by injection e; omega)
   obtain ⟨D, dn, dc, ch, sh, fh⟩ := M.held hv24
   obtain ⟨os, hos⟩ : ∃ os, s.getD v [] = os := ⟨_, rfl⟩
   have hdn : dn ≤ 1048576 := by rw [← sh.1]; exact Nat.le_trans (M.hs v) hm
   rw [hos] at sh
   have HOS := hid hos
   have HSH := hid sh
   have HM := hid M
   have HB := hid b3
   have cut := hid (Seg.cut (a := k) (j := j) M.st t3)
   clear hc hg hg0 hos sh b3 M C C2 c1 c2
   have HC := hid (show Cap (some ⟨b, off + k, none⟩) j (mc - k) from ⟨by omega, by omega, fun e => by cases e⟩)
   have hj60 : j ≤ 1048576 := by omega
   have HJ := hid (show 1 ≤ j from t2)
   by_cases hd0 : dn = 0
   ·subst hd0
    have hno : ¬ ((s.getD (vr (-1 - (v : Int))) []).length ≠ 0 ∧ s.getD (vr (-1 - (v : Int))) [] ≠ subL sg t k) := by
     rw [HVR.out, HOS.out, HSH.out.1]
     exact fun e => e.1 rfl
    have R := hid (fun r => mst_var (sg := sg) (r := r) HKT.out (show ¬ 0 ≤ -1 - (v : Int) by omega) hno)
    have P := hid (HM.out.put (j := v) (D := some ⟨b, off + k, none⟩) (dn := j) (dc := mc - k) (ys := ys) hv24 (by rw [HSUB.out]; exact cut.out) HC.out (by rw [HSL.out]; omega))
    have BP := hid (HB.out.trans (Btw.of_grown (lo := g) (hi := g + 2) (grown_put (World.grownBy.refl w3 (some g)) v (.slice (some ⟨b, off + k, none⟩) j (mc - k))) (fun k e => by injection e; omega)))
    have ce := World.cell?_setCell_same w3 ⟨g, v, none⟩ (.slice (some ⟨b, off + k, none⟩) j (mc - k)) (show w3.cell? ⟨g, v, none⟩ = some (.slice D 0 dc) from ch)
    have PS := hid (show Seg (w3.setCell ⟨g, v, none⟩ (.slice (some ⟨b, off + k, none⟩) j (mc - k))) (w3.setCell ⟨g, v, none⟩ (.slice (some ⟨b, off + k, none⟩) j (mc - k))).heap.size (some ⟨b, off + k, none⟩) j ys from by
     have q := cut.out.put (p := ⟨g, v, none⟩) (Nat.le_refl _) (.slice (some ⟨b, off + k, none⟩) j (mc - k))
     rw [← HSUB.out] at q
     exact q.more (by have := P.out.lt; omega))
    clear HM HB hno
    go_wp2_with fail
    refine (implSame _ _ j j _ _ ys ys _ PS.out PS.out hj60 hj60).mono ?_
    rintro e w5 ⟨rfl, d, rfl⟩
    rw [decide_eq_true (show ys = ys from rfl)]
    have F : AnsTake w g A n c (some ⟨b, off, none⟩) m mc sg t k s (-1 - (v : Int)) (.returned (.bool true)) ((w3.setCell ⟨g, v, none⟩ (.slice (some ⟨b, off + k, none⟩) j (mc - k))).drewN d) :=
     ⟨BP.out.trans (btw_drewN _ _ _ d), .inl ⟨k + j, s.set v ys, rfl, P.out.drewN d, .inr ⟨by omega, by rw [HYS.out, HSL.out]⟩, fun r => by rw [R.out r, HVR.out, HYS.out, HSL.out]⟩⟩
    have HF := hid F
    clear F R P BP ce PS cut
    go_wp2
    go_ret
    exact HF.out
   ·have hdz : ((dn : Int) == 0) = false := by simp; omega
    have hwg := hid (show g ≤ w3.heap.size by have := HM.out.lt; omega)
    have PS := hid (show Seg w3 w3.heap.size (some ⟨b, off + k, none⟩) j ys from by
     have q := cut.out
     rw [← HSUB.out] at q
     exact q.more hwg.out)
    have PO := hid (show Seg w3 w3.heap.size D dn os from HSH.out.more hwg.out)
    by_cases hoy : os = ys
    ·have hno : ¬ ((s.getD (vr (-1 - (v : Int))) []).length ≠ 0 ∧ s.getD (vr (-1 - (v : Int))) [] ≠ subL sg t k) := by
      rw [HVR.out, HOS.out, HYS.out]
      exact fun e => e.2 hoy
     have R := hid (fun r => mst_var (sg := sg) (r := r) HKT.out (show ¬ 0 ≤ -1 - (v : Int) by omega) hno)
     have SS := hid (show s.set v ys = s from set_same (HOS.out.trans hoy) (by rw [HM.out.len]; exact hv24))
     have DS := hid (decide_eq_true hoy)
     clear cut hno hoy
     go_wp2_with fail
     refine (implSame _ _ dn j _ _ os ys _ PO.out PS.out hdn hj60).mono ?_
     rintro e w5 ⟨rfl, d, rfl⟩
     rw [DS.out]
     have F : AnsTake w g A n c (some ⟨b, off, none⟩) m mc sg t k s (-1 - (v : Int)) (.returned (.bool true)) (w3.drewN d) :=
      ⟨HB.out.trans (btw_drewN _ _ _ d), .inl ⟨k + j, s, rfl, HM.out.drewN d, .inr ⟨by omega, by rw [HYS.out, HSL.out]⟩, fun r => by rw [R.out r, HVR.out, HYS.out, HSL.out, SS.out]⟩⟩
     have HF := hid F
     clear F R SS DS PS PO HM HB
     go_wp2
     go_ret
     exact HF.out
    ·have hyes : (s.getD (vr (-1 - (v : Int))) []).length ≠ 0 ∧ s.getD (vr (-1 - (v : Int))) [] ≠ subL sg t k := by
      rw [HVR.out, HOS.out, HYS.out]
      exact ⟨by rw [HSH.out.1]; exact hd0, hoy⟩
     have R := hid (fun r => mst_varNo (sg := sg) (r := r) HKT.out (show ¬ 0 ≤ -1 - (v : Int) by omega) hyes)
     have DS := hid (decide_eq_false hoy)
     clear cut hyes hoy
     go_wp2_with fail
     refine (implSame _ _ dn j _ _ os ys _ PO.out PS.out hdn hj60).mono ?_
     rintro e w5 ⟨rfl, d, rfl⟩
     rw [DS.out]
     have F : AnsTake w g A n c (some ⟨b, off, none⟩) m mc sg t k s (-1 - (v : Int)) (.returned (.bool false)) (w3.drewN d) :=
      ⟨HB.out.trans (btw_drewN _ _ _ d), .inr ⟨rfl, R.out⟩⟩
     have HF := hid F
     clear F R DS PS PO HM HB
     go_wp2
     go_ret
     exact HF.out
end take
end
section
open Go.Lib (hid)
namespace extended
open Go.RowKit base ints sig same term termOk endAt marks app sym sub segs termFacts termMath posMath cursor matchMath matchSpec whole takeMath take segsHelp kinds plainMath plain plainOf gives Go.Proofs.YtblhmplpcdcejaaGreat.look fillMath
set_option maxRecDepth 100000
def AnsExt (w : World) (R : Option (List (List Int))) (e : Ending) (w' : World) : Prop :=
 ∃ cs, e = .returned (.tuple #[.agg cs, .bool R.isSome]) ∧ TabR w' w.heap.size cs (R.getD s0) ∧ (∀ j, ((R.getD s0).getD j []).length ≤ 60) ∧ Below w.heap.size w w'
def HeadX (w : World) (A : Option Addr) (n c : Nat) (Q : Option Addr) (m mc : Nat) (sg t : List Int) (P : Option Addr) (pn : Nat) (p : List Int) (R : Option (List (List Int))) (i : Value) (wr : World) : Prop :=
 ∃ (j k : Nat) (s : List (List Int)), i = .int .i64 j ∧ j ≤ pn ∧ Tk wr w.heap.size A n c Q m mc sg t k s ∧ Row wr (w.heap.size + 1 + 1) 145 z24 ∧ Seg wr w.heap.size P pn p ∧ Below w.heap.size w wr ∧ Sync sg p t j k ∧ mst sg t (p.drop j) k s = R
theorem seg_btw {w w' : World} {lo hi : Nat} {A : Option Addr} {n : Nat} {xs : List Int} (h : Seg w lo A n xs) (hb : Btw lo hi w w') (hl : lo ≤ w.heap.size) : Seg w' lo A n xs :=
 h.keep fun p hp => World.cell?_of_block (hb.block p.block (by omega) (.inl hp))
set_option maxHeartbeats 1000000 in
theorem extended (A P Q : Option Addr) (n c pn pc m mc : Nat) (sg p t : List Int) (at_ : Nat) (cs : Array Value) (s : List (List Int)) (w : World) (h : Seg w w.heap.size A n sg) (hp : Seg w w.heap.size P pn p) (ht : Seg w w.heap.size Q m t)
  (hn : n ≤ 1048576) (hpn : pn ≤ 60) (hm : m ≤ 60) (hmc : m ≤ mc) (hmc2 : mc ≤ 9223372036854775807) (hat : at_ < m) (hokp : termOkB sg p = true) (hokt : termOkB sg t = true) (htab : TabR w w.heap.size cs s) (hs : ∀ j, (s.getD j []).length ≤ m) :
  Calls Tryz.prog 123 #[.agg cs, .slice P pn pc, .agg #[.slice A n c, .slice Q m mc, .int .i64 (at_ : Int)]] w (AnsExt w (mst sg t p at_ s)) := by
 obtain ⟨W, hW⟩ : ∃ W, W = ((w.alloc (.cells cs 145)).alloc (.cells #[.slice A n c, .slice Q m mc, .int .i64 (at_ : Int)] 138)).alloc (.cells z24 145) := ⟨_, rfl⟩
 have b0 : Below w.heap.size w W := by rw [hW]; exact (((Below.refl _ _).alloc (Nat.le_refl _) _).alloc (by simp) _).alloc (by simp; omega) _
 have r0 : Row W w.heap.size 145 cs := by rw [hW]; exact ((Row.new w _ _).alloc _).alloc _
 have r1 : Row W (w.heap.size + 1) 138 #[.slice A n c, .slice Q m mc, .int .i64 (at_ : Int)] := by
  rw [hW]
  have := (Row.new (w.alloc (.cells cs 145)) 138 #[.slice A n c, .slice Q m mc, .int .i64 (at_ : Int)]).alloc (.cells z24 145)
  simpa using this
 have r2 : Row W (w.heap.size + 1 + 1) 145 z24 := by
  rw [hW]
  have := Row.new ((w.alloc (.cells cs 145)).alloc (.cells #[.slice A n c, .slice Q m mc, .int .i64 (at_ : Int)] 138)) 145 z24
  simpa using this
 have HX : HeadX w A n c Q m mc sg t P pn p (mst sg t p at_ s) (.int .i64 0) W :=
  ⟨0, at_, s, rfl, Nat.zero_le _, ⟨r1, ⟨cs, r0, htab.below b0⟩, h.below b0, ht.below b0, Nat.le_of_lt hat, hn, by omega, (sig_arities (termOk_parts hokt).1).1, hs⟩, r2, hp.below b0, b0, Sync.start hokp hokt (by rw [ht.1]; exact hat), by rw [List.drop_zero]⟩
 have HH := hid HX
 have HW := hid hW
 have HT := hid hokt
 have HL := hid ht.1
 have HPL := hid hp.1
 have HPM : Hid (∀ i, i < pn → -24 ≤ p.getD i 0) := hid (fun i hi => (term_num hokp (by rw [hp.1]; exact hi)).1)
 generalize mst sg t p at_ s = R at *
 clear hW HX r0 r1 r2 b0 htab hs hokt hokp h hp ht
 go_enter Tryz.func123, Tryz.ntmps123
 go_wp2_with (first
  | (refine rowBox rfl 145 _ rfl cs rfl ?_)
  | (refine rowAlloc rfl 145 rfl z24 zero_b ?_))
 rw [← HW.out]
 go_loopw [12] (fun i wr => HeadX w A n c Q m mc sg t P pn p R i wr) (fun i _ => pn - (intOf i).toNat)
 case atStart => exact HH.out
 case round =>
  obtain ⟨j, k, s, rfl, hj, M, r2, sp, hb, hsy, hm1⟩ := hrel
  clear HH
  have HM1 := hid hm1
  have HSY := hid hsy
  clear hm1 hsy
  by_cases hlt : j < pn
  ·obtain ⟨bp, op, x, rfl, hbp, hx, ex⟩ := sp.spot hlt
   have hx24 : -24 ≤ x := by rw [← ex.out]; exact HPM.out j hlt
   have hkm : k < m := by have := HSY.out.lt (by rw [HPL.out]; exact hlt); rw [HL.out] at this; exact this
   have HD := hid (show p.drop j = x :: p.drop (j + 1) by rw [drop_cons (by rw [HPL.out]; exact hlt), ex.out])
   have LT := hid (take w.heap.size A Q n c m mc sg t k s x wr M hkm hmc hmc2 hx24 HT.out)
   have gl := M.lt
   have HR := hid r2
   have HB := hid hb
   have HP := hid sp
   clear M r2 hb sp
   go_wp2_with fail
   refine LT.out.mono ?_
   rintro e w2 ⟨bb, ⟨k', s', rfl, M, hmv, hr⟩ | ⟨rfl, hr⟩⟩
   ·have hsync : Sync sg p t (j + 1) k' := by
     rcases hmv with ⟨h0, h1, rfl⟩ | ⟨h0, rfl⟩
     ·exact HSY.out.sym (by rw [HPL.out]; exact hlt) ex.out h1
     ·exact HSY.out.var (by rw [HPL.out]; exact hlt) ex.out hx24 h0 HT.out
    have S : HeadX w A n c Q m mc sg t (some ⟨bp, op, none⟩) pn p R (.int .i64 ((j : Int) + 1)) w2 :=
     ⟨j + 1, k', s', by simp, hlt, M, segs.Row.btw HR.out bb (.inr (Nat.le_refl _)), seg_btw HP.out bb (by omega), Below.btw HB.out bb (Nat.le_refl _) (by omega), hsync, by rw [← hr, ← HD.out]; exact HM1.out⟩
    have HS := hid S
    clear S M hsync hmv hr bb HR HP HB LT ex HD hx
    go_wp2
    go_roundw
    case rel => exact HS.out
    case measure => simp [intOf]; omega
   ·have hR : R = none := by rw [← HM1.out, HD.out]; exact hr _
    have r2 := segs.Row.btw HR.out bb (.inr (Nat.le_refl _))
    have b2 := Below.btw HB.out bb (Nat.le_refl _) (by omega)
    have hz := r2
    unfold Row at hz
    have r3 := Row.setRow r2 z24
    have F : AnsExt w R (.returned (.tuple #[.agg z24, .bool false])) (w2.setRow (w.heap.size + 1 + 1) z24) :=
     ⟨z24, by rw [hR]; rfl, by rw [hR]; exact TabR.new _ _, fun i => by rw [hR]; simp only [Option.getD_none]; rw [s0_get]; simp, Below.btw b2 (Btw.of_grown (lo := w.heap.size) (hi := w.heap.size + 1 + 1 + 1) (grown_setRow w2 (w.heap.size + 1 + 1) z24) (fun k e => by injection e; omega)) (Nat.le_refl _) b2.size⟩
    have HF := hid F
    have H3 := hid r3
    have HZ := hid hz
    clear F r3 r2 b2 hz hr bb HR HP HB LT ex HD hx hR
    go_wp2_with (first
     | (refine rowBuild rfl 145 rfl z24 built_b ?_)
     | (refine rowStore rfl 145 _ _ rfl (w.heap.size + 1 + 1) z24 z24 145 rfl rfl HZ.out (by rw [z24_size]; exact size_b) rfl z24_one ?_))
    (try simp only [Exit.inBlock, Exit.then])
    refine bodyPost_ret (v := .tuple #[.agg z24, .bool false]) ?_ rfl HF.out
    exact results_row_tmp Tryz.results123 _ (w.heap.size + 1 + 1) 145 z24 _ rfl H3.out Tryz.underlying145 rfl (by rw [z24_size]; exact size_b)
  ·have hjp : j = pn := by omega
   have hR : R = some s := by rw [← HM1.out, hjp, List.drop_eq_nil_of_le (by rw [HPL.out]; exact Nat.le_refl _)]; rfl
   obtain ⟨cs', h1, h2⟩ := M.tab
   have hz1 := h1
   have hz2 := r2
   unfold Row at hz1 hz2
   have r3 := Row.setRow r2 cs'
   have hl := M.lt
   have F : AnsExt w R (.returned (.tuple #[.agg cs', .bool true])) (wr.setRow (w.heap.size + 1 + 1) cs') :=
    ⟨cs', by rw [hR]; rfl, by rw [hR]; exact h2.keep (keep_of (grown_setRow wr (w.heap.size + 1 + 1) cs') (by omega) (fun k e => by injection e; omega)), by rw [hR]; exact fun j => Nat.le_trans (M.hs j) hm,
     Below.btw hb (Btw.of_grown (lo := w.heap.size) (hi := w.heap.size + 1 + 1 + 1) (grown_setRow wr (w.heap.size + 1 + 1) cs') (fun k e => by injection e; omega)) (Nat.le_refl _) hb.size⟩
   have HF := hid F
   have H3 := hid r3
   have HZ1 := hid hz1
   have HZ2 := hid hz2
   have HSZ := hid h2.1
   have HON := hid h2.one
   clear F r3 r2 hz1 hz2 h1 h2 hR M sp hb hjp
   go_wp2_with (first
    | (refine wpList_load_row rfl 145 _ rfl w.heap.size rfl 145 cs' (0, 0) _ HZ1.out Tryz.underlying145 rfl (by rw [HSZ.out]; exact size_b) ?_)
    | (refine rowStore rfl 145 _ _ rfl (w.heap.size + 1 + 1) cs' z24 145 rfl rfl HZ2.out (by rw [HSZ.out]; exact size_b) (by rw [HSZ.out]; rfl) HON.out ?_))
   (try simp only [Exit.inBlock, Exit.then])
   refine bodyPost_ret (v := .tuple #[.agg cs', .bool true]) ?_ rfl HF.out
   exact results_row_tmp Tryz.results123 _ (w.heap.size + 1 + 1) 145 cs' _ rfl H3.out Tryz.underlying145 rfl (by rw [HSZ.out]; exact size_b)
end extended
end
section
open List (setIfInBounds_toArray set_cons_zero set_cons_succ getElem_toArray getElem_cons_zero getElem_cons_succ)
namespace stepImpl
open Go.RowKit base ints sig term termOk endAt marks app sym sub segs segsHelp kinds termFacts termMath posMath plainMath gives fillMath matchMath matchSpec whole takeMath take extended varsOf shape kindsR ruleMath ruleSpec stepMath walkMath stepSpec heldT
set_option maxRecDepth 100000
theorem wp_rowStore {P : Program} {o : Oper} {a : Act} {w : World} {K : Act → World → Prop} {Q : Exit → Act → World → Prop} (ty : TypeId) (x y : Operand) (ho : o.op = .store ty x y) (g : Nat) (cells old : Array Value) (t : TypeId) (hx : a.eval x = .pointer (some ⟨g, 0, none⟩)) (hy : a.eval y = .agg cells)
  (hg : w.heap[g]? = some (.cells old t (0, 0))) (hi : (P.info? ty).map (·.size) = some cells.size) (hs : old.size = cells.size) (h1 : cells.all (·.oneCell') = true) (h : K (a.put o.dst undef) (w.setRow g cells)) : Oper.wp P o a w K Q := by
 unfold Oper.wp execOp
 simp only [ho, hx, hy, Instr.storeAt, Instr.sureAddr, Sem.run_bind, Sem.run_pure, Result.andThen_ok, run_storeVar_row w g t ty old cells hg hi hs h1]
 exact h
theorem run_build0 {P : Program} {o : Oper} {a : Act} {w : World} (t : TypeId) (ho : o.op = .build t #[]) (z : Array Value) (hz : P.built t [] = some z) : (execOp a.eval o).run P w = .ok (.value (.agg z)) w := by
 unfold execOp
 simp [ho, Sem.run_bind, run_build w t #[] z hz, Result.andThen_ok]
theorem seg_down {w : World} {g n : Nat} {A : Option Addr} {xs : List Int} {T : TypeId} {cs : Array Value} (h : Seg w (g + 1) A n xs) (hr : Row w g T cs) (hc : ∀ (i : Nat) (x : Int), cs[i]? ≠ some (Value.int .i64 x)) : Seg w g A n xs := by
 refine ⟨h.1, fun hn => ?_⟩
 obtain ⟨b, off, e, hb, hcell⟩ := h.2 hn
 refine ⟨b, off, e, ?_, hcell⟩
 by_cases hbg : b = g
 ·exfalso
  subst hbg
  have := hcell 0 hn
  rw [hr.cell] at this
  exact hc _ _ this
 ·omega
theorem tab_down {w : World} {g : Nat} {rs : Array Value} {s : List (List Int)} {T : TypeId} {cs : Array Value} (h : TabR w (g + 1) rs s) (hr : Row w g T cs) (hc : ∀ (i : Nat) (x : Int), cs[i]? ≠ some (Value.int .i64 x)) : TabR w g rs s := by
 refine ⟨h.1, h.2.1, fun j hj => ?_⟩
 obtain ⟨A, n, c, e, hs, hcap⟩ := h.2.2 j hj
 exact ⟨A, n, c, e, seg_down hs hr hc, hcap⟩
theorem z24_nums (i : Nat) (x : Int) : z24[i]? ≠ some (Value.int .i64 x) := by
 unfold z24
 rw [Array.getElem?_replicate]
 split
 ·intro e; injection e with e; cases e
 ·intro e; cases e
theorem two_nums {A V : Option Addr} {n c q cv : Nat} (i : Nat) (x : Int) : (#[.slice A n c, .slice V q cv] : Array Value)[i]? ≠ some (Value.int .i64 x) := by
 match i with
 | 0 => intro e; injection e with e; cases e
 | 1 => intro e; injection e with e; cases e
 | i + 2 => intro e; simp at e
set_option maxHeartbeats 4000000 in
theorem matchAt (a v u : Value) (d : Dat sSystem) (t : List Int) (x k : Nat) (w : World) (h : Rd w w.heap.size sSystem [a, v] d) (ht : Rd w w.heap.size sI [u] t) (hz : sz sSystem d ≤ 1048576) (hok : rightB d.1 d.2 t = true) (hx : x < t.length) (hk : k < d.2.length) :
  Calls Tryz.prog 107 #[.agg #[a, v], u, .int .i64 (x : Int), .int .i64 (k : Int)] w (AnsExt w (mst d.1 t (d.2.getD k ([], [])).1 x s0)) := by
 obtain ⟨T, m, c, rfl, hT, hcT⟩ := rd_ints.1 ht
 obtain ⟨oks, okt⟩ := right_parts hok
 have hm : m ≤ 60 := by have := (term_len okt).2; have := hT.1; omega
 obtain ⟨A, n, cs, V, q, cv, rfl, rfl, hs, hc, hcv, hq, hn, hq1, hrs, hsg, hE⟩ := rd_sys h hz
 rw [hq] at hk
 obtain ⟨b, off, l, rr, y, rfl, hb, ey, cl, cr, hry⟩ := rd_at hrs (Below.refl _ _) hq hk
 have hzy : sz sRule y ≤ 1048576 := by rw [← ey.out]; exact hE k hk
 have okr : ruleOkB d.1 y = true := by rw [← ey.out]; exact sys_rule oks (by rw [hq]; exact hk)
 obtain ⟨P, pn, pc, P', pn', pc', rfl, rfl, sP, kP, sP', kP', hpn, hpn'⟩ := rd_rule hry hzy
 rw [ey.out]
 obtain ⟨W, hW, rA, rB, bel⟩ := box2 w 98 145 #[.slice A n cs, .slice (some ⟨b, off, none⟩) q cv] z24
 have HW := Lib.hid hW
 have okl := (rule_parts okr).1
 have hpn60 : pn ≤ 60 := by have := (term_len okl).2; have := sP.1; omega
 have LX := Lib.hid (extended A P T n cs pn pc m c d.1 y.1 t x z24 s0 W.drew (hs.next bel.drew) (sP.next bel.drew) (hT.next bel.drew) hn hpn60 hm hcT.1 hcT.2.1 (by rw [← hT.1]; exact hx) okl okt (TabR.new _ _) (fun j => by rw [s0_get]; simp))
 obtain ⟨R, hR⟩ : ∃ R, mst d.1 t y.1 x s0 = R := ⟨_, rfl⟩
 rw [hR] at LX ⊢
 have zA : w.heap.size < W.heap.size := rA.lt
 have zB : b < W.heap.size := by omega
 have K0 : W.cell? ⟨w.heap.size, 0, none⟩ = some (.slice A n cs) := rA.cell 0
 have K1 : W.cell? ⟨w.heap.size, 1, none⟩ = some (.slice (some ⟨b, off, none⟩) q cv) := rA.cell 1
 have K2 : W.cell? ⟨b, off + k * 2, none⟩ = some (.slice P pn pc) := (bel.cell (p := ⟨b, off + k * 2, none⟩) hb).trans cl
 have i0 : (0 : Int) ≤ (k : Int) := by omega
 have i1 : (k : Int) < (q : Int) := by omega
 have zW : W.heap.size = w.heap.size + 1 + 1 := by rw [hW]; simp
 have RA := Lib.hid rA
 have BEL := Lib.hid bel
 clear hW h hs hc hcv hq hrs hsg hE ht hT hcT oks okt okr okl sP kP sP' kP' hry hzy hx hok hz ey rA bel cl cr hR hpn hpn' hpn60 hq1
 go_enter Tryz.func107, Tryz.ntmps107
 go_upto_region 1 with (refine rowAlloc rfl 145 rfl z24 zero_b ?_)
 rw [← HW.out]
 refine AnyT.start (S := (fun w' => w'.cell? ⟨w.heap.size, 0, none⟩ = some (.slice A n cs) ∧ w'.cell? ⟨w.heap.size, 1, none⟩ = some (.slice (some ⟨b, off, none⟩) q cv) ∧ w'.cell? ⟨b, off + k * 2, none⟩ = some (.slice P pn pc))) (fun j => j == 15) (by kernel_rfl) ⟨K0, K1, K2⟩ (fun hHeld => ?_)
 refine AnyT.takeA (i := 0) (v := .agg z24) rfl (by kernel_rfl) (by kernel_rfl) (by kernel_rfl) (fun _ _ _ h => h) (Or.inl ⟨by rfl, fun w0 _ => run_build0 145 rfl z24 built_b⟩) ?_
 try simp only [Act.put, setIfInBounds_toArray, set_cons_zero, set_cons_succ, getElem_toArray, getElem_cons_zero, getElem_cons_succ]
 refine AnyT.takeA (i := 1) (v := ?_) rfl (by kernel_rfl) (by kernel_rfl) (by kernel_rfl) (fun _ _ _ h => h) (Or.inl ⟨by rfl, ?_⟩) ?_
 rotate_left 1
 ·(intro w0 _; go_simp; try with_reducible rfl)
 try simp only [Act.put, setIfInBounds_toArray, set_cons_zero, set_cons_succ, getElem_toArray, getElem_cons_zero, getElem_cons_succ]
 refine AnyT.take (i := 2) (v := ?_) rfl (by kernel_rfl) (by kernel_rfl) (by kernel_rfl) (by kernel_rfl) (fun _ _ _ h => h) (Or.inl ⟨by rfl, ?_⟩) (by assumption) ?_
 rotate_left 1
 ·(intro w0 hSw; (try dsimp only at hSw); go_simp; try with_reducible rfl)
 try simp only [Act.put, setIfInBounds_toArray, set_cons_zero, set_cons_succ, getElem_toArray, getElem_cons_zero, getElem_cons_succ]
 refine AnyT.takeA (i := 3) (v := ?_) rfl (by kernel_rfl) (by kernel_rfl) (by kernel_rfl) (fun _ _ _ h => h) (Or.inl ⟨by rfl, ?_⟩) ?_
 rotate_left 1
 ·(intro w0 _; go_simp; try with_reducible rfl)
 try simp only [Act.put, setIfInBounds_toArray, set_cons_zero, set_cons_succ, getElem_toArray, getElem_cons_zero, getElem_cons_succ]
 refine AnyT.takeA (i := 4) (v := ?_) rfl (by kernel_rfl) (by kernel_rfl) (by kernel_rfl) (fun _ _ _ h => h) (Or.inl ⟨by rfl, ?_⟩) ?_
 rotate_left 1
 ·(intro w0 _; go_simp; try with_reducible rfl)
 try simp only [Act.put, setIfInBounds_toArray, set_cons_zero, set_cons_succ, getElem_toArray, getElem_cons_zero, getElem_cons_succ]
 refine AnyT.takeA (i := 5) (v := ?_) rfl (by kernel_rfl) (by kernel_rfl) (by kernel_rfl) (fun _ _ _ h => h) (Or.inl ⟨by rfl, ?_⟩) ?_
 rotate_left 1
 ·(intro w0 _; go_simp; try with_reducible rfl)
 try simp only [Act.put, setIfInBounds_toArray, set_cons_zero, set_cons_succ, getElem_toArray, getElem_cons_zero, getElem_cons_succ]
 refine AnyT.take (i := 6) (v := ?_) rfl (by kernel_rfl) (by kernel_rfl) (by kernel_rfl) (by kernel_rfl) (fun _ _ _ h => h) (Or.inl ⟨by rfl, ?_⟩) (by assumption) ?_
 rotate_left 1
 ·(intro w0 hSw; (try dsimp only at hSw); go_simp; try with_reducible rfl)
 try simp only [Act.put, setIfInBounds_toArray, set_cons_zero, set_cons_succ, getElem_toArray, getElem_cons_zero, getElem_cons_succ]
 refine AnyT.takeA (i := 7) (v := ?_) rfl (by kernel_rfl) (by kernel_rfl) (by kernel_rfl) (fun _ _ _ h => h) (Or.inl ⟨by rfl, ?_⟩) ?_
 rotate_left 1
 ·(intro w0 _; go_simp; try with_reducible rfl)
 try simp only [Act.put, setIfInBounds_toArray, set_cons_zero, set_cons_succ, getElem_toArray, getElem_cons_zero, getElem_cons_succ]
 refine AnyT.take (i := 8) (v := ?_) rfl (by kernel_rfl) (by kernel_rfl) (by kernel_rfl) (by kernel_rfl) (fun _ _ _ h => h) (Or.inl ⟨by rfl, ?_⟩) (by assumption) ?_
 rotate_left 1
 ·(intro w0 hSw; (try dsimp only at hSw); go_simp; try with_reducible rfl)
 try simp only [Act.put, setIfInBounds_toArray, set_cons_zero, set_cons_succ, getElem_toArray, getElem_cons_zero, getElem_cons_succ]
 refine AnyT.takeA (i := 9) (v := ?_) rfl (by kernel_rfl) (by kernel_rfl) (by kernel_rfl) (fun _ _ _ h => h) (Or.inl ⟨by rfl, ?_⟩) ?_
 rotate_left 1
 ·(intro w0 _; go_simp; try with_reducible rfl)
 try simp only [Act.put, setIfInBounds_toArray, set_cons_zero, set_cons_succ, getElem_toArray, getElem_cons_zero, getElem_cons_succ]
 refine AnyT.takeA (i := 10) (v := ?_) rfl (by kernel_rfl) (by kernel_rfl) (by kernel_rfl) (fun _ _ _ h => h) (Or.inl ⟨by rfl, ?_⟩) ?_
 rotate_left 1
 ·(intro w0 _; go_simp; try with_reducible rfl)
 try simp only [Act.put, setIfInBounds_toArray, set_cons_zero, set_cons_succ, getElem_toArray, getElem_cons_zero, getElem_cons_succ]
 refine AnyT.takeA (i := 11) (v := ?_) rfl (by kernel_rfl) (by kernel_rfl) (by kernel_rfl) (fun _ _ _ h => h) (Or.inl ⟨by rfl, ?_⟩) ?_
 rotate_left 1
 ·(intro w0 _; go_simp; try with_reducible rfl)
 try simp only [Act.put, setIfInBounds_toArray, set_cons_zero, set_cons_succ, getElem_toArray, getElem_cons_zero, getElem_cons_succ]
 refine AnyT.call (i := 12) (by kernel_rfl) rfl (fun K hK => ?_)
 try simp only [Act.put, setIfInBounds_toArray, set_cons_zero, set_cons_succ, getElem_toArray, getElem_cons_zero, getElem_cons_succ]
 rw [if_pos (by rfl)]
 go_simp
 (go_at_call 123; refine LX.out.mono ?_; rintro e w3 ⟨rs, rfl, tab, hsz, bb⟩; have K03 : w3.cell? ⟨w.heap.size, 0, none⟩ = some (.slice A n cs) := (bb.cell (p := ⟨w.heap.size, 0, none⟩) zA).trans K0; have K13 : w3.cell? ⟨w.heap.size, 1, none⟩ = some (.slice (some ⟨b, off, none⟩) q cv) := (bb.cell (p := ⟨w.heap.size, 1, none⟩) zA).trans K1; have K23 : w3.cell? ⟨b, off + k * 2, none⟩ = some (.slice P pn pc) := (bb.cell (p := ⟨b, off + k * 2, none⟩) zB).trans K2; have one := Lib.hid tab.one; have h24 := Lib.hid tab.1; have r3 := Lib.hid (Row.next (Row.drew rB) bb); go_wp2_with fail)
 refine hK.out _ _ (fun _ _ => ?_) (fun hKeep => ?_)
 ·exact ⟨K03, K13, K23⟩
 replace hHeld := hKeep (by rfl) hHeld
 clear hK K hKeep
 try simp only [Act.put, setIfInBounds_toArray, set_cons_zero, set_cons_succ, getElem_toArray, getElem_cons_zero, getElem_cons_succ]
 refine AnyT.takeA (i := 13) (v := ?_) rfl (by kernel_rfl) (by kernel_rfl) (by kernel_rfl) (fun _ _ _ h => h) (Or.inl ⟨by rfl, ?_⟩) ?_
 rotate_left 1
 ·(intro w0 _; go_simp; try with_reducible rfl)
 try simp only [Act.put, setIfInBounds_toArray, set_cons_zero, set_cons_succ, getElem_toArray, getElem_cons_zero, getElem_cons_succ]
 refine AnyT.takeA (i := 14) (v := ?_) rfl (by kernel_rfl) (by kernel_rfl) (by kernel_rfl) (fun _ _ _ h => h) (Or.inl ⟨by rfl, ?_⟩) ?_
 rotate_left 1
 ·(intro w0 _; go_simp; try with_reducible rfl)
 try simp only [Act.put, setIfInBounds_toArray, set_cons_zero, set_cons_succ, getElem_toArray, getElem_cons_zero, getElem_cons_succ]
 refine AnyT.call (i := 15) (by kernel_rfl) rfl (fun K hK => ?_)
 try simp only [Act.put, setIfInBounds_toArray, set_cons_zero, set_cons_succ, getElem_toArray, getElem_cons_zero, getElem_cons_succ]
 rw [if_pos (by rfl)]
 refine wp_rowStore 145 _ _ rfl (w.heap.size + 1) rs z24 145 rfl rfl r3.out (by rw [h24.out]; exact size_b) (by rw [h24.out]; rfl) one.out ?_
 refine hK.out _ _ (fun h => by cases h) (fun _ => ?_)
 clear hK K
 try simp only [Act.put, setIfInBounds_toArray, set_cons_zero, set_cons_succ, getElem_toArray, getElem_cons_zero, getElem_cons_succ]
 refine AnyT.takeA (i := 16) (v := ?_) rfl (by kernel_rfl) (by kernel_rfl) (by kernel_rfl) (fun _ _ _ h => h) (Or.inl ⟨by rfl, ?_⟩) ?_
 rotate_left 1
 ·(intro w0 _; go_simp; try with_reducible rfl)
 try simp only [Act.put, setIfInBounds_toArray, set_cons_zero, set_cons_succ, getElem_toArray, getElem_cons_zero, getElem_cons_succ]
 refine AnyT.done (by kernel_rfl) ?_ _
 have r1 := r3.out
 have r0 := RA.out.drew.next bb
 have bx : Below w.heap.size w w3 := BEL.out.drew.trans (bb.mono BEL.out.size)
 have tab2 : TabR w3 w.heap.size rs (R.getD s0) := tab_down (tab_down (by have := tab; rw [show W.drew.heap.size = W.heap.size from rfl, zW] at this; exact this) r1 z24_nums) r0 two_nums
 have F : AnsExt w R (.returned (.tuple #[.agg rs, .bool R.isSome])) (w3.setRow (w.heap.size + 1) rs) :=
  ⟨rs, rfl, tab2.keep (keep_of (grown_setRow w3 (w.heap.size + 1) rs) bx.size (fun k e => by injection e; omega)), hsz, Below.btw bx (Btw.of_grown (lo := w.heap.size) (hi := w.heap.size + 1 + 1) (grown_setRow w3 (w.heap.size + 1) rs) (fun k e => by injection e; omega)) (Nat.le_refl _) bx.size⟩
 have HF := Lib.hid F
 have H3 := Lib.hid (Row.setRow r1 rs)
 clear F r1 r0 bx tab2 tab bb
 go_wp2
 (try simp only [Exit.inBlock, Exit.then])
 refine bodyPost_ret (v := .tuple #[.agg rs, .bool R.isSome]) ?_ rfl HF.out
 exact results_row_tmp Tryz.results107 _ (w.heap.size + 1) 145 rs _ rfl H3.out Tryz.underlying145 rfl (by rw [h24.out]; exact size_b)
end stepImpl
end
section
open Go.Lib (hid)
namespace anyR
open Go.RowKit base ints sig segs varsOf shape kindsR ruleMath
set_option maxRecDepth 100000
theorem any_of {α : Type} [Inhabited α] {f : α → Bool} {xs : List α} {k : Nat} {x z : α} (hk : k < xs.length) (ex : xs.getD k z = x) (h : f x = true) : xs.any f = true := by
 rw [List.any_eq_true]
 refine ⟨xs[k], List.getElem_mem hk, ?_⟩
 have : xs.getD k z = xs[k] := by simp [List.getD, hk]
 rw [← this, ex]; exact h
theorem none_of {α : Type} {f : α → Bool} {xs : List α} {z : α} (h : ∀ j, j < xs.length → f (xs.getD j z) = false) : xs.any f = false := by
 rw [List.any_eq_false]
 intro x hx
 obtain ⟨i, hi, rfl⟩ := List.getElem_of_mem hx
 have := h i hi
 simpa [List.getD, hi] using this
theorem mem_at {α : Type} {xs : List α} {k : Nat} {x z : α} (hk : k < xs.length) (ex : xs.getD k z = x) : x ∈ xs := by
 have : xs.getD k z = xs[k] := by simp [List.getD, hk]
 rw [← ex, this]; exact List.getElem_mem hk
def TestsI (g : Nat) (fa lb : Array Value) (w : World) (xs : List Int) (f : Int → Bool) : Prop := ∀ (W : World) (x : Int), Below w.heap.size w W → x ∈ xs → Calls Tryz.prog g (fa ++ #[.int .i64 x] ++ lb) W (AnsB W (f x))
def AnsIxI (w : World) (f : Int → Bool) (xs : List Int) (e : Ending) (w' : World) : Prop := ∃ z : Int, e = .returned (.int .i64 z) ∧ -1 ≤ z ∧ z ≤ 1048576 ∧ decide (0 ≤ z) = xs.any f ∧ Below w.heap.size w w'
def HeadIxI (w : World) (n : Nat) (f : Int → Bool) (xs : List Int) (i : Value) (wr : World) : Prop := ∃ k : Nat, k ≤ n ∧ i = .int .i64 k ∧ (∀ j, j < k → f (xs.getD j 0) = false) ∧ Below w.heap.size w wr
set_option maxHeartbeats 2000000 in
theorem indexFuncI (g : Nat) (fa lb : Array Value) (eg : ∀ args w, (callFunc g args).run Tryz.prog w = .ok (.enter g args) w) (f : Int → Bool) (A : Option Addr) (n c : Nat) (xs : List Int) (w : World) (hT : TestsI g fa lb w xs f)
  (h : Rd w w.heap.size sI [.slice A n c] xs) (hl : xs.length = n) (hn : n ≤ 1048576) :
  Calls Tryz.prog 127 #[.slice A n c, .func (.func g) fa lb] w (AnsIxI w f xs) := by
 have HL := hid hl
 have HK := hid hT
 have HR := hid h
 have HH : Hid (HeadIxI w n f xs (.int .i64 0) w) := hid ⟨0, Nat.zero_le _, rfl, fun j hj => absurd hj (Nat.not_lt_zero _), Below.refl _ _⟩
 clear hT h hl
 go_enter Tryz.func127, Tryz.ntmps127
 go_wp2_with fail
 go_loopw [8] (fun i wr => HeadIxI w n f xs i wr) (fun i _ => n - (intOf i).toNat)
 case atStart => exact HH.out
 case round =>
  obtain ⟨k, hk, rfl, hlow, hb⟩ := hrel
  have HLOW := hid hlow
  clear hlow HH
  by_cases hlt : k < n
  ·have hkD : k < xs.length := by rw [HL.out]; exact hlt
   obtain ⟨b, off, x, rfl, hbB, hx0, ex⟩ := HR.out.seg.spot hlt
   have hx : wr.cell? ⟨b, off + k, none⟩ = some (.int .i64 x) := (hb.cell (p := ⟨b, off + k, none⟩) hbB).trans hx0
   have hcall := HK.out wr x hb (mem_at hkD ex.out)
   obtain ⟨v, hv⟩ : ∃ v, f x = v := ⟨_, rfl⟩
   rw [hv] at hcall
   have HV := hid hv
   have HC := hid hcall
   have i0 : (0 : Int) ≤ (k : Int) := by omega
   have i1 : (k : Int) < (n : Int) := by omega
   clear hv hcall
   cases v with
   | true =>
    go_wp2_with (first
     | (go_at_fn g; refine HC.out.mono ?_; rintro e w1 ⟨rfl, bb⟩))
    have F : AnsIxI w f xs (.returned (.int .i64 (k : Int))) w1 := ⟨k, rfl, by omega, by omega, by rw [decide_eq_true (by omega)]; exact (any_of hkD ex.out HV.out).symm, next_trans hb bb⟩
    have HF := hid F
    clear F bb hb HC
    go_wp2
    go_ret
    exact HF.out
   | false =>
    go_wp2_with (first
     | (go_at_fn g; refine HC.out.mono ?_; rintro e w1 ⟨rfl, bb⟩))
    have S1 : HeadIxI w n f xs (.int .i64 ((k : Int) + 1)) w1 := ⟨k + 1, hlt, by simp, fun j hj => by
     by_cases e : j = k
     ·rw [e, ex.out]; exact HV.out
     ·exact HLOW.out j (by omega), next_trans hb bb⟩
    have HS1 := hid S1
    clear S1 bb hb HC
    go_wp2
    go_roundw
    case rel => exact HS1.out
    case measure => simp [intOf]; omega
  ·have F : AnsIxI w f xs (.returned (.int .i64 (-1))) wr := ⟨-1, rfl, by omega, by omega, (none_of (fun j hj => HLOW.out j (by rw [HL.out] at hj; omega))).symm, hb⟩
   have HF := hid F
   clear F hb
   go_wp2
   go_ret
   exact HF.out
theorem containsFuncI (g : Nat) (fa lb : Array Value) (eg : ∀ args w, (callFunc g args).run Tryz.prog w = .ok (.enter g args) w) (f : Int → Bool) (A : Option Addr) (n c : Nat) (xs : List Int) (w : World) (hT : TestsI g fa lb w xs f)
  (h : Rd w w.heap.size sI [.slice A n c] xs) (hl : xs.length = n) (hn : n ≤ 1048576) :
  Calls Tryz.prog 114 #[.slice A n c, .func (.func g) fa lb] w (AnsB w (xs.any f)) := by
 have L := hid (indexFuncI g fa lb eg f A n c xs w hT h hl hn)
 clear h hl hT
 go_enter Tryz.func114, Tryz.ntmps114
 go_wp2_with fail
 refine L.out.mono ?_
 rintro e w' ⟨z, rfl, h1, h2, hz, bb⟩
 have HZ := hid hz
 have HB := hid bb
 clear hz L bb
 go_wp2
 go_ret
 exact ⟨by rw [← HZ.out]; rfl, HB.out⟩
end anyR
end
section
open Go.Lib (hid)
namespace ruleImpl
open Go.RowKit base ints sig term termOk marks app sym segs termFacts varsMath varsOf rename same count linear shape kindsR ruleMath ruleSpec anyR
set_option maxRecDepth 100000
theorem containsI (A : Option Addr) (n c : Nat) (xs : List Int) (x : Int) (w : World) (h : Seg w w.heap.size A n xs) (hn : n ≤ 1048576) :
  Calls Tryz.prog 113 #[.slice A n c, .int .i64 x] w fun e w' => w = w' ∧ e = .returned (.bool (decide (x ∈ xs))) := by
 have L := hid (indexOf A n c xs x w h hn)
 clear h
 go_enter Tryz.func113, Tryz.ntmps113
 go_wp2_with fail
 refine L.out.mono ?_
 rintro e w' ⟨rfl, rfl⟩
 have E : decide (0 ≤ indexI xs x) = decide (x ∈ xs) := decide_eq_decide.2 (by unfold indexI; split <;> simp_all)
 have HE := hid E
 clear L E
 generalize indexI xs x = z at *
 go_wp2
 go_ret
 exact ⟨rfl, by rw [← HE.out]; rfl⟩
set_option maxHeartbeats 1000000 in
theorem ruleNew (g : Nat) (A1 : Option Addr) (n1 c1 : Nat) (r : Value) (t : List Int) (x : Int) (W : World) (hr : Row W g 111 #[.slice A1 n1 c1, r]) (h : Seg W W.heap.size A1 n1 t) (hn : n1 ≤ 1048576) :
  Calls Tryz.prog 112 #[.int .i64 x, .pointer (some ⟨g, 0, none⟩)] W (AnsB W (newB t x)) := by
 have L := hid (containsI A1 n1 c1 t x W h hn)
 have c0 : W.cell? ⟨g, 0, none⟩ = some (.slice A1 n1 c1) := hr.cell 0
 clear h hr
 by_cases hx : x < 0
 ·have hd : decide (x < 0) = true := decide_eq_true hx
  have E : (!decide (x ∈ t)) = newB t x := by unfold newB; by_cases h : x ∈ t <;> simp [h, hx]
  have HE := hid E
  clear E
  go_enter Tryz.func112, Tryz.ntmps112
  go_wp2_with fail
  refine L.out.mono ?_
  rintro e w' ⟨rfl, rfl⟩
  have F : AnsB W (newB t x) (.returned (.bool (!decide (x ∈ t)))) W := ⟨by rw [HE.out], Below.refl _ _⟩
  have HF := hid F
  clear L F
  generalize decide (x ∈ t) = z at *
  go_wp2
  go_ret
  exact HF.out
 ·have hd : decide (x < 0) = false := decide_eq_false hx
  have F : AnsB W (newB t x) (.returned (.bool false)) W := ⟨by unfold newB; rw [decide_eq_false (fun h => hx h.1)], Below.refl _ _⟩
  have HF := hid F
  clear F L
  go_enter Tryz.func112, Tryz.ntmps112
  go_wp2
  go_ret
  exact HF.out
theorem rule_all {sg : List Int} {d : Rl} (h1 : termOkB sg d.1 = true) (h2 : termOkB sg d.2 = true) (h0 : ¬ hd d.1 < 0) : ruleOkB sg d = !d.2.any (newB d.1) := by
 unfold ruleOkB; rw [h1, h2, decide_eq_false h0]; rfl
set_option maxHeartbeats 4000000 in
theorem implRuleOk (a l r : Value) (sg : List Int) (d : Dat sRule) (w : World) (h : Rd w w.heap.size sI [a] sg) (h' : Rd w w.heap.size sRule [l, r] d) (hz : sz sI sg ≤ 1048576) (hz' : sz sRule d ≤ 1048576) :
  Calls Tryz.prog 97 #[.agg #[a], .agg #[l, r]] w (AnsB w (ruleOkB sg d)) := by
 have g1 := (parts_Rule h').2
 obtain ⟨A, n, c, rfl, hs, hc⟩ := rd_ints.1 h
 have hn := len_ints hs.1 hz
 obtain ⟨A1, n1, c1, A2, n2, c2, rfl, rfl, s1, k1, s2, k2, hn1, hn2⟩ := rd_rule h' hz'
 obtain ⟨W, hW, rA, rR, bel⟩ := box2 w 42 111 #[.slice A n c] #[.slice A1 n1 c1, .slice A2 n2 c2]
 have HW := hid hW
 have HL1 := hid s1.1
 have HL2 := hid s2.1
 have L1 := hid (implTermOk A A1 n c n1 c1 sg d.1 W (hs.next bel) (s1.next bel) hn hn1)
 have L2 := hid (fun (w1 : World) (bb : Below w.heap.size w w1) => implTermOk A A2 n c n2 c2 sg d.2 w1 (hs.next bb) (s2.next bb) hn hn2)
 have LC := hid (fun (w1 : World) (bb : Below w.heap.size w w1) (hr : Row w1 (w.heap.size + 1) 111 #[.slice A1 n1 c1, .slice A2 n2 c2]) => containsFuncI 112 #[] #[.pointer (some ⟨w.heap.size + 1, 0, none⟩)] (fun _ _ => rfl) (newB d.1) A2 n2 c2 d.2 w1
  (fun W x hW _ => ruleNew (w.heap.size + 1) A1 n1 c1 (.slice A2 n2 c2) d.1 x W (hr.next hW) (s1.next (next_trans bb hW)) hn1) (g1.next bb) s2.1 hn2)
 clear hW h h' hz hz' hs hc k1 k2 g1
 cases ok1 : termOkB sg d.1 with
 | false =>
  have HS := hid ok1
  clear ok1 s1 s2
  go_enter Tryz.func97, Tryz.ntmps97
  go_wp2_with fail
  rw [← HW.out]
  refine L1.out.mono ?_
  rintro e w1 ⟨he, bb⟩
  rw [HS.out] at he
  subst he
  have F := hid (ansB (b := ruleOkB sg d) (a := false) (by rw [rule_noL HS.out]) (next_trans bel bb))
  clear bb bel rA rR
  go_wp2
  go_ret
  exact F.out
 | true =>
  have hp1 := (term_len ok1).1
  rw [s1.1] at hp1
  obtain ⟨b, off, x, rfl, hbB, hx, ex⟩ := s1.spot (k := 0) (by omega)
  have HS := hid ok1
  have EX := hid (show hd d.1 = x from ex.out)
  have i0 : (0 : Int) < (n1 : Int) := by omega
  clear ok1 ex
  go_enter Tryz.func97, Tryz.ntmps97
  go_wp2_with fail
  rw [← HW.out]
  refine L1.out.mono ?_
  rintro e w1 ⟨he, bb⟩
  rw [HS.out] at he
  subst he
  replace rA := rA.next bb
  replace rR := rR.next bb
  replace bel := next_trans bel bb
  have cA : w1.cell? ⟨w.heap.size, 0, none⟩ = some (.slice A n c) := rA.cell 0
  have cR : w1.cell? ⟨w.heap.size + 1, 1, none⟩ = some (.slice A2 n2 c2) := rR.cell 1
  clear bb L1
  go_wp2_with fail
  refine (L2.out w1 bel).mono ?_
  cases ok2 : termOkB sg d.2 with
  | false =>
   have HS2 := hid ok2
   clear ok2
   rintro e w2 ⟨he, bb⟩
   rw [HS2.out] at he
   subst he
   have F := hid (ansB (b := ruleOkB sg d) (a := false) (by rw [rule_noR HS2.out]) (next_trans bel bb))
   clear bb bel rA rR cA cR s1 s2
   go_wp2
   go_ret
   exact F.out
  | true =>
   have HS2 := hid ok2
   clear ok2
   rintro e w2 ⟨he, bb⟩
   rw [HS2.out] at he
   subst he
   replace rR := rR.next bb
   replace bel := next_trans bel bb
   have cR0 : w2.cell? ⟨w.heap.size + 1, 0, none⟩ = some (.slice (some ⟨b, off, none⟩) n1 c1) := rR.cell 0
   have cX : w2.cell? ⟨b, off, none⟩ = some (.int .i64 x) := by have := (bel.cell (p := ⟨b, off + 0, none⟩) hbB).trans hx; simpa using this
   clear bb rA cA cR L2
   by_cases hneg : x < 0
   ·have F := hid (ansB (b := ruleOkB sg d) (a := false) (by rw [rule_var (by rw [EX.out]; exact hneg)]) bel)
    have hdx : decide (x < 0) = true := decide_eq_true hneg
    clear bel rR s1 s2 LC
    go_wp2
    go_ret
    exact F.out
   ·have hdx : decide (x < 0) = false := decide_eq_false hneg
    have cR1 : w2.cell? ⟨w.heap.size + 1, 1, none⟩ = some (.slice A2 n2 c2) := rR.cell 1
    have LC2 := hid (LC.out w2 bel rR)
    have hmf : ∀ (fn : Fn) (first cap : Array Value) (w : World), (Instr.makeFunc fn first cap).run Tryz.prog w = .ok (.func fn first cap) w := fun _ _ _ _ => rfl
    have E := hid (rule_all HS.out HS2.out (by rw [EX.out]; exact hneg))
    clear LC s1 s2
    go_wp2_with fail
    refine LC2.out.mono ?_
    obtain ⟨z, hzz⟩ : ∃ z, d.2.any (newB d.1) = z := ⟨_, rfl⟩
    rw [hzz] at E
    rintro e w3 ⟨he, bb⟩
    rw [hzz] at he
    subst he
    have F := hid (ansB (b := ruleOkB sg d) (a := !z) E.out.symm (next_trans bel bb))
    clear bb bel rR cR0 cR1 cX LC2 E hzz
    go_wp2
    go_ret
    exact F.out
end ruleImpl
end
section
open Go.Lib (hid)
namespace ruleImpl
open Go.RowKit base ints sig term termOk marks app sym segs termFacts varsMath varsOf rename same count linear shape kindsR ruleMath ruleSpec anyR
set_option maxRecDepth 100000
def sysV (a v : Value) (ok : Bool) : Value := if ok = true then .agg #[a, v] else .agg #[.slice none 0 0, .slice none 0 0]
def AnsSys (w : World) (a v : Value) (ok : Bool) (e : Ending) (w' : World) : Prop := e = .returned (.tuple #[sysV a v ok, .bool ok]) ∧ Below w.heap.size w w'
def HeadSO (w : World) (T T' : TypeId) (cs cs' : Array Value) (n : Nat) (f : Rl → Bool) (rs : List Rl) (i : Value) (wr : World) : Prop :=
 ∃ k : Nat, k ≤ n ∧ i = .int .i64 k ∧ (∀ j, j < k → f (rs.getD j ([], [])) = true) ∧ Row wr w.heap.size T cs ∧ Row wr (w.heap.size + 1) T' cs' ∧ Below w.heap.size w wr
theorem headSO_step {w wr : World} {T T' : TypeId} {cs cs' : Array Value} {n k : Nat} {f : Rl → Bool} {rs : List Rl} {x : Rl} (hk : k < n) (hlow : ∀ j, j < k → f (rs.getD j ([], [])) = true) (ex : Hid (rs.getD k ([], []) = x)) (h : f x = true) (hr : Row wr w.heap.size T cs) (hr' : Row wr (w.heap.size + 1) T' cs') (hb : Below w.heap.size w wr) : HeadSO w T T' cs cs' n f rs (.int .i64 ((k : Int) + 1)) wr :=
 ⟨k + 1, hk, by simp, fun j hj => by
  by_cases e : j = k
  ·subst e; rw [ex.out]; exact h
  ·exact hlow j (by omega), hr, hr', hb⟩
set_option maxHeartbeats 8000000 in
theorem systemOf (a v : Value) (d : Dat sSystem) (w : World) (h : Rd w w.heap.size sSystem [a, v] d) (hz : sz sSystem d ≤ 1048576) :
  Calls Tryz.prog 73 #[.agg #[a, v]] w (AnsSys w a v (sysOkB d.1 d.2)) := by
 have hzs := hid (sys_szs hz)
 obtain ⟨A, n, c, V, m, cv, rfl, rfl, hs, hc, hcv, hm, hn, hm1, hrs, hsg, hE⟩ := rd_sys h hz
 obtain ⟨W, hW, rA, rR, bel⟩ := box2 w 45 98 #[.slice A n c, .slice V m cv] #[.slice none 0 0, .slice none 0 0]
 have HW := hid hW
 have HM := hid hm
 have HE := hid hE
 have HR := hid hrs
 have L1 := hid (implSigOk A n c d.1 W (hs.next bel) hn)
 have LR := hid (fun (w1 : World) (l r : Value) (x : Dat sRule) (bb : Below w.heap.size w w1) (hx : Rd w1 w1.heap.size sRule [l, r] x) (hzx : sz sRule x ≤ 1048576) => implRuleOk (.slice A n c) l r d.1 x w1 (hsg.next bb) hx hzs.out.1 hzx)
 clear hW h hz hs hc hcv hm hE hrs hsg
 cases ok1 : sigOkB d.1 with
 | false =>
  have HS := hid ok1
  clear ok1
  go_enter Tryz.func73, Tryz.ntmps73
  go_wp2_with fail
  rw [← HW.out]
  refine L1.out.mono ?_
  rintro e w1 ⟨he, bb⟩
  rw [HS.out] at he
  subst he
  replace rR := rR.next bb
  replace bel := next_trans bel bb
  have y0 : w1.cell? ⟨w.heap.size + 1, 0, none⟩ = some (.slice none 0 0) := rR.cell 0
  have y1 : w1.cell? ⟨w.heap.size + 1, 1, none⟩ = some (.slice none 0 0) := rR.cell 1
  have f0 := rR.free 0
  have f1 := rR.free 1
  have r1 := rR.put 0 (.slice none 0 0)
  have y2 : (w1.setCell ⟨w.heap.size + 1, 0, none⟩ (.slice none 0 0)).cell? ⟨w.heap.size + 1, 1, none⟩ = some (.slice none 0 0) := r1.cell 1
  have f2 := r1.free 1
  have r2 := r1.put 1 (.slice none 0 0)
  have u0 : ((w1.setCell ⟨w.heap.size + 1, 0, none⟩ (.slice none 0 0)).setCell ⟨w.heap.size + 1, 1, none⟩ (.slice none 0 0)).cell? ⟨w.heap.size + 1, 0, none⟩ = some (.slice none 0 0) := r2.cell 0
  have u1 : ((w1.setCell ⟨w.heap.size + 1, 0, none⟩ (.slice none 0 0)).setCell ⟨w.heap.size + 1, 1, none⟩ (.slice none 0 0)).cell? ⟨w.heap.size + 1, 1, none⟩ = some (.slice none 0 0) := r2.cell 1
  have F : AnsSys w (.slice A n c) (.slice V m cv) (sysOkB d.1 d.2) (.returned (.tuple #[.agg #[.slice none 0 0, .slice none 0 0], .bool false])) ((w1.setCell ⟨w.heap.size + 1, 0, none⟩ (.slice none 0 0)).setCell ⟨w.heap.size + 1, 1, none⟩ (.slice none 0 0)) :=
   ⟨by rw [sys_sig HS.out]; rfl, (bel.setCell (by simp) _).setCell (by simp) _⟩
  have HF := hid F
  clear F bel rA rR bb r1 r2 LR
  go_wp2
  exact bodyPost_ret (v := .tuple #[.agg #[.slice none 0 0, .slice none 0 0], .bool false]) (by simp [results, Tryz.results73, go_sem, u0, u1]) rfl HF.out
 | true =>
  have HS := hid ok1
  clear ok1
  go_enter Tryz.func73, Tryz.ntmps73
  go_wp2_with fail
  rw [← HW.out]
  refine L1.out.mono ?_
  rintro e w1 ⟨he, bb⟩
  rw [HS.out] at he
  subst he
  replace rA := rA.next bb
  replace rR := rR.next bb
  replace bel := next_trans bel bb
  have cR : w1.cell? ⟨w.heap.size, 1, none⟩ = some (.slice V m cv) := rA.cell 1
  clear bb L1
  by_cases h12 : m ≤ 12
  ·have H0 : Hid (HeadSO w 45 98 #[.slice A n c, .slice V m cv] #[.slice none 0 0, .slice none 0 0] m (ruleOkB d.1) d.2 (.int .i64 0) w1) := hid ⟨0, Nat.zero_le _, rfl, fun j hj => absurd hj (Nat.not_lt_zero _), rA, rR, bel⟩
   clear rA rR bel
   go_wp2_with fail
   go_loopw [20] (fun i wr => HeadSO w 45 98 #[.slice A n c, .slice V m cv] #[.slice none 0 0, .slice none 0 0] m (ruleOkB d.1) d.2 i wr) (fun i _ => m - (intOf i).toNat)
   case atStart => exact H0.out
   case round =>
    obtain ⟨k, hk, rfl, hlow, rr, rs, hb⟩ := hrel
    have HLOW := hid hlow
    clear hlow H0 cR
    have cA0 : wr.cell? ⟨w.heap.size, 0, none⟩ = some (.slice A n c) := rr.cell 0
    have cA1 : wr.cell? ⟨w.heap.size, 1, none⟩ = some (.slice V m cv) := rr.cell 1
    by_cases hlt : k < m
    ·obtain ⟨b, off, l, r, x, rfl, hbB, ex, hc0, hc1, hx⟩ := rd_at HR.out hb HM.out hlt
     have hzx : sz sRule x ≤ 1048576 := by have := HE.out k hlt; rw [ex.out] at this; exact this
     obtain ⟨A1, n1, c1, A2, n2, c2, rfl, rfl, s1, k1, s2, k2, hn1, hn2⟩ := rd_rule hx hzx
     obtain ⟨w2, hw2⟩ : ∃ x, x = wr.alloc (.cells #[.slice A1 n1 c1, .slice A2 n2 c2] 111) := ⟨_, rfl⟩
     have bb : Below wr.heap.size wr w2 := by rw [hw2]; exact (Below.refl _ _).alloc (Nat.le_refl _) _
     have rx : Row w2 wr.heap.size 111 #[.slice A1 n1 c1, .slice A2 n2 c2] := by rw [hw2]; exact Row.new wr 111 #[.slice A1 n1 c1, .slice A2 n2 c2]
     have rr2 := rr.next bb
     have rs2 := rs.next bb
     have hb2 := next_trans hb bb
     have L := hid (LR.out w2 (.slice A1 n1 c1) (.slice A2 n2 c2) x hb2 ((hx.more hb.size).next bb) hzx)
     have x0 : w2.cell? ⟨wr.heap.size, 0, none⟩ = some (.slice A1 n1 c1) := rx.cell 0
     have x1 : w2.cell? ⟨wr.heap.size, 1, none⟩ = some (.slice A2 n2 c2) := rx.cell 1
     have x2 : w2.cell? ⟨w.heap.size, 0, none⟩ = some (.slice A n c) := rr2.cell 0
     have X0 := x0
     have X1 := x1
     have X2 := x2
     rw [hw2] at X0 X1 X2
     have HW2 := hid hw2
     have i0 : (0 : Int) ≤ (k : Int) := by omega
     have i1 : (k : Int) < (m : Int) := by omega
     clear hx hzx s1 s2 k1 k2 rr rs hb bb rx hw2
     go_wp2_with fail
     rw [← HW2.out]
     refine L.out.mono ?_
     cases ok : ruleOkB d.1 x with
     | false =>
      have HO := hid ok
      clear ok
      rintro e w3 ⟨he, bb⟩
      subst he
      have rR := rs2.next bb
      have bel := next_trans hb2 bb
      have y0 : w3.cell? ⟨w.heap.size + 1, 0, none⟩ = some (.slice none 0 0) := rR.cell 0
      have y1 : w3.cell? ⟨w.heap.size + 1, 1, none⟩ = some (.slice none 0 0) := rR.cell 1
      have f0 := rR.free 0
      have f1 := rR.free 1
      have r1 := rR.put 0 (.slice none 0 0)
      have y2 : (w3.setCell ⟨w.heap.size + 1, 0, none⟩ (.slice none 0 0)).cell? ⟨w.heap.size + 1, 1, none⟩ = some (.slice none 0 0) := r1.cell 1
      have f2 := r1.free 1
      have r2 := r1.put 1 (.slice none 0 0)
      have u0 : ((w3.setCell ⟨w.heap.size + 1, 0, none⟩ (.slice none 0 0)).setCell ⟨w.heap.size + 1, 1, none⟩ (.slice none 0 0)).cell? ⟨w.heap.size + 1, 0, none⟩ = some (.slice none 0 0) := r2.cell 0
      have u1 : ((w3.setCell ⟨w.heap.size + 1, 0, none⟩ (.slice none 0 0)).setCell ⟨w.heap.size + 1, 1, none⟩ (.slice none 0 0)).cell? ⟨w.heap.size + 1, 1, none⟩ = some (.slice none 0 0) := r2.cell 1
      have F : AnsSys w (.slice A n c) (.slice (some ⟨b, off, none⟩) m cv) (sysOkB d.1 d.2) (.returned (.tuple #[.agg #[.slice none 0 0, .slice none 0 0], .bool false])) ((w3.setCell ⟨w.heap.size + 1, 0, none⟩ (.slice none 0 0)).setCell ⟨w.heap.size + 1, 1, none⟩ (.slice none 0 0)) :=
       ⟨by rw [sys_bad (k := k) (by rw [HM.out]; exact hlt) (by rw [ex.out]; exact HO.out)]; rfl, (bel.setCell (by simp) _).setCell (by simp) _⟩
      have HF := hid F
      clear F bel rR bb r1 r2 LR rr2 rs2 hb2 x0 x1 x2 X0 X1 X2 cA0 cA1 hc0 hc1 L
      go_wp2
      exact bodyPost_ret (v := .tuple #[.agg #[.slice none 0 0, .slice none 0 0], .bool false]) (by simp [results, Tryz.results73, go_sem, u0, u1]) rfl HF.out
     | true =>
      have HO := hid ok
      clear ok
      rintro e w3 ⟨he, bb⟩
      subst he
      have F := hid (headSO_step (f := ruleOkB d.1) (w := w) hlt HLOW.out ex HO.out (rr2.next bb) (rs2.next bb) (next_trans hb2 bb))
      clear bb rr2 rs2 hb2 L x0 x1 x2 X0 X1 X2 cA0 cA1 hc0 hc1
      go_wp2
      go_roundw
      case rel => exact F.out
      case measure => simp [intOf]; omega
    ·have OK := hid (show sysOkB d.1 d.2 = true from sys_good HS.out (by rw [HM.out]; exact h12) (fun j hj => HLOW.out j (by rw [HM.out] at hj; omega)))
     have y0 : wr.cell? ⟨w.heap.size + 1, 0, none⟩ = some (.slice none 0 0) := rs.cell 0
     have f0 := rs.free 0
     have r1 := rs.put 0 (.slice A n c)
     have y2 : (wr.setCell ⟨w.heap.size + 1, 0, none⟩ (.slice A n c)).cell? ⟨w.heap.size + 1, 1, none⟩ = some (.slice none 0 0) := r1.cell 1
     have f2 := r1.free 1
     have r2 := r1.put 1 (.slice V m cv)
     have u0 : ((wr.setCell ⟨w.heap.size + 1, 0, none⟩ (.slice A n c)).setCell ⟨w.heap.size + 1, 1, none⟩ (.slice V m cv)).cell? ⟨w.heap.size + 1, 0, none⟩ = some (.slice A n c) := r2.cell 0
     have u1 : ((wr.setCell ⟨w.heap.size + 1, 0, none⟩ (.slice A n c)).setCell ⟨w.heap.size + 1, 1, none⟩ (.slice V m cv)).cell? ⟨w.heap.size + 1, 1, none⟩ = some (.slice V m cv) := r2.cell 1
     have F : AnsSys w (.slice A n c) (.slice V m cv) (sysOkB d.1 d.2) (.returned (.tuple #[.agg #[.slice A n c, .slice V m cv], .bool true])) ((wr.setCell ⟨w.heap.size + 1, 0, none⟩ (.slice A n c)).setCell ⟨w.heap.size + 1, 1, none⟩ (.slice V m cv)) :=
      ⟨by rw [OK.out]; rfl, (hb.setCell (by simp) _).setCell (by simp) _⟩
     have HF := hid F
     clear F hb rr rs r1 r2 LR
     go_wp2
     exact bodyPost_ret (v := .tuple #[.agg #[.slice A n c, .slice V m cv], .bool true]) (by simp [results, Tryz.results73, go_sem, u0, u1]) rfl HF.out
  ·have i1 : (12 : Int) < (m : Int) := by omega
   have y0 : w1.cell? ⟨w.heap.size + 1, 0, none⟩ = some (.slice none 0 0) := rR.cell 0
   have y1 : w1.cell? ⟨w.heap.size + 1, 1, none⟩ = some (.slice none 0 0) := rR.cell 1
   have f0 := rR.free 0
   have f1 := rR.free 1
   have r1 := rR.put 0 (.slice none 0 0)
   have y2 : (w1.setCell ⟨w.heap.size + 1, 0, none⟩ (.slice none 0 0)).cell? ⟨w.heap.size + 1, 1, none⟩ = some (.slice none 0 0) := r1.cell 1
   have f2 := r1.free 1
   have r2 := r1.put 1 (.slice none 0 0)
   have u0 : ((w1.setCell ⟨w.heap.size + 1, 0, none⟩ (.slice none 0 0)).setCell ⟨w.heap.size + 1, 1, none⟩ (.slice none 0 0)).cell? ⟨w.heap.size + 1, 0, none⟩ = some (.slice none 0 0) := r2.cell 0
   have u1 : ((w1.setCell ⟨w.heap.size + 1, 0, none⟩ (.slice none 0 0)).setCell ⟨w.heap.size + 1, 1, none⟩ (.slice none 0 0)).cell? ⟨w.heap.size + 1, 1, none⟩ = some (.slice none 0 0) := r2.cell 1
   have F : AnsSys w (.slice A n c) (.slice V m cv) (sysOkB d.1 d.2) (.returned (.tuple #[.agg #[.slice none 0 0, .slice none 0 0], .bool false])) ((w1.setCell ⟨w.heap.size + 1, 0, none⟩ (.slice none 0 0)).setCell ⟨w.heap.size + 1, 1, none⟩ (.slice none 0 0)) :=
    ⟨by rw [sys_long HM.out h12]; rfl, (bel.setCell (by simp) _).setCell (by simp) _⟩
   have HF := hid F
   clear F bel rA rR r1 r2 LR
   go_wp2
   exact bodyPost_ret (v := .tuple #[.agg #[.slice none 0 0, .slice none 0 0], .bool false]) (by simp [results, Tryz.results73, go_sem, u0, u1]) rfl HF.out
end ruleImpl
end
end Go.Proofs.YtblhmplpcdcejaaGreat
