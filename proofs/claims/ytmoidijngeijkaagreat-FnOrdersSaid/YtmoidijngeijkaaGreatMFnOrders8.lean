/-
  MERGED: my texts BySpec, WalkSpecD, WalkX2, WalkImpl, BySpecB, Big, one behind the other, as they are. By an AI agent.
-/
import Derived.Test.YtmoidijngeijkaaGreatMFnOrders7
namespace Go.Proofs.YtmoidijngeijkaaGreat
section
open Go.Lib (hid)
open List (setIfInBounds_toArray set_cons_zero set_cons_succ getElem_toArray getElem_cons_zero getElem_cons_succ)
namespace bySpec
open Go.RowKit base ints sig term termOk endAt endOf marks app sym sub segs segsHelp kinds termFacts same shifted shape drawX kindsR kindsW varsOf ruleMath ruleSpec stepMath walkMath stepSpec walkSpec ownL heldT orderMath orderSpec
set_option maxRecDepth 100000
structure Wb (w : World) (T : TypeId) (a v : Value) (B : Nat) (X O : Option Addr) (xn xc on oc : Nat) (fr : List Int) (L : List St) (wr : World) : Prop where
 r0 : Row wr w.heap.size T #[a, v]
 r1 : Row wr (w.heap.size + 1) 34 #[.slice none 0 0, .slice none 0 0]
 r3 : Row wr B 34 #[.slice X xn xc, .slice O on oc]
 x : Ownd wr (w.heap.size + 1 + 1) B X xn xc fr
 o : OwnL wr (B + 1) wr.heap.size 75 sStep O on oc L
 b : Below w.heap.size w wr
 z : w.heap.size + 1 + 1 ≤ B
theorem Wb.next {w wr w' : World} {T : TypeId} {a v : Value} {B : Nat} {X O : Option Addr} {xn xc on oc : Nat} {fr : List Int} {L : List St} (h : Wb w T a v B X O xn xc on oc fr L wr) (hb : Below wr.heap.size wr w') : Wb w T a v B X O xn xc on oc fr L w' :=
 ⟨h.r0.next hb, h.r1.next hb, h.r3.next hb, h.x.next hb, (h.o.next hb).wider (Nat.le_refl _) hb.size, next_trans h.b hb, h.z⟩
theorem Wb.app {w w5 w4 : World} {T : TypeId} {a v : Value} {B : Nat} {X O : Option Addr} {xn xc on oc : Nat} {fr : List Int} {L : List St} {O' oc' : Nat} {y : St} {o : Obj} (h : Wb w T a v B X O xn xc on oc fr L w5) (oL4 : OwnL w4 (B + 1) w4.heap.size 75 sStep (some ⟨O', 0, none⟩) (on + 1) oc' (L ++ [y])) (hg4 : (w5.alloc o).grownBy w4 (blk O)) :
  Wb w T a v B X (some ⟨O', 0, none⟩) xn xc (on + 1) oc' fr (L ++ [y]) (w4.setCell ⟨B, 1, none⟩ (.slice (some ⟨O', 0, none⟩) (on + 1) oc')) := by
 have z := h.z
 have hB : B < w5.heap.size := h.r3.lt
 have hblk : ∀ k, blk O = some k → B + 1 ≤ k ∧ k < w5.heap.size := fun k e => h.o.ge k e
 have b0 : Below w5.heap.size w5 (w5.alloc o) := (Below.refl _ _).alloc (Nat.le_refl _) _
 have b4 : Below (B + 1) (w5.alloc o) w4 := (Below.refl _ _).grown hg4 (by simp; omega) (fun k e => (hblk k e).1)
 have b5 : Below (B + 1) w5 w4 := (b0.mono (by omega)).trans b4
 have hz4 : w5.heap.size + 1 ≤ w4.heap.size := by have := hg4.size; simpa using this
 refine ⟨(h.r0.below b5 (by omega)).far (show w.heap.size ≠ B by omega) _, (h.r1.below b5 (by omega)).far (show w.heap.size + 1 ≠ B by omega) _, (h.r3.below b5 (by omega)).put 1 _, ?_, ?_, (h.b.trans (b5.mono (by omega))).setCell (show w.heap.size ≤ B by omega) _, z⟩
 ·exact ((h.x.next b0).btw (lo' := B + 1) (hi' := w4.heap.size) (Btw.of_grown hg4 (fun q hq => by have h8 := hblk q hq; omega)) (.inl (by omega))).btw (lo' := B) (hi' := B + 1) ⟨rfl, rfl, rfl, by simp, fun k hk ho => Below.heap_setCell w4 _ _ k (by show k ≠ B; omega)⟩ (.inl (Nat.le_refl _))
 ·have o5 : OwnL (w4.setCell ⟨B, 1, none⟩ (.slice (some ⟨O', 0, none⟩) (on + 1) oc')) (B + 1) w4.heap.size 75 sStep (some ⟨O', 0, none⟩) (on + 1) oc' (L ++ [y]) := oL4.btw (lo' := B) (hi' := B + 1) ⟨rfl, rfl, rfl, by simp, fun k hk ho => Below.heap_setCell w4 _ _ k (by show k ≠ B; omega)⟩ (.inr (Nat.le_refl _))
  exact o5.wider (Nat.le_refl _) (by simp)
theorem fuel_yes {F : Nat} (h : F ≤ 60) : fuelB (F : Int) = true := decide_eq_true (by omega)
theorem ansWalk_yes {w wr w' : World} {T : TypeId} {a v : Value} {B : Nat} {X O : Option Addr} {xn xc on oc : Nat} {fr : List Int} {L : List St} {k : Wk} {b : Bool} (h : Wb w T a v B X O xn xc on oc fr L wr) (hk : k = (fr, L)) (hb : Below wr.heap.size wr w') :
  AnsWalk w k b (.returned (.tuple #[.agg #[.slice X xn xc, .slice O on oc], .bool b])) ((w'.setCell ⟨w.heap.size + 1, 0, none⟩ (.slice X xn xc)).setCell ⟨w.heap.size + 1, 1, none⟩ (.slice O on oc)) := by
 have h2 := h.next hb
 have z := h.z
 have ow : Owned w' (w.heap.size + 1 + 1) w'.heap.size sWalk [.slice X xn xc, .slice O on oc] (fr, L) := owned_walk (h2.x.wider (Nat.le_refl _) (Nat.le_succ _)) h2.o (by omega) h2.r3.lt
 exact ⟨_, _, _, _, _, _, rfl, by rw [hk]; exact ((ow.put (g := w.heap.size + 1) (i := 0) (by omega)).put (g := w.heap.size + 1) (i := 1) (by omega)).wider (by omega) (by simp), (h2.b.setCell (show w.heap.size ≤ w.heap.size + 1 by omega) _).setCell (show w.heap.size ≤ w.heap.size + 1 by omega) _⟩
theorem AnsWalk.next {w w1 w2 : World} {k : Wk} {b : Bool} {e : Ending} (h : AnsWalk w k b e w1) (hb : Below w1.heap.size w1 w2) : AnsWalk w k b e w2 := by
 obtain ⟨A0, n0, c0, A1, n1, c1, he, ho, hw⟩ := h
 exact ⟨A0, n0, c0, A1, n1, c1, he, (ho.next hb).wider (Nat.le_refl _) hb.size, next_trans hw hb⟩
set_option maxHeartbeats 8000000 in
theorem specWalkBy (a v u : Value) (d : Dat sSystem) (t : List Int) (s f : Int) (w : World) (h : Rd w w.heap.size sSystem [a, v] d) (ht : Rd w w.heap.size sI [u] t) (hz : sz sSystem d ≤ 1048576) (hz' : sz sI t ≤ 1048576) :
  Calls Tryz.prog 9 #[.agg #[a, v], u, .int .i64 s, .int .i64 f] w (AnsWalk w (byW d.1 d.2 t s f) (byD d.1 d.2 t s f)) := by
 obtain ⟨T, m, c, rfl, hT, hcT⟩ := rd_ints.1 ht
 have hm := len_ints hT.1 hz'
 obtain ⟨A, n, cs, V, q, cv, rfl, rfl, -⟩ := rd_sys h hz
 obtain ⟨W, hW, r0, r1, bel⟩ : ∃ W, W = (w.alloc (.cells #[.slice A n cs, .slice V q cv] 29)).alloc (.cells #[.slice none 0 0, .slice none 0 0] 34) ∧ Row W w.heap.size 29 #[.slice A n cs, .slice V q cv] ∧ Row W (w.heap.size + 1) 34 #[.slice none 0 0, .slice none 0 0] ∧ Below w.heap.size w W := by
  refine ⟨_, rfl, (Row.new w _ _).alloc _, ?_, ((Below.refl _ _).alloc (Nat.le_refl _) _).alloc (by simp) _⟩
  have := Row.new (w.alloc (.cells #[.slice A n cs, .slice V q cv] 29)) 34 #[.slice none 0 0, .slice none 0 0]
  simpa using this
 have HW := hid hW
 have LR := hid (l8Right _ _ _ d t s W (h.next bel) (ht.next bel) hz hz')
 have LC := hid (fun (w1 : World) (bb : Below w.heap.size w w1) => copyInts T m c t w1 (hT.next bb) hcT.2.2 hm)
 have LK := hid (fun (w1 : World) (bb : Below w.heap.size w w1) (nw : Value) (x : List Int) (hx : Rd w1 w1.heap.size sI [nw] x) (hx2 : sz sI x ≤ 1048576) => specPickBy _ _ nw d x s w1 (h.next bb) hx hz hx2)
 have LS := hid (fun (w1 : World) (bb : Below w.heap.size w w1) (nw : Value) (x : List Int) (hx : Rd w1 w1.heap.size sI [nw] x) hok y k hy hk => l7Step _ _ nw d x y k w1 (h.next bb) hx hz hok hy hk)
 have LN := hid (fun (w1 : World) (bb : Below w.heap.size w w1) (nw : Value) (x : List Int) (hx : Rd w1 w1.heap.size sI [nw] x) (hx2 : sz sI x ≤ 1048576) => specNormalIn _ _ nw d x w1 (h.next bb) hx hz hx2)
 have K0 : W.cell? ⟨w.heap.size, 0, none⟩ = some (.slice A n cs) := r0.cell 0
 have K1 : W.cell? ⟨w.heap.size, 1, none⟩ = some (.slice V q cv) := r0.cell 1
 clear hW h ht hz hT hcT
 cases ok : (rightB d.1 d.2 t && stratB s) with
 | false =>
  have HS := hid (by_off (by_no1 (f := f) ok))
  rw [ok] at LR
  clear ok LC LK LS LN
  go_enter Tryz.func9, Tryz.ntmps9
  go_wp2_with fail
  rw [← HW.out]
  go_wp2_with fail
  refine LR.out.mono ?_
  rintro e w1 ⟨rfl, bb⟩
  replace r1 := r1.next bb
  replace bel := next_trans bel bb
  clear K0 K1
  have y0 : w1.cell? ⟨w.heap.size + 1, 0, none⟩ = some (.slice none 0 0) := r1.cell 0
  have y1 : w1.cell? ⟨w.heap.size + 1, 1, none⟩ = some (.slice none 0 0) := r1.cell 1
  have g0 := r1.free 0
  have g1 := r1.free 1
  have ra := r1.put 0 (.slice none 0 0)
  have y2 : (w1.setCell ⟨w.heap.size + 1, 0, none⟩ (.slice none 0 0)).cell? ⟨w.heap.size + 1, 1, none⟩ = some (.slice none 0 0) := ra.cell 1
  have g2 := ra.free 1
  have rb := ra.put 1 (.slice none 0 0)
  have u0 : ((w1.setCell ⟨w.heap.size + 1, 0, none⟩ (.slice none 0 0)).setCell ⟨w.heap.size + 1, 1, none⟩ (.slice none 0 0)).cell? ⟨w.heap.size + 1, 0, none⟩ = some (.slice none 0 0) := rb.cell 0
  have u1 : ((w1.setCell ⟨w.heap.size + 1, 0, none⟩ (.slice none 0 0)).setCell ⟨w.heap.size + 1, 1, none⟩ (.slice none 0 0)).cell? ⟨w.heap.size + 1, 1, none⟩ = some (.slice none 0 0) := rb.cell 1
  have FZ : AnsWalk w (byW d.1 d.2 t s f) (byD d.1 d.2 t s f) (.returned (.tuple #[.agg #[.slice none 0 0, .slice none 0 0], .bool false])) ((w1.setCell ⟨w.heap.size + 1, 0, none⟩ (.slice none 0 0)).setCell ⟨w.heap.size + 1, 1, none⟩ (.slice none 0 0)) := ansWalk_no HS.out (((bel).setCell (show w.heap.size ≤ w.heap.size + 1 by omega) _).setCell (show w.heap.size ≤ w.heap.size + 1 by omega) _)
  have HFZ := hid FZ
  clear FZ ra rb bb bel r0 r1 LR
  go_wp2
  exact bodyPost_ret (v := .tuple #[.agg #[.slice none 0 0, .slice none 0 0], .bool false]) (by simp [results, Tryz.results9, go_sem, u0, u1]) rfl HFZ.out
 | true =>
  have HS := hid ok
  rw [ok] at LR
  clear ok
  by_cases hf : 0 ≤ f ∧ f ≤ 60
  ·obtain ⟨F, rfl⟩ := Int.eq_ofNat_of_zero_le hf.1
   have hF : F ≤ 60 := by omega
   have HB := hid (by_yes HS.out (fuel_yes hF))
   have HR := hid ((Bool.and_eq_true _ _).mp HS.out)
   have HIN := hid (fun w1 => inYes (F : Int) 0 60 w1 (by omega))
   have zW : w.heap.size + 1 < W.heap.size := r1.lt
   clear hf
   go_enter Tryz.func9, Tryz.ntmps9
   go_wp2_with fail
   rw [← HW.out]
   go_wp2_with fail
   refine LR.out.mono ?_
   rintro e w1 ⟨rfl, bb⟩
   replace r0 := r0.next bb
   replace r1 := r1.next bb
   replace bel := next_trans bel bb
   have zw1 : w.heap.size + 1 < w1.heap.size := r1.lt
   have LI := hid (HIN.out w1)
   have LC1 := hid (LC.out w1 bel)
   clear bb K0 K1 LR zW HIN
   go_wp2_with fail
   refine LI.out.mono ?_
   rintro e w2 ⟨rfl, rfl⟩
   go_wp2_with fail
   refine LC1.out.mono ?_
   rintro e w3 ⟨X, xn, xc, rfl, oX, bb⟩
   replace r0 := r0.next bb
   replace r1 := r1.next bb
   replace bel := next_trans bel bb
   have zz := bb.size
   have b4 : Below w3.heap.size w3 (w3.alloc (.cells #[.slice X xn xc, .slice none 0 0] 34)) := (Below.refl _ _).alloc (Nat.le_refl _) _
   obtain ⟨W4, hW4⟩ : ∃ W4, W4 = w3.alloc (.cells #[.slice X xn xc, .slice none 0 0] 34) := ⟨_, rfl⟩
   have HI0 := hid (show Wb w 29 (.slice A n cs) (.slice V q cv) w3.heap.size X none xn xc 0 0 t [] W4 from by
    rw [hW4]
    exact ⟨r0.next b4, r1.next b4, Row.new _ _ _, ((Ownd.of_own oX).next b4).wider (by omega) (Nat.le_refl _), OwnL.nil _ _ _ _ _, next_trans bel b4, by omega⟩)
   have LC2 := hid (LC.out W4 HI0.out.b)
   have HW4 := hid hW4
   clear bb oX b4 r0 r1 bel hW4 LC1 HW LI LC
   go_wp2_with fail
   rw [← HW4.out]
   refine LC2.out.mono ?_
   rintro e w5 ⟨N, nn, nc, rfl, oN, bb⟩
   have HI1 := hid (HI0.out.next bb)
   have HN1 := hid (Own.lower oN (show w.heap.size + 1 + 1 ≤ W4.heap.size by have h1 := HI0.out.r3.lt; have h2 := HI0.out.z; omega))
   clear HW4 bb oN HI0 LC2
   generalize w3.heap.size = B at *
   go_wp2_with fail
   go_loopg [11] F (fun g now_ wr => ∃ (i on oc nn nc : Nat) (O N : Option Addr) (L : List St) (x : List Int), now_ = .slice N nn nc ∧ i + g = F ∧ Gone d.1 d.2 s F t i L x ∧ Wb w 29 (.slice A n cs) (.slice V q cv) B X O xn xc on oc t L wr ∧ Own wr (w.heap.size + 1 + 1) (.slice N nn nc) x)
   case atStart => exact ⟨0, 0, 0, _, _, _, _, _, _, rfl, by omega, gone_zero HR.out.1, HI1.out, HN1.out⟩
   case round =>
    clear HI1 HN1
    obtain ⟨i, on, oc, nn, nc, O, N, L, x, rfl, hig, G, J, hN⟩ := hrel
    have HI := hid hig
    have HG := hid G
    have hon : on = i := by rw [← G.2.1, J.o.1]
    subst hon
    have hx60 : x.length ≤ 60 := (term_len (right_parts G.2.2.2.1).2).2
    have hx2 : sz sI x ≤ 1048576 := by rw [sz_ints]; omega
    have K0 : wr.cell? ⟨w.heap.size, 0, none⟩ = some (.slice A n cs) := J.r0.cell 0
    have K1 : wr.cell? ⟨w.heap.size, 1, none⟩ = some (.slice V q cv) := J.r0.cell 1
    have K2 : wr.cell? ⟨B, 0, none⟩ = some (.slice X xn xc) := J.r3.cell 0
    have K3 : wr.cell? ⟨B, 1, none⟩ = some (.slice O on oc) := J.r3.cell 1
    have HJ := hid J
    have HNR := hid hN
    have HX2 := hid hx2
    clear J hN hig G hx2
    by_cases hlt : on < F
    ·have h1 : (on : Int) < (F : Int) := by omega
     have LK1 := hid (LK.out wr HJ.out.b _ x (rd_own HNR.out) HX2.out)
     rw [pickO_yes HG.out.2.2.2.1 HR.out.2] at LK1
     cases hp : pickL d.1 d.2 x s with
     | none =>
      have HP := hid (gone_none HG.out hp)
      rw [hp] at LK1
      clear hp LK LS
      go_wp2_with fail
      refine LK1.out.mono ?_
      rintro e w6 ⟨he, bb⟩
      have he : e = .returned (.tuple #[.int .i64 0, .int .i64 0, .bool false]) := he
      subst he
      have HJ2 := hid (HJ.out.next bb)
      have HN2 := hid (HNR.out.next bb)
      clear K0 K1 K2 K3 bb HJ HNR LK1
      go_upto_region 12 with fail
      have HZ := hid (by_done HP.out HG.out.2.2.1 HB.out)
      have c0 : w6.cell? ⟨w.heap.size, 0, none⟩ = some (.slice A n cs) := HJ2.out.r0.cell 0
      have c1 : w6.cell? ⟨w.heap.size, 1, none⟩ = some (.slice V q cv) := HJ2.out.r0.cell 1
      have c2 : w6.cell? ⟨B, 0, none⟩ = some (.slice X xn xc) := HJ2.out.r3.cell 0
      have c3 : w6.cell? ⟨B, 1, none⟩ = some (.slice O on oc) := HJ2.out.r3.cell 1
      have zS : w.heap.size < w6.drew.heap.size := show w.heap.size < w6.heap.size from HJ2.out.r0.lt
      have zB : B < w6.drew.heap.size := show B < w6.heap.size from HJ2.out.r3.lt
      have LN1 := hid (LN.out w6.drew (next_trans HJ2.out.b (drew_below w6)) _ x (rd_own (HN2.out.next (drew_below w6))) HX2.out)
      have HBD := hid (drew_below w6)
      clear LN HN2
      refine AnyT.start (S := (fun w' => w'.cell? ⟨w.heap.size, 0, none⟩ = some (.slice A n cs) ∧ w'.cell? ⟨w.heap.size, 1, none⟩ = some (.slice V q cv) ∧ w'.cell? ⟨B, 0, none⟩ = some (.slice X xn xc) ∧ w'.cell? ⟨B, 1, none⟩ = some (.slice O on oc))) (fun _ => false) (by kernel_rfl) ⟨c0, c1, c2, c3⟩ (fun hHeld => ?_)
      refine AnyT.take (i := 0) (v := ?_) rfl (by kernel_rfl) (by kernel_rfl) (by kernel_rfl) (by kernel_rfl) (fun _ _ _ h => h) (Or.inl ⟨by rfl, ?_⟩) (by assumption) ?_
      rotate_left 1
      ·(intro w0 hSw; (try dsimp only at hSw); go_simp; try with_reducible rfl)
      try simp only [Act.put, setIfInBounds_toArray, set_cons_zero, set_cons_succ, getElem_toArray, getElem_cons_zero, getElem_cons_succ]
      refine AnyT.take (i := 1) (v := ?_) rfl (by kernel_rfl) (by kernel_rfl) (by kernel_rfl) (by kernel_rfl) (fun _ _ _ h => h) (Or.inl ⟨by rfl, ?_⟩) (by assumption) ?_
      rotate_left 1
      ·(intro w0 hSw; (try dsimp only at hSw); go_simp; try with_reducible rfl)
      try simp only [Act.put, setIfInBounds_toArray, set_cons_zero, set_cons_succ, getElem_toArray, getElem_cons_zero, getElem_cons_succ]
      refine AnyT.takeA (i := 2) (v := ?_) rfl (by kernel_rfl) (by kernel_rfl) (by kernel_rfl) (fun _ _ _ h => h) (Or.inl ⟨by rfl, ?_⟩) ?_
      rotate_left 1
      ·(intro w0 _; go_simp; try with_reducible rfl)
      try simp only [Act.put, setIfInBounds_toArray, set_cons_zero, set_cons_succ, getElem_toArray, getElem_cons_zero, getElem_cons_succ]
      refine AnyT.call (i := 3) (by kernel_rfl) rfl (fun K hK => ?_)
      try simp only [Act.put, setIfInBounds_toArray, set_cons_zero, set_cons_succ, getElem_toArray, getElem_cons_zero, getElem_cons_succ]
      rw [if_pos (by rfl)]
      go_simp
      (go_at_call 42; refine LN1.out.mono ?_; rintro e w9 ⟨rfl, bb9⟩; have e0 : w9.cell? ⟨w.heap.size, 0, none⟩ = some (.slice A n cs) := (bb9.cell (p := ⟨w.heap.size, 0, none⟩) zS).trans c0; have e1 : w9.cell? ⟨w.heap.size, 1, none⟩ = some (.slice V q cv) := (bb9.cell (p := ⟨w.heap.size, 1, none⟩) zS).trans c1; have e2 : w9.cell? ⟨B, 0, none⟩ = some (.slice X xn xc) := (bb9.cell (p := ⟨B, 0, none⟩) zB).trans c2; have e3 : w9.cell? ⟨B, 1, none⟩ = some (.slice O on oc) := (bb9.cell (p := ⟨B, 1, none⟩) zB).trans c3; go_wp2_with fail)
      refine hK.out _ _ (fun _ _ => ?_) (fun hKeep => ?_)
      ·exact ⟨e0, e1, e2, e3⟩
      replace hHeld := hKeep (by first | rfl | trivial) hHeld
      clear hK K hKeep
      try simp only [Act.put, setIfInBounds_toArray, set_cons_zero, set_cons_succ, getElem_toArray, getElem_cons_zero, getElem_cons_succ]
      have hb9 := HBD.out.trans bb9
      have r9 := HJ2.out.r1.next hb9
      have g0 := r9.free 0
      have g1 := r9.free 1
      have y0 : w9.cell? ⟨w.heap.size + 1, 0, none⟩ = some (.slice none 0 0) := r9.cell 0
      have y1 : w9.cell? ⟨w.heap.size + 1, 1, none⟩ = some (.slice none 0 0) := r9.cell 1
      have ra := r9.put 0 (.slice X xn xc)
      have y2 : (w9.setCell ⟨w.heap.size + 1, 0, none⟩ (.slice X xn xc)).cell? ⟨w.heap.size + 1, 1, none⟩ = some (.slice none 0 0) := ra.cell 1
      have g2 := ra.free 1
      have rb := ra.put 1 (.slice O on oc)
      have u0 : ((w9.setCell ⟨w.heap.size + 1, 0, none⟩ (.slice X xn xc)).setCell ⟨w.heap.size + 1, 1, none⟩ (.slice O on oc)).cell? ⟨w.heap.size + 1, 0, none⟩ = some (.slice X xn xc) := rb.cell 0
      have u1 : ((w9.setCell ⟨w.heap.size + 1, 0, none⟩ (.slice X xn xc)).setCell ⟨w.heap.size + 1, 1, none⟩ (.slice O on oc)).cell? ⟨w.heap.size + 1, 1, none⟩ = some (.slice O on oc) := rb.cell 1
      have j9 := HJ2.out.next hb9
      have a0 := (j9.r0.far (show w.heap.size ≠ w.heap.size + 1 by omega) (p := ⟨w.heap.size + 1, 0, none⟩) (.slice X xn xc)).far (show w.heap.size ≠ w.heap.size + 1 by omega) (p := ⟨w.heap.size + 1, 1, none⟩) (.slice O on oc)
      have a3 := (j9.r3.far (show B ≠ w.heap.size + 1 by have := j9.z; omega) (p := ⟨w.heap.size + 1, 0, none⟩) (.slice X xn xc)).far (show B ≠ w.heap.size + 1 by have := j9.z; omega) (p := ⟨w.heap.size + 1, 1, none⟩) (.slice O on oc)
      have FZ : AnsWalk w (byW d.1 d.2 t s (F : Int)) (byD d.1 d.2 t s (F : Int)) (.returned (.tuple #[.agg #[.slice X xn xc, .slice O on oc], .bool (normalB d.1 d.2 x)])) ((w9.setCell ⟨w.heap.size + 1, 0, none⟩ (.slice X xn xc)).setCell ⟨w.heap.size + 1, 1, none⟩ (.slice O on oc)) := by
       rw [← HZ.out.2]
       exact ansWalk_yes (b := byD d.1 d.2 t s (F : Int)) HJ2.out HZ.out.1 hb9
      have HFZ := hid FZ
      have HA0 := hid a0
      have HA3 := hid a3
      clear FZ ra rb r9 hb9 bb9 j9 a0 a3
      refine AnyT.call (i := 4) (by kernel_rfl) rfl (fun K hK => ?_)
      try simp only [Act.put, setIfInBounds_toArray, set_cons_zero, set_cons_succ, getElem_toArray, getElem_cons_zero, getElem_cons_succ]
      rw [if_pos (by rfl)]
      go_simp
      refine hK.out _ _ (fun _ _ => ?_) (fun hKeep => ?_)
      ·exact ⟨HA0.out.cell 0, HA0.out.cell 1, HA3.out.cell 0, HA3.out.cell 1⟩
      replace hHeld := hKeep (by first | rfl | trivial) hHeld
      clear hK K hKeep
      try simp only [Act.put, setIfInBounds_toArray, set_cons_zero, set_cons_succ, getElem_toArray, getElem_cons_zero, getElem_cons_succ]
      refine AnyT.takeA (i := 5) (v := ?_) rfl (by kernel_rfl) (by kernel_rfl) (by kernel_rfl) (fun _ _ _ h => h) (Or.inl ⟨by rfl, ?_⟩) ?_
      rotate_left 1
      ·(intro w0 _; go_simp; try with_reducible rfl)
      try simp only [Act.put, setIfInBounds_toArray, set_cons_zero, set_cons_succ, getElem_toArray, getElem_cons_zero, getElem_cons_succ]
      refine AnyT.done (by kernel_rfl) ?_ _
      go_wp2
      exact bodyPost_ret (v := .tuple #[.agg #[.slice X xn xc, .slice O on oc], .bool (normalB d.1 d.2 x)]) (by simp [results, Tryz.results9, go_sem, u0, u1]) rfl HFZ.out
     | some p =>
      obtain ⟨pa, pk, rfl, hpa, hpk, hred, -, hst⟩ := pick_step HG.out.2.2.2.1 hp
      have LS1 := hid (fun (w1 : World) (bb : Below wr.heap.size wr w1) => LS.out w1 (next_trans HJ.out.b bb) _ x (rd_own (HNR.out.next bb)) HG.out.2.2.2.1 pa pk hpa hpk)
      have HP := hid hp
      rw [hp] at LK1
      have LK2 := hid (show Calls Tryz.prog 40 #[.agg #[.slice A n cs, .slice V q cv], .slice N nn nc, .int .i64 s] wr (fun e w' => e = .returned (.tuple #[.int .i64 (pa : Int), .int .i64 (pk : Int), .bool true]) ∧ Below wr.heap.size wr w') from LK1.out)
      have HST := hid hst
      obtain ⟨so, hso⟩ : ∃ so, stepO d.1 (d.2.getD pk ([], [])) x pa = so := ⟨_, rfl⟩
      rw [hso] at LS1 HST
      have HSO := hid hso
      clear hp LK LS LK1 hst hso hred
      cases so with
      | none =>
       have HQ := hid (gone_stop HG.out HP.out HST.out)
       go_wp2_with fail
       refine LK2.out.mono ?_
       rintro e w6 ⟨rfl, bb⟩
       have HJ2 := hid (HJ.out.next bb)
       have LS2 := hid (LS1.out w6 bb)
       have HN2 := hid (HNR.out.next bb)
       have k0 : w6.cell? ⟨w.heap.size, 0, none⟩ = some (.slice A n cs) := HJ2.out.r0.cell 0
       have k1 : w6.cell? ⟨w.heap.size, 1, none⟩ = some (.slice V q cv) := HJ2.out.r0.cell 1
       clear K0 K1 K2 K3 bb HJ HNR LK2 LS1
       go_wp2_with fail
       refine LS2.out.mono ?_
       rintro e w7 ⟨Y, yn, yc, he, oY, bb⟩
       have he : e = .returned (.tuple #[.slice Y yn yc, .bool false]) := he
       subst he
       have HJ3 := hid (HJ2.out.next bb)
       have HN3 := hid (HN2.out.next bb)
       clear k0 k1 bb HJ2 HN2 LS2 oY
       go_upto_region 12 with fail
       have HZ := hid (by_done HQ.out HG.out.2.2.1 HB.out)
       have c0 : w7.cell? ⟨w.heap.size, 0, none⟩ = some (.slice A n cs) := HJ3.out.r0.cell 0
       have c1 : w7.cell? ⟨w.heap.size, 1, none⟩ = some (.slice V q cv) := HJ3.out.r0.cell 1
       have c2 : w7.cell? ⟨B, 0, none⟩ = some (.slice X xn xc) := HJ3.out.r3.cell 0
       have c3 : w7.cell? ⟨B, 1, none⟩ = some (.slice O on oc) := HJ3.out.r3.cell 1
       have zS : w.heap.size < w7.drew.heap.size := show w.heap.size < w7.heap.size from HJ3.out.r0.lt
       have zB : B < w7.drew.heap.size := show B < w7.heap.size from HJ3.out.r3.lt
       have LN1 := hid (LN.out w7.drew (next_trans HJ3.out.b (drew_below w7)) _ x (rd_own (HN3.out.next (drew_below w7))) HX2.out)
       have HBD := hid (drew_below w7)
       clear LN HN3
       refine AnyT.start (S := (fun w' => w'.cell? ⟨w.heap.size, 0, none⟩ = some (.slice A n cs) ∧ w'.cell? ⟨w.heap.size, 1, none⟩ = some (.slice V q cv) ∧ w'.cell? ⟨B, 0, none⟩ = some (.slice X xn xc) ∧ w'.cell? ⟨B, 1, none⟩ = some (.slice O on oc))) (fun _ => false) (by kernel_rfl) ⟨c0, c1, c2, c3⟩ (fun hHeld => ?_)
       refine AnyT.take (i := 0) (v := ?_) rfl (by kernel_rfl) (by kernel_rfl) (by kernel_rfl) (by kernel_rfl) (fun _ _ _ h => h) (Or.inl ⟨by rfl, ?_⟩) (by assumption) ?_
       rotate_left 1
       ·(intro w0 hSw; (try dsimp only at hSw); go_simp; try with_reducible rfl)
       try simp only [Act.put, setIfInBounds_toArray, set_cons_zero, set_cons_succ, getElem_toArray, getElem_cons_zero, getElem_cons_succ]
       refine AnyT.take (i := 1) (v := ?_) rfl (by kernel_rfl) (by kernel_rfl) (by kernel_rfl) (by kernel_rfl) (fun _ _ _ h => h) (Or.inl ⟨by rfl, ?_⟩) (by assumption) ?_
       rotate_left 1
       ·(intro w0 hSw; (try dsimp only at hSw); go_simp; try with_reducible rfl)
       try simp only [Act.put, setIfInBounds_toArray, set_cons_zero, set_cons_succ, getElem_toArray, getElem_cons_zero, getElem_cons_succ]
       refine AnyT.takeA (i := 2) (v := ?_) rfl (by kernel_rfl) (by kernel_rfl) (by kernel_rfl) (fun _ _ _ h => h) (Or.inl ⟨by rfl, ?_⟩) ?_
       rotate_left 1
       ·(intro w0 _; go_simp; try with_reducible rfl)
       try simp only [Act.put, setIfInBounds_toArray, set_cons_zero, set_cons_succ, getElem_toArray, getElem_cons_zero, getElem_cons_succ]
       refine AnyT.call (i := 3) (by kernel_rfl) rfl (fun K hK => ?_)
       try simp only [Act.put, setIfInBounds_toArray, set_cons_zero, set_cons_succ, getElem_toArray, getElem_cons_zero, getElem_cons_succ]
       rw [if_pos (by rfl)]
       go_simp
       (go_at_call 42; refine LN1.out.mono ?_; rintro e w9 ⟨rfl, bb9⟩; have e0 : w9.cell? ⟨w.heap.size, 0, none⟩ = some (.slice A n cs) := (bb9.cell (p := ⟨w.heap.size, 0, none⟩) zS).trans c0; have e1 : w9.cell? ⟨w.heap.size, 1, none⟩ = some (.slice V q cv) := (bb9.cell (p := ⟨w.heap.size, 1, none⟩) zS).trans c1; have e2 : w9.cell? ⟨B, 0, none⟩ = some (.slice X xn xc) := (bb9.cell (p := ⟨B, 0, none⟩) zB).trans c2; have e3 : w9.cell? ⟨B, 1, none⟩ = some (.slice O on oc) := (bb9.cell (p := ⟨B, 1, none⟩) zB).trans c3; go_wp2_with fail)
       refine hK.out _ _ (fun _ _ => ?_) (fun hKeep => ?_)
       ·exact ⟨e0, e1, e2, e3⟩
       replace hHeld := hKeep (by first | rfl | trivial) hHeld
       clear hK K hKeep
       try simp only [Act.put, setIfInBounds_toArray, set_cons_zero, set_cons_succ, getElem_toArray, getElem_cons_zero, getElem_cons_succ]
       have hb9 := HBD.out.trans bb9
       have r9 := HJ3.out.r1.next hb9
       have g0 := r9.free 0
       have g1 := r9.free 1
       have y0 : w9.cell? ⟨w.heap.size + 1, 0, none⟩ = some (.slice none 0 0) := r9.cell 0
       have y1 : w9.cell? ⟨w.heap.size + 1, 1, none⟩ = some (.slice none 0 0) := r9.cell 1
       have ra := r9.put 0 (.slice X xn xc)
       have y2 : (w9.setCell ⟨w.heap.size + 1, 0, none⟩ (.slice X xn xc)).cell? ⟨w.heap.size + 1, 1, none⟩ = some (.slice none 0 0) := ra.cell 1
       have g2 := ra.free 1
       have rb := ra.put 1 (.slice O on oc)
       have u0 : ((w9.setCell ⟨w.heap.size + 1, 0, none⟩ (.slice X xn xc)).setCell ⟨w.heap.size + 1, 1, none⟩ (.slice O on oc)).cell? ⟨w.heap.size + 1, 0, none⟩ = some (.slice X xn xc) := rb.cell 0
       have u1 : ((w9.setCell ⟨w.heap.size + 1, 0, none⟩ (.slice X xn xc)).setCell ⟨w.heap.size + 1, 1, none⟩ (.slice O on oc)).cell? ⟨w.heap.size + 1, 1, none⟩ = some (.slice O on oc) := rb.cell 1
       have j9 := HJ3.out.next hb9
       have a0 := (j9.r0.far (show w.heap.size ≠ w.heap.size + 1 by omega) (p := ⟨w.heap.size + 1, 0, none⟩) (.slice X xn xc)).far (show w.heap.size ≠ w.heap.size + 1 by omega) (p := ⟨w.heap.size + 1, 1, none⟩) (.slice O on oc)
       have a3 := (j9.r3.far (show B ≠ w.heap.size + 1 by have := j9.z; omega) (p := ⟨w.heap.size + 1, 0, none⟩) (.slice X xn xc)).far (show B ≠ w.heap.size + 1 by have := j9.z; omega) (p := ⟨w.heap.size + 1, 1, none⟩) (.slice O on oc)
       have FZ : AnsWalk w (byW d.1 d.2 t s (F : Int)) (byD d.1 d.2 t s (F : Int)) (.returned (.tuple #[.agg #[.slice X xn xc, .slice O on oc], .bool (normalB d.1 d.2 x)])) ((w9.setCell ⟨w.heap.size + 1, 0, none⟩ (.slice X xn xc)).setCell ⟨w.heap.size + 1, 1, none⟩ (.slice O on oc)) := by
        rw [← HZ.out.2]
        exact ansWalk_yes (b := byD d.1 d.2 t s (F : Int)) HJ3.out HZ.out.1 hb9
       have HFZ := hid FZ
       have HA0 := hid a0
       have HA3 := hid a3
       clear FZ ra rb r9 hb9 bb9 j9 a0 a3
       refine AnyT.call (i := 4) (by kernel_rfl) rfl (fun K hK => ?_)
       try simp only [Act.put, setIfInBounds_toArray, set_cons_zero, set_cons_succ, getElem_toArray, getElem_cons_zero, getElem_cons_succ]
       rw [if_pos (by rfl)]
       go_simp
       refine hK.out _ _ (fun _ _ => ?_) (fun hKeep => ?_)
       ·exact ⟨HA0.out.cell 0, HA0.out.cell 1, HA3.out.cell 0, HA3.out.cell 1⟩
       replace hHeld := hKeep (by first | rfl | trivial) hHeld
       clear hK K hKeep
       try simp only [Act.put, setIfInBounds_toArray, set_cons_zero, set_cons_succ, getElem_toArray, getElem_cons_zero, getElem_cons_succ]
       refine AnyT.takeA (i := 5) (v := ?_) rfl (by kernel_rfl) (by kernel_rfl) (by kernel_rfl) (fun _ _ _ h => h) (Or.inl ⟨by rfl, ?_⟩) ?_
       rotate_left 1
       ·(intro w0 _; go_simp; try with_reducible rfl)
       try simp only [Act.put, setIfInBounds_toArray, set_cons_zero, set_cons_succ, getElem_toArray, getElem_cons_zero, getElem_cons_succ]
       refine AnyT.done (by kernel_rfl) ?_ _
       go_wp2
       exact bodyPost_ret (v := .tuple #[.agg #[.slice X xn xc, .slice O on oc], .bool (normalB d.1 d.2 x)]) (by simp [results, Tryz.results9, go_sem, u0, u1]) rfl HFZ.out
      | some y =>
       have HG2 := hid (gone_step HG.out hlt HP.out HST.out)
       have HL60 : L.length ≤ 60 := by rw [HG.out.2.1]; omega
       go_wp2_with fail
       refine LK2.out.mono ?_
       rintro e w6 ⟨rfl, bb⟩
       have HJ2 := hid (HJ.out.next bb)
       have LS2 := hid (LS1.out w6 bb)
       have k0 : w6.cell? ⟨w.heap.size, 0, none⟩ = some (.slice A n cs) := HJ2.out.r0.cell 0
       have k1 : w6.cell? ⟨w.heap.size, 1, none⟩ = some (.slice V q cv) := HJ2.out.r0.cell 1
       clear K0 K1 K2 K3 bb HJ HNR LK2 LS1
       go_wp2_with fail
       refine LS2.out.mono ?_
       rintro e w7 ⟨Y, yn, yc, he, oY, bb⟩
       have he : e = .returned (.tuple #[.slice Y yn yc, .bool true]) := he
       subst he
       have oY : Own w7 w6.heap.size (.slice Y yn yc) y := oY
       have J3 := HJ2.out.next bb
       have c3 : w7.cell? ⟨B, 1, none⟩ = some (.slice O on oc) := J3.r3.cell 1
       have zB : B + 1 ≤ w6.heap.size := HJ2.out.r3.lt
       have b3 : Below w7.heap.size w7 (w7.alloc (.cells #[.int .i64 (pa : Int), .int .i64 (pk : Int), .slice Y yn yc] 75)) := (Below.refl _ _).alloc (Nat.le_refl _) _
       have z2 := bb.size
       have HAPP := hid (show OwnL (w7.alloc (.cells #[.int .i64 (pa : Int), .int .i64 (pk : Int), .slice Y yn yc] 75)) (B + 1) w6.heap.size 75 sStep O on oc L ∧ OwnL (w7.alloc (.cells #[.int .i64 (pa : Int), .int .i64 (pk : Int), .slice Y yn yc] 75)) w6.heap.size (w7.heap.size + 1) 75 sStep (some ⟨w7.heap.size, 0, none⟩) 1 1 [((pa : Int), (pk : Int), y)] from
        ⟨(HJ2.out.o.next bb).next b3, OwnL.single (e := 75) (s := sStep) (Row.new w7 75 #[.int .i64 (pa : Int), .int .i64 (pk : Int), .slice Y yn yc]) ((owned_step oY (pa : Int) (pk : Int)).next b3) (Nat.le_refl _) z2⟩)
       have HBY := hid (show ∀ k, blk O = some k → k < w6.heap.size from fun k e => (HJ2.out.o.ge k e).2)
       have HJ3 := hid J3
       have HOY := hid (oY.next b3)
       have HYG := hid (show ∀ k, blk Y = some k → w6.heap.size ≤ k from fun k e => (ownLt oY k e).1)
       have r3 := J3.r3.next b3
       have HR3 := hid r3
       clear k0 k1 bb HJ2 LS2 oY b3 J3 r3
       go_wp2_with (at_builtin; refine appLm rfl _ _ 32 75 sStep _ _ Tryz.underlying32 info_StepS rfl (by decide) rfl (B + 1) w6.heap.size w6.heap.size (w7.heap.size + 1) O on oc w7.heap.size 1 1 _ _ rfl HAPP.out.1 rfl HAPP.out.2 (Nat.le_refl _) zB (by omega) (by omega) (by simp; omega) ?_; intro A4 oc' w4 oL4 hg4 hat4 b4 hf4; obtain ⟨O', rfl⟩ := hf4 (.inr (by omega)); have rB4 := HR3.out.below b4 (show B < B + 1 by omega); have y1 : w4.cell? ⟨B, 1, none⟩ = some (.slice O on oc) := rB4.cell 1; have g1 := rB4.free 1; refine (?_ : Hid _).out)
       have HJ5 := hid (HJ3.out.app oL4 hg4)
       have oY4 : Own w4 w6.heap.size (.slice Y yn yc) y := Go.Proofs.YtmoidijngeijkaaGreat.appAt.Own.kept HOY.out hg4 (by
        cases hY : blk Y with
        | none => exact .inl rfl
        | some k => exact .inr fun e => by have h1 := HYG.out k hY; have h2 := HBY.out k e.symm; omega)
       have oY5 := (Ownd.of_own oY4).btw (w' := w4.setCell ⟨B, 1, none⟩ (.slice (some ⟨O', 0, none⟩) (on + 1) oc')) (lo' := B) (hi' := B + 1) ⟨rfl, rfl, rfl, by simp, fun k hk ho => Below.heap_setCell w4 _ _ k (by show k ≠ B; omega)⟩ (.inr (by omega))
       have hy60 : y.length ≤ 60 := (term_len (right_parts HG2.out.2.2.2.1).2).2
       have LC3 := hid (copyInts Y yn yc y _ (Own.seg oY5.1) (look.own_cap oY5.1).2.2 (by have := Own.len oY5.1; omega))
       clear oL4 hg4 hat4 b4 hf4 HAPP HJ3 HOY HBY HYG HR3 rB4 oY4 oY5
       refine hid ?_
       go_wp2_with fail
       refine LC3.out.mono ?_
       rintro e w8 ⟨N2, nn2, nc2, rfl, oN, bb⟩
       have HJ6 := hid (HJ5.out.next bb)
       have HN6 := hid (Own.lower oN (show w.heap.size + 1 + 1 ≤ _ by have h1 := HJ5.out.r3.lt; have h2 := HJ5.out.z; omega))
       clear bb oN HJ5 LC3 y1 g1 c3
       go_wp2
       go_roundg (gk - 1)
       case measure => have := HI.out; omega
       case rel => exact ⟨on + 1, on + 1, oc', nn2, nc2, some ⟨O', 0, none⟩, N2, L ++ [((pa : Int), (pk : Int), y)], y, rfl, by have := HI.out; omega, HG2.out, HJ6.out, HN6.out⟩
    ·have HP := hid (gone_full HG.out hlt)
     have h1 : ¬ (on : Int) < (F : Int) := by omega
     clear LK LS
     go_upto_region 12 with fail
     have HJ2 := HJ
     have HN2 := HNR
     clear HJ HNR K0 K1 K2 K3
     have HZ := hid (by_done HP.out HG.out.2.2.1 HB.out)
     have c0 : wr.cell? ⟨w.heap.size, 0, none⟩ = some (.slice A n cs) := HJ2.out.r0.cell 0
     have c1 : wr.cell? ⟨w.heap.size, 1, none⟩ = some (.slice V q cv) := HJ2.out.r0.cell 1
     have c2 : wr.cell? ⟨B, 0, none⟩ = some (.slice X xn xc) := HJ2.out.r3.cell 0
     have c3 : wr.cell? ⟨B, 1, none⟩ = some (.slice O on oc) := HJ2.out.r3.cell 1
     have zS : w.heap.size < wr.drew.heap.size := show w.heap.size < wr.heap.size from HJ2.out.r0.lt
     have zB : B < wr.drew.heap.size := show B < wr.heap.size from HJ2.out.r3.lt
     have LN1 := hid (LN.out wr.drew (next_trans HJ2.out.b (drew_below wr)) _ x (rd_own (HN2.out.next (drew_below wr))) HX2.out)
     have HBD := hid (drew_below wr)
     clear LN HN2
     refine AnyT.start (S := (fun w' => w'.cell? ⟨w.heap.size, 0, none⟩ = some (.slice A n cs) ∧ w'.cell? ⟨w.heap.size, 1, none⟩ = some (.slice V q cv) ∧ w'.cell? ⟨B, 0, none⟩ = some (.slice X xn xc) ∧ w'.cell? ⟨B, 1, none⟩ = some (.slice O on oc))) (fun _ => false) (by kernel_rfl) ⟨c0, c1, c2, c3⟩ (fun hHeld => ?_)
     refine AnyT.take (i := 0) (v := ?_) rfl (by kernel_rfl) (by kernel_rfl) (by kernel_rfl) (by kernel_rfl) (fun _ _ _ h => h) (Or.inl ⟨by rfl, ?_⟩) (by assumption) ?_
     rotate_left 1
     ·(intro w0 hSw; (try dsimp only at hSw); go_simp; try with_reducible rfl)
     try simp only [Act.put, setIfInBounds_toArray, set_cons_zero, set_cons_succ, getElem_toArray, getElem_cons_zero, getElem_cons_succ]
     refine AnyT.take (i := 1) (v := ?_) rfl (by kernel_rfl) (by kernel_rfl) (by kernel_rfl) (by kernel_rfl) (fun _ _ _ h => h) (Or.inl ⟨by rfl, ?_⟩) (by assumption) ?_
     rotate_left 1
     ·(intro w0 hSw; (try dsimp only at hSw); go_simp; try with_reducible rfl)
     try simp only [Act.put, setIfInBounds_toArray, set_cons_zero, set_cons_succ, getElem_toArray, getElem_cons_zero, getElem_cons_succ]
     refine AnyT.takeA (i := 2) (v := ?_) rfl (by kernel_rfl) (by kernel_rfl) (by kernel_rfl) (fun _ _ _ h => h) (Or.inl ⟨by rfl, ?_⟩) ?_
     rotate_left 1
     ·(intro w0 _; go_simp; try with_reducible rfl)
     try simp only [Act.put, setIfInBounds_toArray, set_cons_zero, set_cons_succ, getElem_toArray, getElem_cons_zero, getElem_cons_succ]
     refine AnyT.call (i := 3) (by kernel_rfl) rfl (fun K hK => ?_)
     try simp only [Act.put, setIfInBounds_toArray, set_cons_zero, set_cons_succ, getElem_toArray, getElem_cons_zero, getElem_cons_succ]
     rw [if_pos (by rfl)]
     go_simp
     (go_at_call 42; refine LN1.out.mono ?_; rintro e w9 ⟨rfl, bb9⟩; have e0 : w9.cell? ⟨w.heap.size, 0, none⟩ = some (.slice A n cs) := (bb9.cell (p := ⟨w.heap.size, 0, none⟩) zS).trans c0; have e1 : w9.cell? ⟨w.heap.size, 1, none⟩ = some (.slice V q cv) := (bb9.cell (p := ⟨w.heap.size, 1, none⟩) zS).trans c1; have e2 : w9.cell? ⟨B, 0, none⟩ = some (.slice X xn xc) := (bb9.cell (p := ⟨B, 0, none⟩) zB).trans c2; have e3 : w9.cell? ⟨B, 1, none⟩ = some (.slice O on oc) := (bb9.cell (p := ⟨B, 1, none⟩) zB).trans c3; go_wp2_with fail)
     refine hK.out _ _ (fun _ _ => ?_) (fun hKeep => ?_)
     ·exact ⟨e0, e1, e2, e3⟩
     replace hHeld := hKeep (by first | rfl | trivial) hHeld
     clear hK K hKeep
     try simp only [Act.put, setIfInBounds_toArray, set_cons_zero, set_cons_succ, getElem_toArray, getElem_cons_zero, getElem_cons_succ]
     have hb9 := HBD.out.trans bb9
     have r9 := HJ2.out.r1.next hb9
     have g0 := r9.free 0
     have g1 := r9.free 1
     have y0 : w9.cell? ⟨w.heap.size + 1, 0, none⟩ = some (.slice none 0 0) := r9.cell 0
     have y1 : w9.cell? ⟨w.heap.size + 1, 1, none⟩ = some (.slice none 0 0) := r9.cell 1
     have ra := r9.put 0 (.slice X xn xc)
     have y2 : (w9.setCell ⟨w.heap.size + 1, 0, none⟩ (.slice X xn xc)).cell? ⟨w.heap.size + 1, 1, none⟩ = some (.slice none 0 0) := ra.cell 1
     have g2 := ra.free 1
     have rb := ra.put 1 (.slice O on oc)
     have u0 : ((w9.setCell ⟨w.heap.size + 1, 0, none⟩ (.slice X xn xc)).setCell ⟨w.heap.size + 1, 1, none⟩ (.slice O on oc)).cell? ⟨w.heap.size + 1, 0, none⟩ = some (.slice X xn xc) := rb.cell 0
     have u1 : ((w9.setCell ⟨w.heap.size + 1, 0, none⟩ (.slice X xn xc)).setCell ⟨w.heap.size + 1, 1, none⟩ (.slice O on oc)).cell? ⟨w.heap.size + 1, 1, none⟩ = some (.slice O on oc) := rb.cell 1
     have j9 := HJ2.out.next hb9
     have a0 := (j9.r0.far (show w.heap.size ≠ w.heap.size + 1 by omega) (p := ⟨w.heap.size + 1, 0, none⟩) (.slice X xn xc)).far (show w.heap.size ≠ w.heap.size + 1 by omega) (p := ⟨w.heap.size + 1, 1, none⟩) (.slice O on oc)
     have a3 := (j9.r3.far (show B ≠ w.heap.size + 1 by have := j9.z; omega) (p := ⟨w.heap.size + 1, 0, none⟩) (.slice X xn xc)).far (show B ≠ w.heap.size + 1 by have := j9.z; omega) (p := ⟨w.heap.size + 1, 1, none⟩) (.slice O on oc)
     have FZ : AnsWalk w (byW d.1 d.2 t s (F : Int)) (byD d.1 d.2 t s (F : Int)) (.returned (.tuple #[.agg #[.slice X xn xc, .slice O on oc], .bool (normalB d.1 d.2 x)])) ((w9.setCell ⟨w.heap.size + 1, 0, none⟩ (.slice X xn xc)).setCell ⟨w.heap.size + 1, 1, none⟩ (.slice O on oc)) := by
      rw [← HZ.out.2]
      exact ansWalk_yes (b := byD d.1 d.2 t s (F : Int)) HJ2.out HZ.out.1 hb9
     have HFZ := hid FZ
     have HA0 := hid a0
     have HA3 := hid a3
     clear FZ ra rb r9 hb9 bb9 j9 a0 a3
     refine AnyT.call (i := 4) (by kernel_rfl) rfl (fun K hK => ?_)
     try simp only [Act.put, setIfInBounds_toArray, set_cons_zero, set_cons_succ, getElem_toArray, getElem_cons_zero, getElem_cons_succ]
     rw [if_pos (by rfl)]
     go_simp
     refine hK.out _ _ (fun _ _ => ?_) (fun hKeep => ?_)
     ·exact ⟨HA0.out.cell 0, HA0.out.cell 1, HA3.out.cell 0, HA3.out.cell 1⟩
     replace hHeld := hKeep (by first | rfl | trivial) hHeld
     clear hK K hKeep
     try simp only [Act.put, setIfInBounds_toArray, set_cons_zero, set_cons_succ, getElem_toArray, getElem_cons_zero, getElem_cons_succ]
     refine AnyT.takeA (i := 5) (v := ?_) rfl (by kernel_rfl) (by kernel_rfl) (by kernel_rfl) (fun _ _ _ h => h) (Or.inl ⟨by rfl, ?_⟩) ?_
     rotate_left 1
     ·(intro w0 _; go_simp; try with_reducible rfl)
     try simp only [Act.put, setIfInBounds_toArray, set_cons_zero, set_cons_succ, getElem_toArray, getElem_cons_zero, getElem_cons_succ]
     refine AnyT.done (by kernel_rfl) ?_ _
     go_wp2
     exact bodyPost_ret (v := .tuple #[.agg #[.slice X xn xc, .slice O on oc], .bool (normalB d.1 d.2 x)]) (by simp [results, Tryz.results9, go_sem, u0, u1]) rfl HFZ.out
  ·have HB := hid (by_off (by_no2 (sg := d.1) (rs := d.2) (t := t) (s := s) (decide_eq_false hf : fuelB f = false)))
   have HIN := hid (fun w1 => inNo f 0 60 w1 hf)
   clear hf LC LK LS LN
   go_enter Tryz.func9, Tryz.ntmps9
   go_wp2_with fail
   rw [← HW.out]
   go_wp2_with fail
   refine LR.out.mono ?_
   rintro e w1 ⟨rfl, bb⟩
   replace r1 := r1.next bb
   replace bel := next_trans bel bb
   have LI := hid (HIN.out w1)
   clear bb K0 K1 LR HIN
   go_wp2_with fail
   refine LI.out.mono ?_
   rintro e w2 ⟨rfl, rfl⟩
   have y0 : w1.cell? ⟨w.heap.size + 1, 0, none⟩ = some (.slice none 0 0) := r1.cell 0
   have y1 : w1.cell? ⟨w.heap.size + 1, 1, none⟩ = some (.slice none 0 0) := r1.cell 1
   have g0 := r1.free 0
   have g1 := r1.free 1
   have ra := r1.put 0 (.slice none 0 0)
   have y2 : (w1.setCell ⟨w.heap.size + 1, 0, none⟩ (.slice none 0 0)).cell? ⟨w.heap.size + 1, 1, none⟩ = some (.slice none 0 0) := ra.cell 1
   have g2 := ra.free 1
   have rb := ra.put 1 (.slice none 0 0)
   have u0 : ((w1.setCell ⟨w.heap.size + 1, 0, none⟩ (.slice none 0 0)).setCell ⟨w.heap.size + 1, 1, none⟩ (.slice none 0 0)).cell? ⟨w.heap.size + 1, 0, none⟩ = some (.slice none 0 0) := rb.cell 0
   have u1 : ((w1.setCell ⟨w.heap.size + 1, 0, none⟩ (.slice none 0 0)).setCell ⟨w.heap.size + 1, 1, none⟩ (.slice none 0 0)).cell? ⟨w.heap.size + 1, 1, none⟩ = some (.slice none 0 0) := rb.cell 1
   have FZ : AnsWalk w (byW d.1 d.2 t s f) (byD d.1 d.2 t s f) (.returned (.tuple #[.agg #[.slice none 0 0, .slice none 0 0], .bool false])) ((w1.setCell ⟨w.heap.size + 1, 0, none⟩ (.slice none 0 0)).setCell ⟨w.heap.size + 1, 1, none⟩ (.slice none 0 0)) := ansWalk_no HB.out (((bel).setCell (show w.heap.size ≤ w.heap.size + 1 by omega) _).setCell (show w.heap.size ≤ w.heap.size + 1 by omega) _)
   have HFZ := hid FZ
   clear FZ ra rb bel r0 r1 LI
   go_wp2
   exact bodyPost_ret (v := .tuple #[.agg #[.slice none 0 0, .slice none 0 0], .bool false]) (by simp [results, Tryz.results9, go_sem, u0, u1]) rfl HFZ.out
end bySpec
end
section
namespace walkSpec
open Go.RowKit base ints sig term termOk endAt endOf marks app sym sub segs segsHelp kinds termFacts same shifted shape kindsR kindsW varsOf ruleMath ruleSpec stepMath walkMath stepSpec ownL heldT
set_option maxRecDepth 100000
section
variable {sg : List Int} {rs : List Rl} {k : Wk} {t : List Int} {x : Int}
end
structure Wi (w : World) (a v f s : Value) (B : Nat) (X O : Option Addr) (xn xc on oc : Nat) (fr : List Int) (L : List St) (wr : World) : Prop where
 r0 : Row wr w.heap.size 29 #[a, v]
 r1 : Row wr (w.heap.size + 1) 34 #[f, s]
 r2 : Row wr (w.heap.size + 1 + 1) 34 #[.slice none 0 0, .slice none 0 0]
 r3 : Row wr B 34 #[.slice X xn xc, .slice O on oc]
 x : Ownd wr (w.heap.size + 1 + 1 + 1) B X xn xc fr
 o : OwnL wr (B + 1) wr.heap.size 75 sStep O on oc L
 b : Below w.heap.size w wr
 z : w.heap.size + 1 + 1 + 1 ≤ B
theorem Wi.next {w wr w' : World} {a v f s : Value} {B : Nat} {X O : Option Addr} {xn xc on oc : Nat} {fr : List Int} {L : List St} (h : Wi w a v f s B X O xn xc on oc fr L wr) (hb : Below wr.heap.size wr w') : Wi w a v f s B X O xn xc on oc fr L w' :=
 ⟨h.r0.next hb, h.r1.next hb, h.r2.next hb, h.r3.next hb, h.x.next hb, (h.o.next hb).wider (Nat.le_refl _) hb.size, next_trans h.b hb, h.z⟩
end walkSpec
end
section
namespace walkX
open Go.RowKit base sig term termOk termFacts segs shape kindsR kindsW ruleMath stepMath walkMath walkSpec
theorem steps_sz {L : List St} {C : Nat} (h : ∀ s ∈ L, s.2.2.length ≤ C) : sz sStepS L ≤ L.length * (C + 1) := by
 induction L with
 | nil => exact Nat.zero_le _
 | cons x r ih =>
  have h1 := ih (fun s hs => h s (List.mem_cons_of_mem _ hs))
  have h2 := h x (List.mem_cons_self ..)
  have e : sz sStepS (x :: r) = (r.length + 1) + ((0 + (0 + sz sI x.2.2)) + (r.map (sz sStep)).sum) := rfl
  have e2 : sz sStepS r = r.length + (r.map (sz sStep)).sum := rfl
  rw [e, sz_ints, List.length_cons, Nat.add_mul]
  rw [e2] at h1
  omega
theorem walk_sz {k : Wk} (h1 : k.1.length ≤ 60) (h2 : k.2.length ≤ 60) (h3 : ∀ s ∈ k.2, s.2.2.length ≤ 60) : sz sWalk k ≤ 1048576 := by
 show sz sI k.1 + sz sStepS k.2 ≤ 1048576
 have a := steps_sz h3
 have b : k.2.length * (60 + 1) ≤ 60 * 61 := Nat.mul_le_mul h2 (Nat.le_refl _)
 rw [sz_ints]
 omega
theorem zero_sz : sz sWalk (([], []) : List Int × List St) ≤ 1048576 := walk_sz (k := ([], [])) (by simp) (by simp) (fun s hs => by cases hs)
theorem walkB_sz {sg : List Int} {rs : List Rl} {k : Wk} (h : walkB sg rs k = true) : sz sWalk k ≤ 1048576 := by
 obtain ⟨-, q2, q3, q4⟩ := walk_parts h
 exact walk_sz (term_len q2).2 q3 (fun s hs => (term_len ((go_ok q2 q4).2 s hs)).2)
end walkX
end
section
open Go.Lib (hid)
namespace walkImpl
open Go.RowKit base ints sig term termOk endAt endOf marks app sym sub segs segsHelp kinds termFacts same shifted shape kindsR kindsW varsOf ruleMath ruleSpec ruleImpl stepMath walkMath stepSpec stepImpl walkSpec
set_option maxRecDepth 100000
structure Wm (w : World) (a v f s : Value) (d : Dat sSystem) (k : Dat sWalk) (i : Nat) (now : Value) (wr : World) : Prop where
 r : Row wr w.heap.size 65 #[a, v]
 q : Row wr (w.heap.size + 1) 34 #[f, s]
 b : Below w.heap.size w wr
 n : ∃ N nn nc, now = .slice N nn nc
 t : ∃ t, Rd wr wr.heap.size sI [now] t ∧ sz sI t ≤ 1048576 ∧ goOn d.1 d.2 k.1 k.2 = goOn d.1 d.2 t (k.2.drop i)
set_option maxHeartbeats 4000000 in
theorem leads (a v u : Value) (U : Option Addr) (un uc : Nat) (d : Dat sSystem) (t y : List Int) (x r : Int) (w : World) (h : Rd w w.heap.size sSystem [a, v] d) (ht : Rd w w.heap.size sI [u] t) (hU : Seg w w.heap.size U un y) (hz : sz sSystem d ≤ 1048576) (hz' : sz sI t ≤ 1048576) (hun : un ≤ 1048576) (oks : sysOkB d.1 d.2 = true) :
  Calls Tryz.prog 99 #[.agg #[a, v], u, .agg #[.int .i64 x, .int .i64 r, .slice U un uc]] w (AnsB w (decide (stepAtO d.1 d.2 t x r = some y))) := by
 obtain ⟨W, hW, rA, rX, bel⟩ := box2 w 65 75 #[a, v] #[.int .i64 x, .int .i64 r, .slice U un uc]
 have HW := hid hW
 have LS := hid (stepAt a v u d t x r W (h.next bel) (ht.next bel) hz hz' oks)
 have HU := hid (hU.next bel)
 have K0 : ((w.alloc (.cells #[a, v] 65)).alloc (.cells #[.int .i64 x, .int .i64 r, .slice U un uc] 75)).cell? ⟨w.heap.size, 0, none⟩ = some a := by rw [← hW]; exact rA.cell 0
 have K1 : ((w.alloc (.cells #[a, v] 65)).alloc (.cells #[.int .i64 x, .int .i64 r, .slice U un uc] 75)).cell? ⟨w.heap.size, 1, none⟩ = some v := by rw [← hW]; exact rA.cell 1
 clear hW h ht hU hz hz'
 obtain ⟨o, ho⟩ : ∃ o, stepAtO d.1 d.2 t x r = o := ⟨_, rfl⟩
 rw [ho] at LS
 rw [ho]
 have HL := hid (show ∀ z, o = some z → z.length ≤ 60 from fun z hz => by subst hz; exact step_len (stepAt_parts ho).2)
 clear ho
 go_enter Tryz.func99, Tryz.ntmps99
 go_wp2_with fail
 rw [← HW.out]
 refine LS.out.mono ?_
 rintro e w2 ⟨X, xn, xc, rfl, oX, bb⟩
 replace rX := rX.next bb
 have b2 := next_trans bel bb
 have k2 : w2.cell? ⟨w.heap.size + 1, 2, none⟩ = some (.slice U un uc) := rX.cell 2
 cases o with
 | none =>
  have F := hid (show AnsB w (decide ((none : Option (List Int)) = some y)) (.returned (.bool false)) w2 from ⟨rfl, b2⟩)
  clear oX bb rA rX bel b2 HL HU LS K0 K1 k2
  go_wp2
  go_ret
  exact F.out
 | some z =>
  have oY : Own w2 W.heap.size (.slice X xn xc) z := oX
  have hxn : xn ≤ 1048576 := by have := HL.out z rfl; have := Own.len oY; omega
  have LE := hid (implSame X U xn un xc uc z y w2 (Own.seg oY) (HU.out.next bb) hxn hun)
  clear oX oY HU bb rX rA bel LS K0 K1 HL
  go_wp2_with fail
  refine LE.out.mono ?_
  rintro e w3 ⟨rfl, dd, rfl⟩
  have F := hid (show AnsB w (decide (some z = some y)) (.returned (.bool (decide (z = y)))) (w2.drewN dd) from ⟨by congr 2; simp, below_drewN b2 dd⟩)
  clear b2 k2 LE
  generalize decide (z = y) = bz at *
  go_wp2
  go_ret
  exact F.out
set_option maxHeartbeats 4000000 in
theorem makes (a v f s : Value) (d : Dat sSystem) (k : Dat sWalk) (w : World) (h : Rd w w.heap.size sSystem [a, v] d) (h' : Rd w w.heap.size sWalk [f, s] k) (hz : sz sSystem d ≤ 1048576) (hz' : sz sWalk k ≤ 1048576) (oks : sysOkB d.1 d.2 = true) :
  Calls Tryz.prog 46 #[.agg #[a, v], .agg #[f, s]] w (AnsB w (goOn d.1 d.2 k.1 k.2).isSome) := by
 obtain ⟨F, fn, fc, S, sn, sc, rfl, rfl, hF, hcF, hfn, hsn, hsn1, hcS, hrF, hrS, hzF, hzS⟩ := rd_walk h' hz'
 obtain ⟨W, hW, rA, rW, bel⟩ := box2 w 65 34 #[a, v] #[.slice F fn fc, .slice S sn sc]
 have HW := hid hW
 have LST := hid (fun (w1 : World) (bb : Below w.heap.size w w1) (u : Value) (U : Option Addr) (un uc : Nat) (t y : List Int) (x r : Int) ht hU hzt hun => leads a v u U un uc d t y x r w1 (h.next bb) ht hU hz hzt hun oks)
 have HRS := hid hrS
 have HSN := hid hsn
 have HZS := hid hzS
 have H0 := hid (show Wm w a v (.slice F fn fc) (.slice S sn sc) d k 0 (.slice F fn fc) W from ⟨rA, rW, bel, ⟨_, _, _, rfl⟩, k.1, hrF.next bel, hzF, rfl⟩)
 clear hW h h' hz hz' hF hcF hsn hcS hrF hrS hzF hzS rA rW bel oks
 go_enter Tryz.func46, Tryz.ntmps46
 go_wp2_with fail
 rw [← HW.out]
 clear HW
 go_loopg [5, 13] sn (fun g now i_ wr => ∃ i : Nat, i_ = .int .i64 i ∧ i + g = sn ∧ Wm w a v (.slice F fn fc) (.slice S sn sc) d k i now wr)
 case atStart => exact ⟨0, rfl, by omega, H0.out⟩
 case round =>
  clear H0
  obtain ⟨i, rfl, hg, T⟩ := hrel
  obtain ⟨N, nn, nc, rfl⟩ := T.n
  obtain ⟨t, ht, hzt, hgo⟩ := T.t
  have HG := hid hg
  have HGO := hid hgo
  clear hg hgo
  by_cases hi : i < sn
  ·obtain ⟨b, off, u, x, hA, hb, ex, c0, c1, c2, hx2⟩ := rd_step HRS.out T.b HSN.out hi
   subst hA
   obtain ⟨U, un, uc, rfl, hU, hcU⟩ := rd_ints.1 hx2
   have hzx : sz sI x.2.2 ≤ 1048576 := by rw [← ex.out]; exact HZS.out i hi
   have hun : un ≤ 1048576 := len_ints hU.1 hzx
   obtain ⟨xa, hxa⟩ : ∃ z, x.1 = z := ⟨_, rfl⟩
   obtain ⟨xr, hxr⟩ : ∃ z, x.2.1 = z := ⟨_, rfl⟩
   rw [hxa] at c0
   rw [hxr] at c1
   have b1 : Below wr.heap.size wr (wr.alloc (.cells #[.int .i64 xa, .int .i64 xr, .slice U un uc] 75)) := (Below.refl _ _).alloc (Nat.le_refl _) _
   have K0 : wr.cell? ⟨w.heap.size, 0, none⟩ = some a := T.r.cell 0
   have K1 : wr.cell? ⟨w.heap.size, 1, none⟩ = some v := T.r.cell 1
   obtain ⟨w1, hw1⟩ : ∃ w1, w1 = wr.alloc (.cells #[.int .i64 xa, .int .i64 xr, .slice U un uc] 75) := ⟨_, rfl⟩
   rw [← hw1] at b1
   have r1 := T.r.next b1
   have q1 := T.q.next b1
   have bel1 := T.b.trans (b1.mono T.b.size)
   have rX : Row w1 wr.heap.size 75 #[.int .i64 xa, .int .i64 xr, .slice U un uc] := by rw [hw1]; exact Row.new _ _ _
   have hU1 := (hU.more T.b.size).next b1
   have hx3 := (hx2.more T.b.size).next b1
   have LS := hid (LST.out w1 bel1 (.slice N nn nc) U un uc t x.2.2 xa xr (ht.next b1) hU1 hzt hun)
   obtain ⟨o, ho⟩ : ∃ o, stepAtO d.1 d.2 t xa xr = o := ⟨_, rfl⟩
   rw [ho] at LS
   have HO := hid (show stepAtO d.1 d.2 t x.1 x.2.1 = o by rw [hxa, hxr]; exact ho)
   have hil : i < k.2.length := by rw [HSN.out]; exact hi
   have EX := hid (show k.2.getD i (0, 0, []) = x from ex.out)
   have i0 : (0 : Int) ≤ (i : Int) := by omega
   have i1 : (i : Int) < (sn : Int) := by omega
   have R0 : (wr.alloc (.cells #[.int .i64 xa, .int .i64 xr, .slice U un uc] 75)).cell? ⟨w.heap.size, 0, none⟩ = some a := by rw [← hw1]; exact r1.cell 0
   have R1 : (wr.alloc (.cells #[.int .i64 xa, .int .i64 xr, .slice U un uc] 75)).cell? ⟨w.heap.size, 1, none⟩ = some v := by rw [← hw1]; exact r1.cell 1
   have X0 : (wr.alloc (.cells #[.int .i64 xa, .int .i64 xr, .slice U un uc] 75)).cell? ⟨wr.heap.size, 0, none⟩ = some (.int .i64 xa) := by rw [← hw1]; exact rX.cell 0
   have X1 : (wr.alloc (.cells #[.int .i64 xa, .int .i64 xr, .slice U un uc] 75)).cell? ⟨wr.heap.size, 1, none⟩ = some (.int .i64 xr) := by rw [← hw1]; exact rX.cell 1
   have X2 : (wr.alloc (.cells #[.int .i64 xa, .int .i64 xr, .slice U un uc] 75)).cell? ⟨wr.heap.size, 2, none⟩ = some (.slice U un uc) := by rw [← hw1]; exact rX.cell 2
   have HW1 := hid hw1
   clear ho hxa hxr hx2 hU hcU T ht hzt ex b1 hw1 hU1
   go_wp2_with fail
   rw [← HW1.out]
   refine LS.out.mono ?_
   rintro e w2 ⟨rfl, bb⟩
   have r2 := r1.next bb
   have q2 := q1.next bb
   have b2 := next_trans bel1 bb
   have rX2 := rX.next bb
   have RY := hid (hx3.next bb)
   have k2 : w2.cell? ⟨wr.heap.size, 2, none⟩ = some (.slice U un uc) := rX2.cell 2
   clear r1 q1 bel1 rX hx3 c0 c1 c2 K0 K1 R0 R1 X0 X1 X2 LS HW1
   by_cases hoy : o = some x.2.2
   ·have HGN := hid (go_step hil EX.out (HO.out.trans hoy) rfl)
    have F := hid (show Wm w a v (.slice F fn fc) (.slice (some ⟨b, off, none⟩) sn sc) d k (i + 1) (.slice U un uc) w2 from ⟨r2, q2, b2, ⟨_, _, _, rfl⟩, x.2.2, RY.out, hzx, by rw [HGO.out, HGN.out]⟩)
    rw [decide_eq_true hoy]
    clear r2 q2 b2 bb rX2 RY HO hoy
    go_wp2
    go_roundg (gk - 1)
    case measure => have := HG.out; omega
    case rel => exact ⟨i + 1, by simp, by have := HG.out; omega, F.out⟩
   ·have F := hid (ansB (b := (goOn d.1 d.2 k.1 k.2).isSome) (a := false) (by
     rw [HGO.out]
     cases o with
     | none => rw [go_none hil EX.out HO.out]; rfl
     | some y => rw [go_differ hil EX.out HO.out (fun q => hoy (by rw [q]))]; rfl) b2)
    rw [decide_eq_false hoy]
    clear r2 q2 b2 bb rX2 RY HO hoy k2
    go_wp2
    go_ret
    exact F.out
  ·have F := hid (ansB (b := (goOn d.1 d.2 k.1 k.2).isSome) (a := true) (by rw [HGO.out, go_all (by rw [HSN.out]; have := HG.out; omega)]; rfl) T.b)
   clear T ht hzt
   go_wp2
   go_ret
   exact F.out
theorem walk_sys {sg : List Int} {rs : List Rl} {k : Wk} (h : sysOkB sg rs = false) : walkB sg rs k = false := walk_noR (right_sys h)
theorem walk_term {sg : List Int} {rs : List Rl} {k : Wk} (h : termOkB sg k.1 = false) : walkB sg rs k = false := walk_noR (right_term h)
set_option maxHeartbeats 4000000 in
theorem implWalkOk (a v f s : Value) (d : Dat sSystem) (k : Dat sWalk) (w : World) (h : Rd w w.heap.size sSystem [a, v] d) (h' : Rd w w.heap.size sWalk [f, s] k) (hz : sz sSystem d ≤ 1048576) (hz' : sz sWalk k ≤ 1048576) :
  Calls Tryz.prog 13 #[.agg #[a, v], .agg #[f, s]] w (AnsB w (walkB d.1 d.2 k)) := by
 obtain ⟨F, fn, fc, S, sn, sc, rfl, rfl, hF, hcF, hfn, hsn, hsn1, hcS, hrF, hrS, hzF, hzS⟩ := rd_walk h' hz'
 have h0 := h
 obtain ⟨A, n, cs, V, q, cv, rfl, rfl, hs, hc, hcv, hq, hn, hq1, hrs, hsg, hE⟩ := rd_sys h hz
 obtain ⟨W, hW, rA, rW, bel⟩ := box2 w 29 34 #[.slice A n cs, .slice V q cv] #[.slice F fn fc, .slice S sn sc]
 have HW := hid hW
 have LS := hid (systemOf _ _ d W (h0.next bel) hz)
 have LT := hid (fun (w1 : World) (bb : Below w.heap.size w w1) => implTermOk A F n cs fn fc d.1 k.1 w1 (hs.next bb) (hF.next bb) hn hfn)
 have LM := hid (fun (w1 : World) (bb : Below w.heap.size w w1) oks => makes _ _ _ _ d k w1 (h0.next bb) (h'.next bb) hz hz' oks)
 have HSN := hid hsn
 clear hW h h0 h' hz hz' hs hc hcv hq hrs hsg hE hF hcF hsn hcS hrF hrS hzF hzS
 cases ok : sysOkB d.1 d.2 with
 | false =>
  have HS := hid ok
  clear ok
  go_enter Tryz.func13, Tryz.ntmps13
  go_wp2_with fail
  rw [← HW.out]
  refine LS.out.mono ?_
  rintro e w1 ⟨he, bb⟩
  rw [HS.out] at he
  have he : e = .returned (.tuple #[.agg #[.slice none 0 0, .slice none 0 0], .bool false]) := he
  subst he
  have F := hid (fun o => ansB (b := walkB d.1 d.2 k) (a := false) (by rw [walk_sys HS.out]) ((next_trans bel bb).alloc (next_trans bel bb).size o))
  clear bb bel rA rW LT LM
  go_wp2
  go_ret
  exact F.out _
 | true =>
  have HS := hid ok
  clear ok
  cases okt : termOkB d.1 k.1 with
  | false =>
   have HT := hid okt
   clear okt
   go_enter Tryz.func13, Tryz.ntmps13
   go_wp2_with fail
   rw [← HW.out]
   refine LS.out.mono ?_
   rintro e w1 ⟨he, bb⟩
   rw [HS.out] at he
   have he : e = .returned (.tuple #[.agg #[.slice A n cs, .slice V q cv], .bool true]) := he
   subst he
   have b2 := (Below.refl w1.heap.size w1).alloc (Nat.le_refl _) (.cells #[.slice A n cs, .slice V q cv] 65)
   have r2 := (rW.next bb).next b2
   have bel2 := next_trans (next_trans bel bb) b2
   have k0 : (w1.alloc (.cells #[.slice A n cs, .slice V q cv] 65)).cell? ⟨w.heap.size + 1, 0, none⟩ = some (.slice F fn fc) := r2.cell 0
   have LT1 := hid (LT.out _ bel2)
   have B2 := hid bel2
   clear bb bel rA rW LT LM b2 r2 bel2
   go_wp2_with fail
   refine LT1.out.mono ?_
   rintro e w3 ⟨he, bb⟩
   rw [HT.out] at he
   subst he
   have F := hid (ansB (b := walkB d.1 d.2 k) (a := false) (by rw [walk_term HT.out]) (next_trans B2.out bb))
   clear bb k0 LT1 B2
   go_wp2
   go_ret
   exact F.out
  | true =>
   have HT := hid okt
   clear okt
   by_cases h60 : sn ≤ 60
   ·have HYES := hid (walk_yes (k := k) (right_yes HS.out HT.out) HSN.out h60)
    have hle : (sn : Int) ≤ 60 := by omega
    go_enter Tryz.func13, Tryz.ntmps13
    go_wp2_with fail
    rw [← HW.out]
    refine LS.out.mono ?_
    rintro e w1 ⟨he, bb⟩
    rw [HS.out] at he
    have he : e = .returned (.tuple #[.agg #[.slice A n cs, .slice V q cv], .bool true]) := he
    subst he
    obtain ⟨w2, hw2⟩ : ∃ w2, w2 = w1.alloc (.cells #[.slice A n cs, .slice V q cv] 65) := ⟨_, rfl⟩
    have b2 : Below w1.heap.size w1 w2 := by rw [hw2]; exact (Below.refl w1.heap.size w1).alloc (Nat.le_refl _) (.cells #[.slice A n cs, .slice V q cv] 65)
    have r2 := (rW.next bb).next b2
    have rS : Row w2 w1.heap.size 65 #[.slice A n cs, .slice V q cv] := by rw [hw2]; exact Row.new _ _ _
    have bel2 := next_trans (next_trans bel bb) b2
    have k0 : (w1.alloc (.cells #[.slice A n cs, .slice V q cv] 65)).cell? ⟨w.heap.size + 1, 0, none⟩ = some (.slice F fn fc) := by rw [← hw2]; exact r2.cell 0
    have LT1 := hid (LT.out _ bel2)
    have HW2 := hid hw2
    clear bb bel rA rW LT b2 hw2
    go_wp2_with fail
    rw [← HW2.out]
    refine LT1.out.mono ?_
    rintro e w3 ⟨he, bb⟩
    rw [HT.out] at he
    subst he
    replace r2 := r2.next bb
    replace rS := rS.next bb
    replace bel2 := next_trans bel2 bb
    have k1 : w3.cell? ⟨w.heap.size + 1, 1, none⟩ = some (.slice S sn sc) := r2.cell 1
    have k2 : w3.cell? ⟨w.heap.size + 1, 0, none⟩ = some (.slice F fn fc) := r2.cell 0
    have k3 : w3.cell? ⟨w1.heap.size, 0, none⟩ = some (.slice A n cs) := rS.cell 0
    have k4 : w3.cell? ⟨w1.heap.size, 1, none⟩ = some (.slice V q cv) := rS.cell 1
    have LM1 := hid (LM.out w3 bel2 HS.out)
    clear bb k0 LT1 HW2 LM r2 rS
    go_wp2_with fail
    refine LM1.out.mono ?_
    rintro e w4 ⟨rfl, bb⟩
    have F := hid (show AnsB w (walkB d.1 d.2 k) (.returned (.bool (goOn d.1 d.2 k.1 k.2).isSome)) w4 from ⟨by rw [HYES.out], next_trans bel2 bb⟩)
    clear bb bel2 k1 k2 k3 k4 LM1 HYES
    generalize (goOn d.1 d.2 k.1 k.2).isSome = bz at *
    go_wp2
    go_ret
    exact F.out
   ·have hle : ¬ (sn : Int) ≤ 60 := by omega
    go_enter Tryz.func13, Tryz.ntmps13
    go_wp2_with fail
    rw [← HW.out]
    refine LS.out.mono ?_
    rintro e w1 ⟨he, bb⟩
    rw [HS.out] at he
    have he : e = .returned (.tuple #[.agg #[.slice A n cs, .slice V q cv], .bool true]) := he
    subst he
    have b2 := (Below.refl w1.heap.size w1).alloc (Nat.le_refl _) (.cells #[.slice A n cs, .slice V q cv] 65)
    have r2 := (rW.next bb).next b2
    have bel2 := next_trans (next_trans bel bb) b2
    have k0 : (w1.alloc (.cells #[.slice A n cs, .slice V q cv] 65)).cell? ⟨w.heap.size + 1, 0, none⟩ = some (.slice F fn fc) := r2.cell 0
    have LT1 := hid (LT.out _ bel2)
    have B2 := hid bel2
    have R2 := hid r2
    clear bb bel rA rW LT LM b2 r2 bel2
    go_wp2_with fail
    refine LT1.out.mono ?_
    rintro e w3 ⟨he, bb⟩
    rw [HT.out] at he
    subst he
    have k1 : w3.cell? ⟨w.heap.size + 1, 1, none⟩ = some (.slice S sn sc) := (R2.out.next bb).cell 1
    have F := hid (ansB (b := walkB d.1 d.2 k) (a := false) (by rw [walk_long HSN.out h60]) (next_trans B2.out bb))
    clear bb k0 LT1 B2
    go_wp2
    go_ret
    exact F.out
set_option maxHeartbeats 2000000 in
theorem endImpl (f s : Value) (k : Dat sWalk) (w : World) (h : Rd w w.heap.size sWalk [f, s] k) (hz : sz sWalk k ≤ 1048576) :
  Calls Tryz.prog 49 #[.agg #[f, s]] w fun e w' => ∃ A n c, e = .returned (.slice A n c) ∧ Rd w' w.heap.size sI [.slice A n c] (endL k) ∧ Below w.heap.size w w' := by
 obtain ⟨F, fn, fc, S, sn, sc, rfl, rfl, hF, hcF, hfn, hsn, hsn1, hcS, hrF, hrS, hzF, hzS⟩ := rd_walk h hz
 obtain ⟨W, hW, rW, bel⟩ := box1 w 34 #[.slice F fn fc, .slice S sn sc]
 have HW := hid hW
 by_cases h0 : sn = 0
 ·subst h0
  have F1 := hid (show ∃ A n c, Ending.returned (.slice F fn fc) = .returned (.slice A n c) ∧ Rd W w.heap.size sI [.slice A n c] (endL k) ∧ Below w.heap.size w W from ⟨_, _, _, rfl, by rw [end_none hsn]; exact hrF.below bel, bel⟩)
  clear hW h hz hF hcF hsn hcS hrF hrS hzF hzS bel rW
  go_enter Tryz.func49, Tryz.ntmps49
  go_wp2
  rw [← HW.out]
  go_ret
  exact F1.out
 ·obtain ⟨n, rfl⟩ : ∃ n, sn = n + 1 := ⟨sn - 1, by omega⟩
  obtain ⟨b, off, u, x, rfl, hb, ex, c0, c1, c2, hx2⟩ := rd_step hrS bel hsn (Nat.lt_succ_self n)
  obtain ⟨U, un, uc, rfl, hU, hcU⟩ := rd_ints.1 hx2
  have F1 := hid (show ∃ A n c, Ending.returned (.slice U un uc) = .returned (.slice A n c) ∧ Rd W w.heap.size sI [.slice A n c] (endL k) ∧ Below w.heap.size w W from ⟨_, _, _, rfl, by rw [end_last hsn ex.out]; exact hx2, bel⟩)
  have c2' : (w.alloc (.cells #[.slice F fn fc, .slice (some ⟨b, off, none⟩) (n + 1) sc] 34)).cell? ⟨b, off + n * 3 + 2, none⟩ = some (.slice U un uc) := by rw [← hW]; exact c2
  have i1 : ¬ ((n : Int) + 1 = 0) := by omega
  have i2 : ((n : Int) + 1) - 1 = (n : Int) := by omega
  have i3 : (0 : Int) ≤ (n : Int) := by omega
  have i4 : (n : Int) < (n : Int) + 1 := by omega
  clear hW h hz hF hcF hsn hcS hrF hrS hzF hzS ex hx2 hU hcU c0 c1 c2 h0 bel rW
  go_enter Tryz.func49, Tryz.ntmps49
  go_wp2
  rw [← HW.out]
  go_ret
  exact F1.out
set_option maxHeartbeats 2000000 in
theorem implEndTerm (a v f s : Value) (d : Dat sSystem) (k : Dat sWalk) (w : World) (h : Rd w w.heap.size sSystem [a, v] d) (h' : Rd w w.heap.size sWalk [f, s] k) (hz : sz sSystem d ≤ 1048576) (hz' : sz sWalk k ≤ 1048576) :
  Calls Tryz.prog 15 #[.agg #[a, v], .agg #[f, s]] w (AnsList w (endW d.1 d.2 k)) := by
 obtain ⟨W, hW, rA, rW, bel⟩ := box2 w 29 34 #[a, v] #[f, s]
 have HW := hid hW
 have L1 := hid (implWalkOk a v f s d k W (h.next bel) (h'.next bel) hz hz')
 have L2 := hid (fun (w1 : World) (bb : Below w.heap.size w w1) => endImpl f s k w1 (h'.next bb) hz')
 clear hW h h' hz hz'
 cases ok : walkB d.1 d.2 k with
 | false =>
  have HR := hid ok
  clear ok
  go_enter Tryz.func15, Tryz.ntmps15
  go_wp2_with fail
  rw [← HW.out]
  refine L1.out.mono ?_
  rintro e w1 ⟨he, bb⟩
  rw [HR.out] at he
  subst he
  have F := hid (show AnsList w (endW d.1 d.2 k) (.returned (.slice none 0 0)) w1 from ⟨_, 0, 0, rfl, by unfold endW; rw [if_neg (by rw [HR.out]; simp)]; exact Own.nil _ _, next_trans bel bb⟩)
  clear bb bel rA rW L2
  go_wp2
  go_ret
  exact F.out
 | true =>
  have HR := hid ok
  clear ok
  go_enter Tryz.func15, Tryz.ntmps15
  go_wp2_with fail
  rw [← HW.out]
  refine L1.out.mono ?_
  rintro e w1 ⟨he, bb⟩
  rw [HR.out] at he
  subst he
  replace rW := rW.next bb
  replace bel := next_trans bel bb
  have K0 : w1.cell? ⟨w.heap.size + 1, 0, none⟩ = some f := rW.cell 0
  have K1 : w1.cell? ⟨w.heap.size + 1, 1, none⟩ = some s := rW.cell 1
  clear bb L1 rW rA
  go_wp2_with fail
  refine (L2.out w1 bel).mono ?_
  rintro e w2 ⟨X, xn, xc, rfl, hX, bb⟩
  have hend : termOkB d.1 (endL k) = true := by
   obtain ⟨q1, q2, q3, q4⟩ := walk_parts HR.out
   exact (go_ok q2 q4).1
  have hsX := hX.seg
  have hxn : 1 ≤ xn ∧ xn ≤ 60 := by have := term_len hend; have := hsX.1; omega
  obtain ⟨b, off, y, rfl, -, -, -⟩ := hsX.spot (k := 0) (by omega)
  have LC := hid (cloneInts b off xn xc (endL k) w2 (hsX.more bb.size) (by omega))
  replace bel := next_trans bel bb
  clear bb hX hsX hend L2
  go_wp2_with fail
  refine LC.out.mono ?_
  rintro e w3 ⟨Y, yn, yc, rfl, oY, bb⟩
  have F := hid (show AnsList w (endW d.1 d.2 k) (.returned (.slice Y yn yc)) w3 from ⟨Y, yn, yc, rfl, by unfold endW; rw [if_pos HR.out]; exact Own.lower oY bel.size, next_trans bel bb⟩)
  clear oY bb bel LC K0 K1
  go_wp2
  go_ret
  exact F.out
end walkImpl
end
section
namespace bySpec
open Go.RowKit base ints sig term termOk endAt endOf marks app sym sub segs segsHelp kinds termFacts same shifted shape drawX kindsR kindsW varsOf ruleMath ruleSpec stepMath walkMath stepSpec walkSpec walkX ownL heldT orderMath orderSpec
set_option maxRecDepth 100000
theorem byW_sz {sg : List Int} {rs : List Rl} {t : List Int} {s f : Int} : sz sWalk (byW sg rs t s f) ≤ 1048576 := by
 cases h : byB sg rs t s f with
 | true => exact walkB_sz (by_walk h)
 | false => rw [(by_off h).1]; exact zero_sz
theorem byN_no {sg : List Int} {rs : List Rl} {t : List Int} {s f : Int} (h : byD sg rs t s f = false) : byN sg rs t s f = [] := by unfold byN; rw [if_neg (by rw [h]; simp)]
theorem byN_yes {sg : List Int} {rs : List Rl} {t : List Int} {s f : Int} (h : byD sg rs t s f = true) : byN sg rs t s f = endL (byW sg rs t s f) := by unfold byN; rw [if_pos h]
theorem byC_no {sg : List Int} {rs : List Rl} {t : List Int} {s f : Int} (h : byD sg rs t s f = false) : byC sg rs t s f = -1 := by unfold byC; rw [if_neg (by rw [h]; simp)]
theorem byC_yes {sg : List Int} {rs : List Rl} {t : List Int} {s f : Int} (h : byD sg rs t s f = true) : byC sg rs t s f = ((byW sg rs t s f).2.length : Int) := by unfold byC; rw [if_pos h]
theorem byN_len {sg : List Int} {rs : List Rl} {t : List Int} {s f : Int} : (byN sg rs t s f).length ≤ 1048576 := by
 unfold byN
 split
 ·exact end_len byW_sz
 ·simp
def AnsInt (w : World) (x : Int) (e : Ending) (w' : World) : Prop := e = .returned (.int .i64 x) ∧ Below w.heap.size w w'
set_option maxHeartbeats 2000000 in
theorem specCountBy (a v u : Value) (d : Dat sSystem) (t : List Int) (s f : Int) (w : World) (h : Rd w w.heap.size sSystem [a, v] d) (ht : Rd w w.heap.size sI [u] t) (hz : sz sSystem d ≤ 1048576) (hz' : sz sI t ≤ 1048576) :
  Calls Tryz.prog 12 #[.agg #[a, v], u, .int .i64 s, .int .i64 f] w (AnsInt w (byC d.1 d.2 t s f)) := by
 obtain ⟨W, hW, rA, bel⟩ := box1 w 29 #[a, v]
 have HW := Lib.hid hW
 have LW := Lib.hid (specWalkBy a v u d t s f W (h.next bel) (ht.next bel) hz hz')
 obtain ⟨T, m, c, rfl, -, -⟩ := rd_ints.1 ht
 clear hW h ht
 obtain ⟨bd, hbd⟩ : ∃ b, byD d.1 d.2 t s f = b := ⟨_, rfl⟩
 have HB := Lib.hid hbd
 rw [hbd] at LW
 clear hbd
 go_enter Tryz.func12, Tryz.ntmps12
 go_wp2_with fail
 rw [← HW.out]
 refine LW.out.mono ?_
 rintro e w1 ⟨X, xn, xc, O, on, oc, rfl, ow, bb⟩
 have b1 := next_trans bel bb
 have b2 : Below w1.heap.size w1 (w1.alloc (.cells #[.slice X xn xc, .slice O on oc] 34)) := (Below.refl _ _).alloc (Nat.le_refl _) _
 have bel2 := Lib.hid (next_trans b1 b2)
 have HL := Lib.hid (show (byW d.1 d.2 t s f).2.length = on from by
  obtain ⟨F', fn, fc, S, sn, sc, e1, e2, -, -, -, h7, -⟩ := rd_walk ow.rd byW_sz
  injection e2 with e3 e4 e5
  rw [e4]; exact h7)
 clear ow bb b1 b2 bel rA LW
 cases bd with
 | false =>
  have F := Lib.hid (show AnsInt w (byC d.1 d.2 t s f) (.returned (.int .i64 (-1))) (w1.alloc (.cells #[.slice X xn xc, .slice O on oc] 34)) from ⟨by rw [byC_no HB.out], bel2.out⟩)
  go_wp2
  go_ret
  exact F.out
 | true =>
  have F := Lib.hid (show AnsInt w (byC d.1 d.2 t s f) (.returned (.int .i64 (on : Int))) (w1.alloc (.cells #[.slice X xn xc, .slice O on oc] 34)) from ⟨by rw [byC_yes HB.out, HL.out], bel2.out⟩)
  go_wp2
  go_ret
  exact F.out
end bySpec
end
section
namespace bigs
open Go.RowKit base ints
theorem bigAns (A : Option Addr) (n c : Nat) (b : Bool) (w : World) (hb : decide (4096 < n) = b) (hn : n ≤ 9223372036854775807) : Calls Tryz.prog 6 #[.slice A n c] w fun e w' => w = w' ∧ e = .returned (.bool b) := by
 cases b with
 | true =>
  have h : (4096 : Int) < (n : Int) := by have := of_decide_eq_true hb; omega
  clear hb
  go_enter Tryz.func6, Tryz.ntmps6
  go_wp2
  go_ret
  exact ⟨rfl, rfl⟩
 | false =>
  have h : ¬ (4096 : Int) < (n : Int) := by have := of_decide_eq_false hb; omega
  have h2 : decide (4096 < n) = false := hb
  clear hb
  go_enter Tryz.func6, Tryz.ntmps6
  go_wp2
  go_ret
  exact ⟨rfl, rfl⟩
end bigs
end
end Go.Proofs.YtmoidijngeijkaaGreat
