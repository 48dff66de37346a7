/-
  MERGED: my texts WFnReached, one behind the other, as they are. By an AI agent.
-/
import Derived.Test.YtlaloakegajheaaGreatMFnReached12
import Derived.Deep.DeepCutAuto
namespace Go.Proofs.YtlaloakegajheaaGreat
section
open Go.Lib (hid)
open List (setIfInBounds_toArray set_cons_zero set_cons_succ getElem_toArray getElem_cons_zero getElem_cons_succ)
namespace wFnReached
open Go.RowKit base ints sig term termOk termFacts cursor marks app sym segs dice rolls rolls9 bigs drawL7 drawL9 shape kinds kindsR kindsW varsOf shifted ruleMath ruleSpec stepMath walkMath stepSpec walkSpec walkImpl lawS lawW reachMath findSpec reachSpec reachImplB walkTo joinSpec joinX reached heldT findW walkX joinImpl
set_option maxRecDepth 100000
theorem owned_len {w : World} {lo hi : Nat} {A : Option Addr} {n c : Nat} {D : List (List Int)} (h : Owned w lo hi sTs [.slice A n c] D) : D.length = n := by
 obtain ⟨F, h, -⟩ := h
 obtain ⟨A', n', c', e, hl, -⟩ := h
 injection e with e
 injection e with e1 e2 e3
 rw [hl, e2]
def Boxd (V : World) (K : Wk) (s : Value) (wx : World) : Prop := ∃ b A0 n0 c0 A1 n1 c1, s = .pointer (some ⟨b, 0, none⟩) ∧ Row wx b 86 #[.slice A0 n0 c0, .slice A1 n1 c1] ∧ Rd wx wx.heap.size sWalk [.slice A0 n0 c0, .slice A1 n1 c1] K ∧ Below V.heap.size V wx
theorem boxd_put {V w : World} {K : Wk} {lo hi b : Nat} {A0 A1 : Option Addr} {n0 c0 n1 c1 : Nat} (h : Owned w lo hi sWalk [.slice A0 n0 c0, .slice A1 n1 c1] K) (r : Row w b 86 #[.slice none 0 0, .slice none 0 0]) (hb : b < lo ∨ hi ≤ b) (bel : Below V.heap.size V w) (hV : V.heap.size ≤ b) :
  Boxd V K (.pointer (some ⟨b, 0, none⟩)) ((w.setCell ⟨b, 0, none⟩ (.slice A0 n0 c0)).setCell ⟨b, 1, none⟩ (.slice A1 n1 c1)) :=
 ⟨b, A0, n0, c0, A1, n1, c1, rfl, (r.put 0 _).put 1 _, (Owned.put (g := b) (i := 1) (u := .slice A1 n1 c1) (Owned.put (g := b) (i := 0) (u := .slice A0 n0 c0) h hb) hb).rd, (bel.setCell (p := ⟨b, 0, none⟩) hV _).setCell (p := ⟨b, 1, none⟩) hV _⟩
theorem far2 {w : World} {b : Nat} {a : Addr} {x y v : Value} (hne : b ≠ a.block) (h : w.cell? a = some v) : ((w.setCell ⟨b, 0, none⟩ x).setCell ⟨b, 1, none⟩ y).cell? a = some v := (World.cell?_setCell_far _ ⟨b, 1, none⟩ a _ hne).trans ((World.cell?_setCell_far _ ⟨b, 0, none⟩ a _ hne).trans h)
def Boxd2 (V : World) (o : Wk × Wk) (s s' : Value) (wx : World) : Prop := ∃ b b' A0 n0 c0 A1 n1 c1 B0 m0 d0 B1 m1 d1, s = .pointer (some ⟨b, 0, none⟩) ∧ s' = .pointer (some ⟨b', 0, none⟩) ∧ Row wx b 86 #[.slice A0 n0 c0, .slice A1 n1 c1] ∧ Row wx b' 86 #[.slice B0 m0 d0, .slice B1 m1 d1] ∧
 Rd wx wx.heap.size sWalk [.slice A0 n0 c0, .slice A1 n1 c1] o.1 ∧ Rd wx wx.heap.size sWalk [.slice B0 m0 d0, .slice B1 m1 d1] o.2 ∧ Below V.heap.size V wx
theorem boxd2_put {V w : World} {o : Wk × Wk} {lo hi b b' : Nat} {A0 A1 B0 B1 : Option Addr} {n0 c0 n1 c1 m0 d0 m1 d1 : Nat} (h : Owned w lo hi sWalk [.slice A0 n0 c0, .slice A1 n1 c1] o.1) (h' : Owned w lo hi sWalk [.slice B0 m0 d0, .slice B1 m1 d1] o.2) (r : Row w b 86 #[.slice none 0 0, .slice none 0 0]) (r' : Row w b' 86 #[.slice none 0 0, .slice none 0 0])
  (hb : b < lo ∨ hi ≤ b) (hb' : b' < lo ∨ hi ≤ b') (hne : b ≠ b') (bel : Below V.heap.size V w) (hV : V.heap.size ≤ b) (hV' : V.heap.size ≤ b') :
  Boxd2 V o (.pointer (some ⟨b, 0, none⟩)) (.pointer (some ⟨b', 0, none⟩)) (put4 w b b' (.slice A0 n0 c0) (.slice A1 n1 c1) (.slice B0 m0 d0) (.slice B1 m1 d1)) :=
 ⟨b, b', A0, n0, c0, A1, n1, c1, B0, m0, d0, B1, m1, d1, rfl, rfl,
  (((r.put 0 _).put 1 _).far (p := ⟨b', 0, none⟩) hne _).far (p := ⟨b', 1, none⟩) hne _,
  (((r'.far (p := ⟨b, 0, none⟩) (Ne.symm hne) _).far (p := ⟨b, 1, none⟩) (Ne.symm hne) _).put 0 _).put 1 _,
  (Owned.put (g := b') (i := 1) (u := .slice B1 m1 d1) (Owned.put (g := b') (i := 0) (u := .slice B0 m0 d0) (Owned.put (g := b) (i := 1) (u := .slice A1 n1 c1) (Owned.put (g := b) (i := 0) (u := .slice A0 n0 c0) h hb) hb) hb') hb').rd,
  (Owned.put (g := b') (i := 1) (u := .slice B1 m1 d1) (Owned.put (g := b') (i := 0) (u := .slice B0 m0 d0) (Owned.put (g := b) (i := 1) (u := .slice A1 n1 c1) (Owned.put (g := b) (i := 0) (u := .slice A0 n0 c0) h' hb) hb) hb') hb').rd,
  (((bel.setCell (p := ⟨b, 0, none⟩) hV _).setCell (p := ⟨b, 1, none⟩) hV _).setCell (p := ⟨b', 0, none⟩) hV' _).setCell (p := ⟨b', 1, none⟩) hV' _⟩
set_option maxHeartbeats 8000000 in
theorem law (A : Option Addr) (n c : Nat) (_ : List Int) (w : World) (h : SegB w w.heap.size A n) (hN : n ≤ 9223372036854775807) :
  Calls Tryz.prog 6 #[.slice A n c] w (Fine w) := by
 by_cases hbig : n ≤ 4096
 ·have LB := hid (bigAns A n c false w (by simp; omega) hN)
  have HB := hid (fun (wz : World) (bz : Below w.heap.size w wz) => (show SegB wz wz.heap.size A n from fun hp => by
   obtain ⟨b, off, e, hb, hc⟩ := h hp
   refine ⟨b, off, e, Nat.lt_of_lt_of_le hb bz.size, fun j hj => ?_⟩
   obtain ⟨x, x0, x1, hx⟩ := hc j hj
   exact ⟨x, x0, x1, (bz.cell (p := ⟨b, off + j, none⟩) hb).trans hx⟩))
  go_enter Tryz.func6, Tryz.ntmps6
  go_wp2_with fail
  refine LB.out.mono ?_
  rintro e w' ⟨rfl, rfl⟩
  clear LB
  go_wp2_with fail
  refine (drawReachOf A n c w h hbig).mono ?_
  rintro e w2 ⟨S, sn, sc, R, rn, rc, d, U, un, uc, t, f, rfl, sd, hz0, td, ht65, b2⟩
  clear h
  have hz : sz sSystem d ≤ 1048576 := by omega
  have hzt : sz sI t ≤ 1048576 := by rw [sz_ints]; omega
  obtain ⟨o, ho⟩ : ∃ o, w2.heap.size = o := ⟨_, rfl⟩
  obtain ⟨W, hW⟩ : ∃ W, W = w2.alloc (.cells #[.slice S sn sc, .slice R rn rc] 32) := ⟨_, rfl⟩
  have T : Sy w o S sn sc R rn rc d (.slice U un uc) t W := by
   have bb : Below w2.heap.size w2 W := by rw [hW]; exact (Below.refl _ _).alloc (Nat.le_refl _) _
   exact ⟨sd.next bb, td.next bb, by rw [hW, ← ho]; exact Row.new _ _ _, next_trans b2 bb⟩
  have HW := hid hW
  have HO := hid ho
  clear sd td b2 hW ho
  have c0 : W.cell? ⟨o, 0, none⟩ = some (.slice S sn sc) := T.c0
  have c1 : W.cell? ⟨o, 1, none⟩ = some (.slice R rn rc) := T.c1
  have HZ := hid (And.intro hz hzt)
  clear hz hzt hz0 ht65
  obtain ⟨L, hL⟩ : ∃ L, reachI d.1 d.2 t f = L := ⟨_, rfl⟩
  obtain ⟨al, hal⟩ : ∃ b, allI d.1 d.2 t f = b := ⟨_, rfl⟩
  have HL := hid (And.intro hL hal)
  have L1 := implReachOfB _ _ _ d t f W T.s T.t HZ.out.1 HZ.out.2
  rw [hL, hal] at L1
  replace L1 := hid L1
  clear hL hal
  go_wp2_with fail
  rw [← HW.out, HO.out]
  refine L1.out.mono ?_
  rintro e w3 ⟨X, xn, xc, rfl, oX, bb⟩
  have hx := hid (owned_len oX)
  have sX := oX.rd
  replace T := T.next bb
  clear bb c0 c1 HW HO L1 oX
  have c0 : w3.cell? ⟨o, 0, none⟩ = some (.slice S sn sc) := T.c0
  have c1 : w3.cell? ⟨o, 1, none⟩ = some (.slice R rn rc) := T.c1
  have L2 := specReachOf _ _ _ d t f w3 T.s T.t HZ.out.1 HZ.out.2
  rw [HL.out.1, HL.out.2] at L2
  replace L2 := hid L2
  go_wp2_with fail
  refine L2.out.mono ?_
  rintro e w4 ⟨Y, yn, yc, rfl, oY, bb⟩
  have hy : yn = xn := by rw [← hx.out]; exact (owned_len oY).symm
  subst hy
  have sY := oY.rd
  replace sX := sX.next bb
  replace T := T.next bb
  clear bb c0 c1 L2 oY
  have en : ((yn : Int) != (yn : Int)) = false := by simp
  have ea : (al != al) = false := by simp
  by_cases h0 : yn = 0
  ·have hal : al = false := by
    rw [← HL.out.2]
    exact reached_empty (by rw [HL.out.1, hx.out]; exact h0)
   subst hal h0
   have F := hid T.b
   clear T sX sY HB
   go_wp2
   go_ret
   exact ⟨rfl, F.out⟩
  ·have e0 : ((yn : Int) == 0) = false := by simp; exact h0
   have hyn : yn ≤ 60 := by rw [← hx.out, ← HL.out.1]; exact reached_len
   have HT := hid (show Sy w o S sn sc R rn rc d (.slice U un uc) t w4 ∧ Rd w4 w4.heap.size sTs [.slice X yn xc] L ∧ Rd w4 w4.heap.size sTs [.slice Y yn yc] L from ⟨T, sX, sY⟩)
   have LR := hid (rolls9.roll A n c w4 (HB.out _ T.b) hbig)
   clear T sX sY HB
   go_wp2_with fail
   refine LR.out.mono ?_
   rintro e w5 ⟨p, hh, rfl, hp, R0, b5⟩
   have LQ := hid (rollBelow9 p A n c 0 hh yn w5 R0 (by omega) (by omega))
   have H5 := hid (show Below w4.heap.size w4 w5 ∧ w4.heap.size ≤ p from ⟨b5, hp⟩)
   clear LR R0 b5 hp
   go_wp2_with fail
   refine LQ.out.mono ?_
   rintro e w6 ⟨x, i6, h6, rfl, x0, x1, R6, g6⟩
   have LQ2 := hid (rollBelow9 p A n c i6 h6 yn w6 R6 (by omega) (by omega))
   have H6 := hid (show Below w4.heap.size w4 w6 from H5.out.1.grown g6 H5.out.1.size (fun k hk => by injection hk with hk; have := H5.out.2; omega))
   clear LQ R6 g6
   go_wp2_with fail
   refine LQ2.out.mono ?_
   rintro e w7 ⟨y, i7, h7, rfl, y0, y1, -, g7⟩
   have b7 : Below w4.heap.size w4 w7 := H6.out.grown g7 H6.out.size (fun k hk => by injection hk with hk; have := H5.out.2; omega)
   obtain ⟨k, rfl⟩ : ∃ k : Nat, x = (k : Int) := ⟨x.toNat, by omega⟩
   obtain ⟨m, rfl⟩ : ∃ m : Nat, y = (m : Int) := ⟨y.toNat, by omega⟩
   have T := (HT.out.1.next b7).drew
   have sX := HT.out.2.1.next (next_trans b7 (drew_below w7))
   have sY := HT.out.2.2.next (next_trans b7 (drew_below w7))
   have hk : k < yn := by omega
   have hm : m < yn := by omega
   obtain ⟨xb, xoff, U1, u1n, u1c, rfl, hxb, cx, sU1, capU1⟩ := rd_term sX (Below.refl _ _) hk
   obtain ⟨Kw, hK1, hK2, hK3, hK4, hK5⟩ := reached_at (sg := d.1) (rs := d.2) (t := t) (n := f) (k := k) (by rw [HL.out.1, hx.out]; exact hk)
   obtain ⟨-, -, -, -, -, hm5⟩ := reached_at (sg := d.1) (rs := d.2) (t := t) (n := f) (k := m) (by rw [HL.out.1, hx.out]; exact hm)
   rw [HL.out.1] at hK1 hK3 hK5 hm5
   have HM5 := hid hm5
   have HF := hid (reached_steps (sg := d.1) (rs := d.2) (t := t) (n := f) (k := k) (by rw [HL.out.1, hx.out]; exact hk))
   clear hm5
   have LW := hid (fun (wz : World) (bz : Below w7.drew.heap.size w7.drew wz) => (by
    have := implWalkTo _ _ _ (.slice U1 u1n u1c) d t (L.getD k []) f wz (T.s.next bz) (T.t.next bz) (rd_ints.2 ⟨U1, u1n, u1c, rfl, sU1.next bz, capU1⟩) HZ.out.1 HZ.out.2 (by rw [sz_ints]; exact hK5)
    rw [hK1] at this
    exact this : Calls Tryz.prog 45 #[.agg #[.slice S sn sc, .slice R rn rc], .slice U un uc, .slice U1 u1n u1c, .int .i64 f] wz (AnsWalk wz Kw true)))
   have HKK := hid (show walkB d.1 d.2 Kw = true ∧ endL Kw = L.getD k [] ∧ (Kw.2.length : Int) ≤ f ∧ (L.getD k []).length ≤ 1048576 from ⟨hK2, hK3, hK4, hK5⟩)
   have HXY := hid (show Sy w o S sn sc R rn rc d (.slice U un uc) t w7.drew ∧ Rd w7.drew w7.drew.heap.size sTs [.slice (some ⟨xb, xoff, none⟩) yn xc] L ∧ Rd w7.drew w7.drew.heap.size sTs [.slice Y yn yc] L from ⟨T, sX, sY⟩)
   have k0 : (0 : Int) ≤ (k : Int) := by omega
   have k1 : (k : Int) < (yn : Int) := by omega
   have c0 : w7.drew.cell? ⟨o, 0, none⟩ = some (.slice S sn sc) := T.c0
   have c1 : w7.drew.cell? ⟨o, 1, none⟩ = some (.slice R rn rc) := T.c1
   have HCC := hid (show w7.drew.cell? ⟨o, 0, none⟩ = some (.slice S sn sc) ∧ w7.drew.cell? ⟨o, 1, none⟩ = some (.slice R rn rc) ∧ w7.drew.cell? ⟨xb, xoff + k, none⟩ = some (.slice U1 u1n u1c) from ⟨c0, c1, cx⟩)
   have ho : o < w7.drew.heap.size := T.r.lt
   have HBB := hid (And.intro ho hxb)
   have HSU := hid (show Seg w7.drew w7.drew.heap.size U1 u1n (L.getD k []) ∧ Cap U1 u1n u1c ∧ u1n ≤ 1048576 ∧ m < yn from ⟨sU1, capU1, by rw [← sU1.1]; exact hK5, hm⟩)
   clear LQ2 g7 b7 HT H5 H6 x0 x1 y0 y1 T sX sY sU1 capU1 hK1 hK2 hK3 hK4 hK5 e0 en ea c0 c1 cx ho hxb
   go_upto_region 13 with (fail)
   go_cut [13, 14] (fun s13 s14 wx => Boxd w7.drew Kw s13 wx ∧ s14 = .bool true)
   case first =>
    have bs := Below.refl w7.drew.heap.size w7.drew
    refine wp_region_held_drew (S := (fun w' => w'.cell? ⟨o, 0, none⟩ = some (.slice S sn sc) ∧ w'.cell? ⟨o, 1, none⟩ = some (.slice R rn rc) ∧ w'.cell? ⟨xb, xoff + k, none⟩ = some (.slice U1 u1n u1c))) (by kernel_rfl) HCC.out (fun hHeld => ?_)
    have bs0 := bs
    clear bs
    generalize w7.drew = D at *
    have bs := bs0
    clear bs0
    refine wpAnyH_take (i := 0) (v := ?_) rfl (by kernel_rfl) (by kernel_rfl) (by kernel_rfl) (fun _ _ _ h => h) (Or.inl ⟨by rfl, ?_⟩) (by assumption) ?_
    rotate_left 1
    ·(intro w0 hSw; (try dsimp only at hSw); go_simp; try with_reducible rfl)
    try simp only [Act.put, setIfInBounds_toArray, set_cons_zero, set_cons_succ, getElem_toArray, getElem_cons_zero, getElem_cons_succ]
    refine wpAnyH_take (i := 1) (v := ?_) rfl (by kernel_rfl) (by kernel_rfl) (by kernel_rfl) (fun _ _ _ h => h) (Or.inl ⟨by rfl, ?_⟩) (by assumption) ?_
    rotate_left 1
    ·(intro w0 hSw; (try dsimp only at hSw); go_simp; try with_reducible rfl)
    try simp only [Act.put, setIfInBounds_toArray, set_cons_zero, set_cons_succ, getElem_toArray, getElem_cons_zero, getElem_cons_succ]
    refine wpAnyH_take (i := 2) (v := ?_) rfl (by kernel_rfl) (by kernel_rfl) (by kernel_rfl) (fun _ _ _ h => h) (Or.inl ⟨by rfl, ?_⟩) (by assumption) ?_
    rotate_left 1
    ·(intro w0 hSw; (try dsimp only at hSw); go_simp; try with_reducible rfl)
    try simp only [Act.put, setIfInBounds_toArray, set_cons_zero, set_cons_succ, getElem_toArray, getElem_cons_zero, getElem_cons_succ]
    refine wpAnyH_take (i := 3) (v := ?_) rfl (by kernel_rfl) (by kernel_rfl) (by kernel_rfl) (fun _ _ _ h => h) (Or.inl ⟨by rfl, ?_⟩) (by assumption) ?_
    rotate_left 1
    ·(intro w0 hSw; (try dsimp only at hSw); go_simp; try with_reducible rfl)
    try simp only [Act.put, setIfInBounds_toArray, set_cons_zero, set_cons_succ, getElem_toArray, getElem_cons_zero, getElem_cons_succ]
    refine wpAnyH_take (i := 4) (v := ?_) rfl (by kernel_rfl) (by kernel_rfl) (by kernel_rfl) (fun _ _ _ h => h) (Or.inl ⟨by rfl, ?_⟩) (by assumption) ?_
    rotate_left 1
    ·(intro w0 hSw; (try dsimp only at hSw); go_simp; try with_reducible rfl)
    try simp only [Act.put, setIfInBounds_toArray, set_cons_zero, set_cons_succ, getElem_toArray, getElem_cons_zero, getElem_cons_succ]
    refine wpAnyH_take (i := 5) (v := ?_) rfl (by kernel_rfl) (by kernel_rfl) (by kernel_rfl) (fun _ _ _ h => h) (Or.inl ⟨by rfl, ?_⟩) (by assumption) ?_
    rotate_left 1
    ·(intro w0 hSw; (try dsimp only at hSw); go_simp; try with_reducible rfl)
    try simp only [Act.put, setIfInBounds_toArray, set_cons_zero, set_cons_succ, getElem_toArray, getElem_cons_zero, getElem_cons_succ]
    refine wpAnyH_take (i := 6) (v := ?_) rfl (by kernel_rfl) (by kernel_rfl) (by kernel_rfl) (fun _ _ _ h => h) (Or.inl ⟨by rfl, ?_⟩) (by assumption) ?_
    rotate_left 1
    ·(intro w0 hSw; (try dsimp only at hSw); go_simp; try with_reducible rfl)
    try simp only [Act.put, setIfInBounds_toArray, set_cons_zero, set_cons_succ, getElem_toArray, getElem_cons_zero, getElem_cons_succ]
    refine wpAnyH_ready (rs := [7, 11]) (by kernel_rfl) (by simp) (AllReadyH.cons rfl (fun K hK => ?_) (AllReadyH.cons rfl (fun K hK => ?_) AllReadyH.nil))
    ·skip
     try simp only [Act.put, setIfInBounds_toArray, set_cons_zero, set_cons_succ, getElem_toArray, getElem_cons_zero, getElem_cons_succ]
     rw [if_pos (by rfl)]
     go_simp
     refine (LW.out _ bs).mono ?_
     rintro e v1 ⟨A0, n0, g0, A1, n1, g1, rfl, oK, bb⟩
     have oK : Owned v1 D.heap.size v1.heap.size sWalk [.slice A0 n0 g0, .slice A1 n1 g1] Kw := oK
     have z0v1 := bs.size
     replace bs := next_trans bs bb
     have zv1 := bb.size
     clear bb
     refine hK.out _ _ ?_ (fun hHeld => ?_)
     ·exact ⟨(bs.cell (p := ⟨o, 0, none⟩) HBB.out.1).trans HCC.out.1, (bs.cell (p := ⟨o, 1, none⟩) HBB.out.1).trans HCC.out.2.1, (bs.cell (p := ⟨xb, xoff + k, none⟩) HBB.out.2).trans HCC.out.2.2⟩
     clear hK K
     try simp only [Act.put, setIfInBounds_toArray, set_cons_zero, set_cons_succ, getElem_toArray, getElem_cons_zero, getElem_cons_succ]
     refine wpAnyH_take (i := 8) (v := ?_) rfl (by kernel_rfl) (by kernel_rfl) (by kernel_rfl) (fun _ _ _ h => h) (Or.inl ⟨by rfl, ?_⟩) (by assumption) ?_
     rotate_left 1
     ·(intro w0 hSw; (try dsimp only at hSw); go_simp; try with_reducible rfl)
     try simp only [Act.put, setIfInBounds_toArray, set_cons_zero, set_cons_succ, getElem_toArray, getElem_cons_zero, getElem_cons_succ]
     refine wpAnyH_take (i := 9) (v := ?_) rfl (by kernel_rfl) (by kernel_rfl) (by kernel_rfl) (fun _ _ _ h => h) (Or.inl ⟨by rfl, ?_⟩) (by assumption) ?_
     rotate_left 1
     ·(intro w0 hSw; (try dsimp only at hSw); go_simp; try with_reducible rfl)
     try simp only [Act.put, setIfInBounds_toArray, set_cons_zero, set_cons_succ, getElem_toArray, getElem_cons_zero, getElem_cons_succ]
     refine wpAnyH_take (i := 10) (v := ?_) rfl (by kernel_rfl) (by kernel_rfl) (by kernel_rfl) (fun _ _ _ h => h) (Or.inl ⟨by rfl, ?_⟩) (by assumption) ?_
     rotate_left 1
     ·(intro w0 hSw; (try dsimp only at hSw); go_simp; try with_reducible rfl)
     try simp only [Act.put, setIfInBounds_toArray, set_cons_zero, set_cons_succ, getElem_toArray, getElem_cons_zero, getElem_cons_succ]
     refine wpAnyH_ready (rs := [11]) (by kernel_rfl) (by simp) (AllReadyH.cons rfl (fun K hK => ?_) AllReadyH.nil)
     try simp only [Act.put, setIfInBounds_toArray, set_cons_zero, set_cons_succ, getElem_toArray, getElem_cons_zero, getElem_cons_succ]
     rw [if_pos (by rfl)]
     go_simp
     obtain ⟨v2, hw⟩ : ∃ W, W = v1.alloc (.cells #[.slice none 0 0, .slice none 0 0] 86) := ⟨_, rfl⟩
     rw [← hw]
     have rg : Row v2 v1.heap.size 86 #[.slice none 0 0, .slice none 0 0] := by rw [hw]; exact Row.new _ _ _
     have bb : Below v1.heap.size v1 v2 := by rw [hw]; exact (Below.refl _ _).alloc (Nat.le_refl _) _
     have yg : v1.heap.size < v2.heap.size := rg.lt
     clear hw
     replace oK := oK.next bb
     have z0v2 := bs.size
     replace bs := next_trans bs bb
     have zv2 := bb.size
     clear bb
     refine hK.out _ _ ?_ (fun hHeld => ?_)
     ·exact ⟨(bs.cell (p := ⟨o, 0, none⟩) HBB.out.1).trans HCC.out.1, (bs.cell (p := ⟨o, 1, none⟩) HBB.out.1).trans HCC.out.2.1, (bs.cell (p := ⟨xb, xoff + k, none⟩) HBB.out.2).trans HCC.out.2.2⟩
     clear hK K
     try simp only [Act.put, setIfInBounds_toArray, set_cons_zero, set_cons_succ, getElem_toArray, getElem_cons_zero, getElem_cons_succ]
     have zbs := bs.size
     have hne : o ≠ v1.heap.size := by have := HBB.out.1; omega
     have hnx : xb ≠ v1.heap.size := by have := HBB.out.2; omega
     have p0 : v2.cell? ⟨v1.heap.size, 0, none⟩ = some (.slice none 0 0) := rg.cell 0
     have q0 : v2.frozen? ⟨v1.heap.size, 0, none⟩ = false := rg.free 0
     have rg1 := rg.put 0 (.slice A0 n0 g0)
     have p1 : (v2.setCell ⟨v1.heap.size, 0, none⟩ (.slice A0 n0 g0)).cell? ⟨v1.heap.size, 1, none⟩ = some (.slice none 0 0) := rg1.cell 1
     have q1 : (v2.setCell ⟨v1.heap.size, 0, none⟩ (.slice A0 n0 g0)).frozen? ⟨v1.heap.size, 1, none⟩ = false := rg1.free 1
     have F := hid (boxd_put (V := D) oK rg (by omega) bs (by omega))
     refine wpAnyH_ready (rs := [12]) (by kernel_rfl) (by simp) (AllReadyH.cons rfl (fun K hK => ?_) AllReadyH.nil)
     try simp only [Act.put, setIfInBounds_toArray, set_cons_zero, set_cons_succ, getElem_toArray, getElem_cons_zero, getElem_cons_succ]
     rw [if_pos (by rfl)]
     go_simp
     refine hK.out _ _ ?_ (fun hHeld => ?_)
     ·exact ⟨((World.cell?_setCell_far _ ⟨v1.heap.size, 1, none⟩ ⟨o, 0, none⟩ _ (Ne.symm hne)).trans ((World.cell?_setCell_far _ ⟨v1.heap.size, 0, none⟩ ⟨o, 0, none⟩ _ (Ne.symm hne)).trans ((bs.cell (p := ⟨o, 0, none⟩) HBB.out.1).trans HCC.out.1))), ((World.cell?_setCell_far _ ⟨v1.heap.size, 1, none⟩ ⟨o, 1, none⟩ _ (Ne.symm hne)).trans ((World.cell?_setCell_far _ ⟨v1.heap.size, 0, none⟩ ⟨o, 1, none⟩ _ (Ne.symm hne)).trans ((bs.cell (p := ⟨o, 1, none⟩) HBB.out.1).trans HCC.out.2.1))), ((World.cell?_setCell_far _ ⟨v1.heap.size, 1, none⟩ ⟨xb, xoff + k, none⟩ _ (Ne.symm hnx)).trans ((World.cell?_setCell_far _ ⟨v1.heap.size, 0, none⟩ ⟨xb, xoff + k, none⟩ _ (Ne.symm hnx)).trans ((bs.cell (p := ⟨xb, xoff + k, none⟩) HBB.out.2).trans HCC.out.2.2)))⟩
     clear hK K
     try simp only [Act.put, setIfInBounds_toArray, set_cons_zero, set_cons_succ, getElem_toArray, getElem_cons_zero, getElem_cons_succ]
     refine wpAnyH_take (i := 13) (v := ?_) rfl (by kernel_rfl) (by kernel_rfl) (by kernel_rfl) (fun _ _ _ h => h) (Or.inl ⟨by rfl, ?_⟩) (by assumption) ?_
     rotate_left 1
     ·(intro w0 hSw; (try dsimp only at hSw); go_simp; try with_reducible rfl)
     try simp only [Act.put, setIfInBounds_toArray, set_cons_zero, set_cons_succ, getElem_toArray, getElem_cons_zero, getElem_cons_succ]
     refine wpAnyH_done (by kernel_rfl) ?_ _
     clear p0 p1 q0 q1 rg rg1 oK bs
     go_wp2_with fail
     go_meet
     exact ⟨F.out, rfl⟩
    ·skip
     try simp only [Act.put, setIfInBounds_toArray, set_cons_zero, set_cons_succ, getElem_toArray, getElem_cons_zero, getElem_cons_succ]
     rw [if_pos (by rfl)]
     go_simp
     obtain ⟨v3, hw⟩ : ∃ W, W = D.alloc (.cells #[.slice none 0 0, .slice none 0 0] 86) := ⟨_, rfl⟩
     rw [← hw]
     have rg : Row v3 D.heap.size 86 #[.slice none 0 0, .slice none 0 0] := by rw [hw]; exact Row.new _ _ _
     have bb : Below D.heap.size D v3 := by rw [hw]; exact (Below.refl _ _).alloc (Nat.le_refl _) _
     have yg : D.heap.size < v3.heap.size := rg.lt
     clear hw
     have z0v3 := bs.size
     replace bs := next_trans bs bb
     have zv3 := bb.size
     clear bb
     refine hK.out _ _ ?_ (fun hHeld => ?_)
     ·exact ⟨(bs.cell (p := ⟨o, 0, none⟩) HBB.out.1).trans HCC.out.1, (bs.cell (p := ⟨o, 1, none⟩) HBB.out.1).trans HCC.out.2.1, (bs.cell (p := ⟨xb, xoff + k, none⟩) HBB.out.2).trans HCC.out.2.2⟩
     clear hK K
     try simp only [Act.put, setIfInBounds_toArray, set_cons_zero, set_cons_succ, getElem_toArray, getElem_cons_zero, getElem_cons_succ]
     refine wpAnyH_ready (rs := [7]) (by kernel_rfl) (by simp) (AllReadyH.cons rfl (fun K hK => ?_) AllReadyH.nil)
     try simp only [Act.put, setIfInBounds_toArray, set_cons_zero, set_cons_succ, getElem_toArray, getElem_cons_zero, getElem_cons_succ]
     rw [if_pos (by rfl)]
     go_simp
     refine (LW.out _ bs).mono ?_
     rintro e v4 ⟨A0, n0, g0, A1, n1, g1, rfl, oK, bb⟩
     have oK : Owned v4 v3.heap.size v4.heap.size sWalk [.slice A0 n0 g0, .slice A1 n1 g1] Kw := oK
     replace rg := rg.next bb
     have z0v4 := bs.size
     replace bs := next_trans bs bb
     have zv4 := bb.size
     clear bb
     refine hK.out _ _ ?_ (fun hHeld => ?_)
     ·exact ⟨(bs.cell (p := ⟨o, 0, none⟩) HBB.out.1).trans HCC.out.1, (bs.cell (p := ⟨o, 1, none⟩) HBB.out.1).trans HCC.out.2.1, (bs.cell (p := ⟨xb, xoff + k, none⟩) HBB.out.2).trans HCC.out.2.2⟩
     clear hK K
     try simp only [Act.put, setIfInBounds_toArray, set_cons_zero, set_cons_succ, getElem_toArray, getElem_cons_zero, getElem_cons_succ]
     refine wpAnyH_take (i := 8) (v := ?_) rfl (by kernel_rfl) (by kernel_rfl) (by kernel_rfl) (fun _ _ _ h => h) (Or.inl ⟨by rfl, ?_⟩) (by assumption) ?_
     rotate_left 1
     ·(intro w0 hSw; (try dsimp only at hSw); go_simp; try with_reducible rfl)
     try simp only [Act.put, setIfInBounds_toArray, set_cons_zero, set_cons_succ, getElem_toArray, getElem_cons_zero, getElem_cons_succ]
     refine wpAnyH_take (i := 9) (v := ?_) rfl (by kernel_rfl) (by kernel_rfl) (by kernel_rfl) (fun _ _ _ h => h) (Or.inl ⟨by rfl, ?_⟩) (by assumption) ?_
     rotate_left 1
     ·(intro w0 hSw; (try dsimp only at hSw); go_simp; try with_reducible rfl)
     try simp only [Act.put, setIfInBounds_toArray, set_cons_zero, set_cons_succ, getElem_toArray, getElem_cons_zero, getElem_cons_succ]
     refine wpAnyH_take (i := 10) (v := ?_) rfl (by kernel_rfl) (by kernel_rfl) (by kernel_rfl) (fun _ _ _ h => h) (Or.inl ⟨by rfl, ?_⟩) (by assumption) ?_
     rotate_left 1
     ·(intro w0 hSw; (try dsimp only at hSw); go_simp; try with_reducible rfl)
     try simp only [Act.put, setIfInBounds_toArray, set_cons_zero, set_cons_succ, getElem_toArray, getElem_cons_zero, getElem_cons_succ]
     have zbs := bs.size
     have hne : o ≠ D.heap.size := by have := HBB.out.1; omega
     have hnx : xb ≠ D.heap.size := by have := HBB.out.2; omega
     have p0 : v4.cell? ⟨D.heap.size, 0, none⟩ = some (.slice none 0 0) := rg.cell 0
     have q0 : v4.frozen? ⟨D.heap.size, 0, none⟩ = false := rg.free 0
     have rg1 := rg.put 0 (.slice A0 n0 g0)
     have p1 : (v4.setCell ⟨D.heap.size, 0, none⟩ (.slice A0 n0 g0)).cell? ⟨D.heap.size, 1, none⟩ = some (.slice none 0 0) := rg1.cell 1
     have q1 : (v4.setCell ⟨D.heap.size, 0, none⟩ (.slice A0 n0 g0)).frozen? ⟨D.heap.size, 1, none⟩ = false := rg1.free 1
     have F := hid (boxd_put (V := D) oK rg (by omega) bs (by omega))
     refine wpAnyH_ready (rs := [12]) (by kernel_rfl) (by simp) (AllReadyH.cons rfl (fun K hK => ?_) AllReadyH.nil)
     try simp only [Act.put, setIfInBounds_toArray, set_cons_zero, set_cons_succ, getElem_toArray, getElem_cons_zero, getElem_cons_succ]
     rw [if_pos (by rfl)]
     go_simp
     refine hK.out _ _ ?_ (fun hHeld => ?_)
     ·exact ⟨((World.cell?_setCell_far _ ⟨D.heap.size, 1, none⟩ ⟨o, 0, none⟩ _ (Ne.symm hne)).trans ((World.cell?_setCell_far _ ⟨D.heap.size, 0, none⟩ ⟨o, 0, none⟩ _ (Ne.symm hne)).trans ((bs.cell (p := ⟨o, 0, none⟩) HBB.out.1).trans HCC.out.1))), ((World.cell?_setCell_far _ ⟨D.heap.size, 1, none⟩ ⟨o, 1, none⟩ _ (Ne.symm hne)).trans ((World.cell?_setCell_far _ ⟨D.heap.size, 0, none⟩ ⟨o, 1, none⟩ _ (Ne.symm hne)).trans ((bs.cell (p := ⟨o, 1, none⟩) HBB.out.1).trans HCC.out.2.1))), ((World.cell?_setCell_far _ ⟨D.heap.size, 1, none⟩ ⟨xb, xoff + k, none⟩ _ (Ne.symm hnx)).trans ((World.cell?_setCell_far _ ⟨D.heap.size, 0, none⟩ ⟨xb, xoff + k, none⟩ _ (Ne.symm hnx)).trans ((bs.cell (p := ⟨xb, xoff + k, none⟩) HBB.out.2).trans HCC.out.2.2)))⟩
     clear hK K
     try simp only [Act.put, setIfInBounds_toArray, set_cons_zero, set_cons_succ, getElem_toArray, getElem_cons_zero, getElem_cons_succ]
     refine wpAnyH_take (i := 13) (v := ?_) rfl (by kernel_rfl) (by kernel_rfl) (by kernel_rfl) (fun _ _ _ h => h) (Or.inl ⟨by rfl, ?_⟩) (by assumption) ?_
     rotate_left 1
     ·(intro w0 hSw; (try dsimp only at hSw); go_simp; try with_reducible rfl)
     try simp only [Act.put, setIfInBounds_toArray, set_cons_zero, set_cons_succ, getElem_toArray, getElem_cons_zero, getElem_cons_succ]
     refine wpAnyH_done (by kernel_rfl) ?_ _
     clear p0 p1 q0 q1 rg rg1 oK bs
     go_wp2_with fail
     go_meet
     exact ⟨F.out, rfl⟩
   case rest =>
    rename World => wc
    obtain ⟨⟨b1, A0, n0, g0, A1, n1, g1, rfl, rb, rk, bx⟩, rfl⟩ := hcut
    have bx1 := next_trans bx (drew_below wc)
    have hb1 : b1 < wc.drew.heap.size := rb.lt
    have sY := HXY.out.2.2.next bx1
    obtain ⟨yb, yoff, U2, u2n, u2c, rfl, hyb, cy, sU2, capU2⟩ := rd_term sY (Below.refl _ _) hk
    have hn1 : (n1 : Int) ≤ f := by
     obtain ⟨-, h2⟩ := parts_Walk rk
     obtain ⟨A', n', c', e, -, hl, -⟩ := h2
     injection e with e
     injection e with e1 e2 e3
     rw [e2, ← hl]
     exact HKK.out.2.2.1
    have hgt : ¬ f < (n1 : Int) := by omega
    have hend : endW d.1 d.2 Kw = L.getD k [] := by unfold endW; rw [if_pos HKK.out.1]; exact HKK.out.2.1
    have HS := hid (fun (wz : World) (bz : Below wc.drew.heap.size wc.drew wz) => (show wz.cell? ⟨o, 0, none⟩ = some (.slice S sn sc) ∧ wz.cell? ⟨o, 1, none⟩ = some (.slice R rn rc) ∧ wz.cell? ⟨xb, xoff + k, none⟩ = some (.slice U1 u1n u1c) ∧ wz.cell? ⟨yb, yoff + k, none⟩ = some (.slice U2 u2n u2c) ∧ wz.cell? ⟨b1, 0, none⟩ = some (.slice A0 n0 g0) ∧ wz.cell? ⟨b1, 1, none⟩ = some (.slice A1 n1 g1) from
     ⟨((next_trans bx1 bz).cell (p := ⟨o, 0, none⟩) HBB.out.1).trans HCC.out.1, ((next_trans bx1 bz).cell (p := ⟨o, 1, none⟩) HBB.out.1).trans HCC.out.2.1, ((next_trans bx1 bz).cell (p := ⟨xb, xoff + k, none⟩) HBB.out.2).trans HCC.out.2.2, (bz.cell (p := ⟨yb, yoff + k, none⟩) hyb).trans cy, (rb.drew.next bz).cell 0, (rb.drew.next bz).cell 1⟩))
    have LS1 := hid (same_yes (c := u1c) (c' := u2c) (HSU.out.1.next bx1) sU2 HSU.out.2.2.1 (by rw [← sU2.1]; exact HKK.out.2.2.2))
    have LKO := hid (fun (wz : World) (bz : Below wc.drew.heap.size wc.drew wz) => (by
     have := implWalkOk _ _ _ _ d Kw wz (HXY.out.1.next (next_trans bx1 bz)).s (rk.next (next_trans (drew_below wc) bz)) HZ.out.1 (walkB_sz HKK.out.1)
     rw [HKK.out.1] at this
     exact this : Calls Tryz.prog 47 #[.agg #[.slice S sn sc, .slice R rn rc], .agg #[.slice A0 n0 g0, .slice A1 n1 g1]] wz (AnsB wz true)))
    have LEN := hid (fun (wz : World) (bz : Below wc.drew.heap.size wc.drew wz) => (by
     have := implEndTerm _ _ _ _ d Kw wz (HXY.out.1.next (next_trans bx1 bz)).s (rk.next (next_trans (drew_below wc) bz)) HZ.out.1 (walkB_sz HKK.out.1)
     rw [hend] at this
     exact this : Calls Tryz.prog 48 #[.agg #[.slice S sn sc, .slice R rn rc], .agg #[.slice A0 n0 g0, .slice A1 n1 g1]] wz (AnsList wz (L.getD k []))))
    have LS2 := hid (fun (wz : World) (bz : Below wc.drew.heap.size wc.drew wz) (E : Option Addr) (en ec : Nat) (hE : Seg wz wz.heap.size E en (L.getD k [])) => same_yes (c := ec) (c' := u1c) hE (HSU.out.1.next (next_trans bx1 bz)) (by rw [← hE.1]; exact HKK.out.2.2.2) HSU.out.2.2.1)
    have HB1 := hid (show Below w7.drew.heap.size w7.drew wc.drew from bx1)
    obtain ⟨s0, s1, s2, s3, s4, s5⟩ := (show wc.cell? ⟨o, 0, none⟩ = some (.slice S sn sc) ∧ wc.cell? ⟨o, 1, none⟩ = some (.slice R rn rc) ∧ wc.cell? ⟨xb, xoff + k, none⟩ = some (.slice U1 u1n u1c) ∧ wc.cell? ⟨yb, yoff + k, none⟩ = some (.slice U2 u2n u2c) ∧ wc.cell? ⟨b1, 0, none⟩ = some (.slice A0 n0 g0) ∧ wc.cell? ⟨b1, 1, none⟩ = some (.slice A1 n1 g1) from HS.out wc.drew (Below.refl _ _))
    clear bx bx1 sY rk rb hyb cy sU2 capU2 hn1 hend LW hb1
    go_wp2_with fail
    go_region_held3 (fun w' => w'.cell? ⟨o, 0, none⟩ = some (.slice S sn sc) ∧ w'.cell? ⟨o, 1, none⟩ = some (.slice R rn rc) ∧ w'.cell? ⟨xb, xoff + k, none⟩ = some (.slice U1 u1n u1c) ∧ w'.cell? ⟨yb, yoff + k, none⟩ = some (.slice U2 u2n u2c) ∧ w'.cell? ⟨b1, 0, none⟩ = some (.slice A0 n0 g0) ∧ w'.cell? ⟨b1, 1, none⟩ = some (.slice A1 n1 g1))
     (go_keep)
     (first
      | (go_at_call 46; (with_reducible refine LS1.out.mono ?_); rintro e v1 ⟨rfl, bb1⟩; obtain ⟨s0, s1, s2, s3, s4, s5⟩ := HS.out v1 bb1)
      | (go_at_call 47; refine (LKO.out v1 bb1).mono ?_; rintro e v2 ⟨rfl, bb⟩; have bb2 := next_trans bb1 bb; clear bb; obtain ⟨s0, s1, s2, s3, s4, s5⟩ := HS.out v2 bb2)
      | (go_at_call 48; refine (LEN.out v2 bb2).mono ?_; rintro e v3 ⟨E, en, ec, rfl, oE, bb⟩; have bb3 := next_trans bb2 bb; clear bb; have sE := Own.seg oE; clear oE; obtain ⟨s0, s1, s2, s3, s4, s5⟩ := HS.out v3 bb3)
      | (go_at_call 46; (with_reducible refine (LS2.out v3 bb3 E en ec sE).mono ?_); rintro e v4 ⟨rfl, bb⟩; have bb4 := next_trans bb3 bb; clear bb; obtain ⟨s0, s1, s2, s3, s4, s5⟩ := HS.out v4 bb4))
    have B4 := next_trans HB1.out bb4
    have T := (HXY.out.1.next B4).drew
    have sX := HXY.out.2.1.next (next_trans B4 (drew_below v4))
    obtain ⟨xb', xoff', U3, u3n, u3c, e, -, cm, sU3, capU3⟩ := rd_term sX (Below.refl _ _) HSU.out.2.2.2
    injection e with e
    injection e with e9 e8
    subst e9 e8
    obtain ⟨J, hJ⟩ : ∃ J, joinO d.1 d.2 (L.getD k []) (L.getD m []) f = J := ⟨_, rfl⟩
    have HJ := hid hJ
    have B5 := next_trans B4 (drew_below v4)
    have LJ := hid (fun (wz : World) (bz : Below v4.drew.heap.size v4.drew wz) => (by
     have := implJoinOf _ _ (.slice U1 u1n u1c) (.slice U3 u3n u3c) d (L.getD k []) (L.getD m []) f wz (T.s.next bz) (rd_ints.2 ⟨U1, u1n, u1c, rfl, HSU.out.1.next (next_trans B5 bz), HSU.out.2.1⟩) (rd_ints.2 ⟨U3, u3n, u3c, rfl, sU3.next bz, capU3⟩) HZ.out.1 (by rw [sz_ints]; exact HKK.out.2.2.2) (by rw [sz_ints]; exact HM5.out)
     rw [hJ] at this
     exact this : Calls Tryz.prog 49 #[.agg #[.slice S sn sc, .slice R rn rc], .slice U1 u1n u1c, .slice U3 u3n u3c, .int .i64 f] wz (AnsJ wz J)))
    have HC5 := hid (show v4.drew.cell? ⟨o, 0, none⟩ = some (.slice S sn sc) ∧ v4.drew.cell? ⟨o, 1, none⟩ = some (.slice R rn rc) ∧ v4.drew.cell? ⟨xb, xoff + k, none⟩ = some (.slice U1 u1n u1c) ∧ v4.drew.cell? ⟨xb, xoff + m, none⟩ = some (.slice U3 u3n u3c) from ⟨s0, s1, s2, cm⟩)
    have HB5 := hid (show o < v4.drew.heap.size ∧ xb < v4.drew.heap.size from ⟨T.r.lt, Nat.lt_of_lt_of_le HBB.out.2 B5.size⟩)
    have H45 := hid (show Below w7.drew.heap.size w7.drew v4.drew ∧ Seg v4.drew v4.drew.heap.size U3 u3n (L.getD m []) ∧ Cap U3 u3n u3c from ⟨B5, sU3, capU3⟩)
    have m0 : (0 : Int) ≤ (m : Int) := by omega
    have m1 : (m : Int) < (yn : Int) := by have := HSU.out.2.2.2; omega
    clear B4 T sX cm sU3 capU3 hJ B5 bb1 bb2 bb3 bb4 sE s0 s1 s2 s3 s4 s5 HS LS1 LKO LEN LS2
    go_upto_region 16 with (fail)
    go_cut [15, 16, 17] (fun s15 s16 s17 wx => Boxd2 v4.drew (J.getD (([], []), ([], []))) s15 s16 wx ∧ s17 = .bool J.isSome)
    case first =>
     have bs := Below.refl v4.drew.heap.size v4.drew
     refine wp_region_held_drew (S := (fun w' => w'.cell? ⟨o, 0, none⟩ = some (.slice S sn sc) ∧ w'.cell? ⟨o, 1, none⟩ = some (.slice R rn rc) ∧ w'.cell? ⟨xb, xoff + k, none⟩ = some (.slice U1 u1n u1c) ∧ w'.cell? ⟨xb, xoff + m, none⟩ = some (.slice U3 u3n u3c))) (by kernel_rfl) HC5.out (fun hHeld => ?_)
     have bs0 := bs
     clear bs
     generalize v4.drew = D at *
     have bs := bs0
     clear bs0
     refine wpAnyH_take (i := 0) (v := ?_) rfl (by kernel_rfl) (by kernel_rfl) (by kernel_rfl) (fun _ _ _ h => h) (Or.inl ⟨by rfl, ?_⟩) (by assumption) ?_
     rotate_left 1
     ·(intro w0 hSw; (try dsimp only at hSw); go_simp; try with_reducible rfl)
     try simp only [Act.put, setIfInBounds_toArray, set_cons_zero, set_cons_succ, getElem_toArray, getElem_cons_zero, getElem_cons_succ]
     refine wpAnyH_take (i := 1) (v := ?_) rfl (by kernel_rfl) (by kernel_rfl) (by kernel_rfl) (fun _ _ _ h => h) (Or.inl ⟨by rfl, ?_⟩) (by assumption) ?_
     rotate_left 1
     ·(intro w0 hSw; (try dsimp only at hSw); go_simp; try with_reducible rfl)
     try simp only [Act.put, setIfInBounds_toArray, set_cons_zero, set_cons_succ, getElem_toArray, getElem_cons_zero, getElem_cons_succ]
     refine wpAnyH_take (i := 2) (v := ?_) rfl (by kernel_rfl) (by kernel_rfl) (by kernel_rfl) (fun _ _ _ h => h) (Or.inl ⟨by rfl, ?_⟩) (by assumption) ?_
     rotate_left 1
     ·(intro w0 hSw; (try dsimp only at hSw); go_simp; try with_reducible rfl)
     try simp only [Act.put, setIfInBounds_toArray, set_cons_zero, set_cons_succ, getElem_toArray, getElem_cons_zero, getElem_cons_succ]
     refine wpAnyH_take (i := 3) (v := ?_) rfl (by kernel_rfl) (by kernel_rfl) (by kernel_rfl) (fun _ _ _ h => h) (Or.inl ⟨by rfl, ?_⟩) (by assumption) ?_
     rotate_left 1
     ·(intro w0 hSw; (try dsimp only at hSw); go_simp; try with_reducible rfl)
     try simp only [Act.put, setIfInBounds_toArray, set_cons_zero, set_cons_succ, getElem_toArray, getElem_cons_zero, getElem_cons_succ]
     refine wpAnyH_take (i := 4) (v := ?_) rfl (by kernel_rfl) (by kernel_rfl) (by kernel_rfl) (fun _ _ _ h => h) (Or.inl ⟨by rfl, ?_⟩) (by assumption) ?_
     rotate_left 1
     ·(intro w0 hSw; (try dsimp only at hSw); go_simp; try with_reducible rfl)
     try simp only [Act.put, setIfInBounds_toArray, set_cons_zero, set_cons_succ, getElem_toArray, getElem_cons_zero, getElem_cons_succ]
     refine wpAnyH_take (i := 5) (v := ?_) rfl (by kernel_rfl) (by kernel_rfl) (by kernel_rfl) (fun _ _ _ h => h) (Or.inl ⟨by rfl, ?_⟩) (by assumption) ?_
     rotate_left 1
     ·(intro w0 hSw; (try dsimp only at hSw); go_simp; try with_reducible rfl)
     try simp only [Act.put, setIfInBounds_toArray, set_cons_zero, set_cons_succ, getElem_toArray, getElem_cons_zero, getElem_cons_succ]
     refine wpAnyH_take (i := 6) (v := ?_) rfl (by kernel_rfl) (by kernel_rfl) (by kernel_rfl) (fun _ _ _ h => h) (Or.inl ⟨by rfl, ?_⟩) (by assumption) ?_
     rotate_left 1
     ·(intro w0 hSw; (try dsimp only at hSw); go_simp; try with_reducible rfl)
     try simp only [Act.put, setIfInBounds_toArray, set_cons_zero, set_cons_succ, getElem_toArray, getElem_cons_zero, getElem_cons_succ]
     refine wpAnyH_take (i := 7) (v := ?_) rfl (by kernel_rfl) (by kernel_rfl) (by kernel_rfl) (fun _ _ _ h => h) (Or.inl ⟨by rfl, ?_⟩) (by assumption) ?_
     rotate_left 1
     ·(intro w0 hSw; (try dsimp only at hSw); go_simp; try with_reducible rfl)
     try simp only [Act.put, setIfInBounds_toArray, set_cons_zero, set_cons_succ, getElem_toArray, getElem_cons_zero, getElem_cons_succ]
     refine wpAnyH_take (i := 8) (v := ?_) rfl (by kernel_rfl) (by kernel_rfl) (by kernel_rfl) (fun _ _ _ h => h) (Or.inl ⟨by rfl, ?_⟩) (by assumption) ?_
     rotate_left 1
     ·(intro w0 hSw; (try dsimp only at hSw); go_simp; try with_reducible rfl)
     try simp only [Act.put, setIfInBounds_toArray, set_cons_zero, set_cons_succ, getElem_toArray, getElem_cons_zero, getElem_cons_succ]
     refine wpAnyH_take (i := 9) (v := ?_) rfl (by kernel_rfl) (by kernel_rfl) (by kernel_rfl) (fun _ _ _ h => h) (Or.inl ⟨by rfl, ?_⟩) (by assumption) ?_
     rotate_left 1
     ·(intro w0 hSw; (try dsimp only at hSw); go_simp; try with_reducible rfl)
     try simp only [Act.put, setIfInBounds_toArray, set_cons_zero, set_cons_succ, getElem_toArray, getElem_cons_zero, getElem_cons_succ]
     refine wpAnyH_ready (rs := [10, 15, 16]) (by kernel_rfl) (by simp) (AllReadyH.cons rfl (fun K hK => ?_) (AllReadyH.cons rfl (fun K hK => ?_) (AllReadyH.cons rfl (fun K hK => ?_) AllReadyH.nil)))
     ·skip
      try simp only [Act.put, setIfInBounds_toArray, set_cons_zero, set_cons_succ, getElem_toArray, getElem_cons_zero, getElem_cons_succ]
      rw [if_pos (by rfl)]
      go_simp
      refine (LJ.out _ bs).mono ?_
      rintro e u1 ⟨A0, n0, g0, A1, n1, g1, B0, m0, g2, B1, m1, g3, rfl, ⟨fF, fG, o1, o2, ond, obd⟩, bb⟩
      obtain ⟨nd1, nd2, -⟩ := List.nodup_append.1 ond
      have oF : Owned u1 D.heap.size u1.heap.size sWalk [.slice A0 n0 g0, .slice A1 n1 g1] (J.getD (([], []), ([], []))).1 := ⟨fF, o1, nd1, fun q hq => obd q (List.mem_append_left _ hq)⟩
      have oG : Owned u1 D.heap.size u1.heap.size sWalk [.slice B0 m0 g2, .slice B1 m1 g3] (J.getD (([], []), ([], []))).2 := ⟨fG, o2, nd2, fun q hq => obd q (List.mem_append_right _ hq)⟩
      clear o1 o2 ond obd nd1 nd2
      have z0u1 := bs.size
      replace bs := next_trans bs bb
      have zu1 := bb.size
      clear bb
      refine hK.out _ _ ?_ (fun hHeld => ?_)
      ·exact ⟨(bs.cell (p := ⟨o, 0, none⟩) HB5.out.1).trans HC5.out.1, (bs.cell (p := ⟨o, 1, none⟩) HB5.out.1).trans HC5.out.2.1, (bs.cell (p := ⟨xb, xoff + k, none⟩) HB5.out.2).trans HC5.out.2.2.1, (bs.cell (p := ⟨xb, xoff + m, none⟩) HB5.out.2).trans HC5.out.2.2.2⟩
      clear hK K
      try simp only [Act.put, setIfInBounds_toArray, set_cons_zero, set_cons_succ, getElem_toArray, getElem_cons_zero, getElem_cons_succ]
      refine wpAnyH_take (i := 11) (v := ?_) rfl (by kernel_rfl) (by kernel_rfl) (by kernel_rfl) (fun _ _ _ h => h) (Or.inl ⟨by rfl, ?_⟩) (by assumption) ?_
      rotate_left 1
      ·(intro w0 hSw; (try dsimp only at hSw); go_simp; try with_reducible rfl)
      try simp only [Act.put, setIfInBounds_toArray, set_cons_zero, set_cons_succ, getElem_toArray, getElem_cons_zero, getElem_cons_succ]
      refine wpAnyH_take (i := 12) (v := ?_) rfl (by kernel_rfl) (by kernel_rfl) (by kernel_rfl) (fun _ _ _ h => h) (Or.inl ⟨by rfl, ?_⟩) (by assumption) ?_
      rotate_left 1
      ·(intro w0 hSw; (try dsimp only at hSw); go_simp; try with_reducible rfl)
      try simp only [Act.put, setIfInBounds_toArray, set_cons_zero, set_cons_succ, getElem_toArray, getElem_cons_zero, getElem_cons_succ]
      refine wpAnyH_take (i := 13) (v := ?_) rfl (by kernel_rfl) (by kernel_rfl) (by kernel_rfl) (fun _ _ _ h => h) (Or.inl ⟨by rfl, ?_⟩) (by assumption) ?_
      rotate_left 1
      ·(intro w0 hSw; (try dsimp only at hSw); go_simp; try with_reducible rfl)
      try simp only [Act.put, setIfInBounds_toArray, set_cons_zero, set_cons_succ, getElem_toArray, getElem_cons_zero, getElem_cons_succ]
      refine wpAnyH_take (i := 14) (v := ?_) rfl (by kernel_rfl) (by kernel_rfl) (by kernel_rfl) (fun _ _ _ h => h) (Or.inl ⟨by rfl, ?_⟩) (by assumption) ?_
      rotate_left 1
      ·(intro w0 hSw; (try dsimp only at hSw); go_simp; try with_reducible rfl)
      try simp only [Act.put, setIfInBounds_toArray, set_cons_zero, set_cons_succ, getElem_toArray, getElem_cons_zero, getElem_cons_succ]
      refine wpAnyH_ready (rs := [15, 16]) (by kernel_rfl) (by simp) (AllReadyH.cons rfl (fun K hK => ?_) (AllReadyH.cons rfl (fun K hK => ?_) AllReadyH.nil))
      ·skip
       try simp only [Act.put, setIfInBounds_toArray, set_cons_zero, set_cons_succ, getElem_toArray, getElem_cons_zero, getElem_cons_succ]
       rw [if_pos (by rfl)]
       go_simp
       obtain ⟨u2, hw⟩ : ∃ W, W = u1.alloc (.cells #[.slice none 0 0, .slice none 0 0] 86) := ⟨_, rfl⟩
       rw [← hw]
       have rp : Row u2 u1.heap.size 86 #[.slice none 0 0, .slice none 0 0] := by rw [hw]; exact Row.new _ _ _
       have bb : Below u1.heap.size u1 u2 := by rw [hw]; exact (Below.refl _ _).alloc (Nat.le_refl _) _
       have yrp : u1.heap.size < u2.heap.size := rp.lt
       clear hw
       replace oF := oF.next bb
       replace oG := oG.next bb
       have z0u2 := bs.size
       replace bs := next_trans bs bb
       have zu2 := bb.size
       clear bb
       refine hK.out _ _ ?_ (fun hHeld => ?_)
       ·exact ⟨(bs.cell (p := ⟨o, 0, none⟩) HB5.out.1).trans HC5.out.1, (bs.cell (p := ⟨o, 1, none⟩) HB5.out.1).trans HC5.out.2.1, (bs.cell (p := ⟨xb, xoff + k, none⟩) HB5.out.2).trans HC5.out.2.2.1, (bs.cell (p := ⟨xb, xoff + m, none⟩) HB5.out.2).trans HC5.out.2.2.2⟩
       clear hK K
       try simp only [Act.put, setIfInBounds_toArray, set_cons_zero, set_cons_succ, getElem_toArray, getElem_cons_zero, getElem_cons_succ]
       refine wpAnyH_ready (rs := [16]) (by kernel_rfl) (by simp) (AllReadyH.cons rfl (fun K hK => ?_) AllReadyH.nil)
       try simp only [Act.put, setIfInBounds_toArray, set_cons_zero, set_cons_succ, getElem_toArray, getElem_cons_zero, getElem_cons_succ]
       rw [if_pos (by rfl)]
       go_simp
       obtain ⟨u3, hw⟩ : ∃ W, W = u2.alloc (.cells #[.slice none 0 0, .slice none 0 0] 86) := ⟨_, rfl⟩
       rw [← hw]
       have rq : Row u3 u2.heap.size 86 #[.slice none 0 0, .slice none 0 0] := by rw [hw]; exact Row.new _ _ _
       have bb : Below u2.heap.size u2 u3 := by rw [hw]; exact (Below.refl _ _).alloc (Nat.le_refl _) _
       have yrq : u2.heap.size < u3.heap.size := rq.lt
       clear hw
       replace oF := oF.next bb
       replace oG := oG.next bb
       replace rp := rp.next bb
       have z0u3 := bs.size
       replace bs := next_trans bs bb
       have zu3 := bb.size
       clear bb
       refine hK.out _ _ ?_ (fun hHeld => ?_)
       ·exact ⟨(bs.cell (p := ⟨o, 0, none⟩) HB5.out.1).trans HC5.out.1, (bs.cell (p := ⟨o, 1, none⟩) HB5.out.1).trans HC5.out.2.1, (bs.cell (p := ⟨xb, xoff + k, none⟩) HB5.out.2).trans HC5.out.2.2.1, (bs.cell (p := ⟨xb, xoff + m, none⟩) HB5.out.2).trans HC5.out.2.2.2⟩
       clear hK K
       try simp only [Act.put, setIfInBounds_toArray, set_cons_zero, set_cons_succ, getElem_toArray, getElem_cons_zero, getElem_cons_succ]
       have zbs := bs.size
       have hn1 : u1.heap.size ≠ o := by have := HB5.out.1; omega
       have hx1 : u1.heap.size ≠ xb := by have := HB5.out.2; omega
       have hn2 : u2.heap.size ≠ o := by have := HB5.out.1; omega
       have hx2 : u2.heap.size ≠ xb := by have := HB5.out.2; omega
       obtain ⟨⟨p0, p1, p2, p3, p4, p5⟩, ⟨q0, q1, q2, q3, q4, q5⟩, -⟩ := two_cells rp rq (by omega) (.slice A0 n0 g0) (.slice A1 n1 g1) (.slice B0 m0 g2) (.slice B1 m1 g3)
       have F := hid (boxd2_put (V := D) oF oG rp rq (by omega) (by omega) (by omega) bs (by omega) (by omega))
       refine wpAnyH_ready (rs := [17]) (by kernel_rfl) (by simp) (AllReadyH.cons rfl (fun K hK => ?_) AllReadyH.nil)
       try simp only [Act.put, setIfInBounds_toArray, set_cons_zero, set_cons_succ, getElem_toArray, getElem_cons_zero, getElem_cons_succ]
       rw [if_pos (by rfl)]
       go_simp
       refine hK.out _ _ ?_ (fun hHeld => ?_)
       ·exact ⟨(far2 (a := ⟨o, 0, none⟩) hn1 ((bs.cell (p := ⟨o, 0, none⟩) HB5.out.1).trans HC5.out.1)), (far2 (a := ⟨o, 1, none⟩) hn1 ((bs.cell (p := ⟨o, 1, none⟩) HB5.out.1).trans HC5.out.2.1)), (far2 (a := ⟨xb, xoff + k, none⟩) hx1 ((bs.cell (p := ⟨xb, xoff + k, none⟩) HB5.out.2).trans HC5.out.2.2.1)), (far2 (a := ⟨xb, xoff + m, none⟩) hx1 ((bs.cell (p := ⟨xb, xoff + m, none⟩) HB5.out.2).trans HC5.out.2.2.2))⟩
       clear hK K
       try simp only [Act.put, setIfInBounds_toArray, set_cons_zero, set_cons_succ, getElem_toArray, getElem_cons_zero, getElem_cons_succ]
       refine wpAnyH_ready (rs := [18]) (by kernel_rfl) (by simp) (AllReadyH.cons rfl (fun K hK => ?_) AllReadyH.nil)
       try simp only [Act.put, setIfInBounds_toArray, set_cons_zero, set_cons_succ, getElem_toArray, getElem_cons_zero, getElem_cons_succ]
       rw [if_pos (by rfl)]
       go_simp
       refine hK.out _ _ ?_ (fun hHeld => ?_)
       ·exact ⟨(far2 (a := ⟨o, 0, none⟩) hn2 (far2 (a := ⟨o, 0, none⟩) hn1 ((bs.cell (p := ⟨o, 0, none⟩) HB5.out.1).trans HC5.out.1))), (far2 (a := ⟨o, 1, none⟩) hn2 (far2 (a := ⟨o, 1, none⟩) hn1 ((bs.cell (p := ⟨o, 1, none⟩) HB5.out.1).trans HC5.out.2.1))), (far2 (a := ⟨xb, xoff + k, none⟩) hx2 (far2 (a := ⟨xb, xoff + k, none⟩) hx1 ((bs.cell (p := ⟨xb, xoff + k, none⟩) HB5.out.2).trans HC5.out.2.2.1))), (far2 (a := ⟨xb, xoff + m, none⟩) hx2 (far2 (a := ⟨xb, xoff + m, none⟩) hx1 ((bs.cell (p := ⟨xb, xoff + m, none⟩) HB5.out.2).trans HC5.out.2.2.2)))⟩
       clear hK K
       try simp only [Act.put, setIfInBounds_toArray, set_cons_zero, set_cons_succ, getElem_toArray, getElem_cons_zero, getElem_cons_succ]
       refine wpAnyH_take (i := 19) (v := ?_) rfl (by kernel_rfl) (by kernel_rfl) (by kernel_rfl) (fun _ _ _ h => h) (Or.inl ⟨by rfl, ?_⟩) (by assumption) ?_
       rotate_left 1
       ·(intro w0 hSw; (try dsimp only at hSw); go_simp; try with_reducible rfl)
       try simp only [Act.put, setIfInBounds_toArray, set_cons_zero, set_cons_succ, getElem_toArray, getElem_cons_zero, getElem_cons_succ]
       refine wpAnyH_done (by kernel_rfl) ?_ _
       clear p0 p1 p2 p3 p4 p5 q0 q1 q2 q3 q4 q5 rp rq oF oG bs
       go_wp2_with fail
       go_meet
       exact ⟨F.out, rfl⟩
      ·skip
       try simp only [Act.put, setIfInBounds_toArray, set_cons_zero, set_cons_succ, getElem_toArray, getElem_cons_zero, getElem_cons_succ]
       rw [if_pos (by rfl)]
       go_simp
       obtain ⟨u4, hw⟩ : ∃ W, W = u1.alloc (.cells #[.slice none 0 0, .slice none 0 0] 86) := ⟨_, rfl⟩
       rw [← hw]
       have rq : Row u4 u1.heap.size 86 #[.slice none 0 0, .slice none 0 0] := by rw [hw]; exact Row.new _ _ _
       have bb : Below u1.heap.size u1 u4 := by rw [hw]; exact (Below.refl _ _).alloc (Nat.le_refl _) _
       have yrq : u1.heap.size < u4.heap.size := rq.lt
       clear hw
       replace oF := oF.next bb
       replace oG := oG.next bb
       have z0u4 := bs.size
       replace bs := next_trans bs bb
       have zu4 := bb.size
       clear bb
       refine hK.out _ _ ?_ (fun hHeld => ?_)
       ·exact ⟨(bs.cell (p := ⟨o, 0, none⟩) HB5.out.1).trans HC5.out.1, (bs.cell (p := ⟨o, 1, none⟩) HB5.out.1).trans HC5.out.2.1, (bs.cell (p := ⟨xb, xoff + k, none⟩) HB5.out.2).trans HC5.out.2.2.1, (bs.cell (p := ⟨xb, xoff + m, none⟩) HB5.out.2).trans HC5.out.2.2.2⟩
       clear hK K
       try simp only [Act.put, setIfInBounds_toArray, set_cons_zero, set_cons_succ, getElem_toArray, getElem_cons_zero, getElem_cons_succ]
       refine wpAnyH_ready (rs := [15]) (by kernel_rfl) (by simp) (AllReadyH.cons rfl (fun K hK => ?_) AllReadyH.nil)
       try simp only [Act.put, setIfInBounds_toArray, set_cons_zero, set_cons_succ, getElem_toArray, getElem_cons_zero, getElem_cons_succ]
       rw [if_pos (by rfl)]
       go_simp
       obtain ⟨u5, hw⟩ : ∃ W, W = u4.alloc (.cells #[.slice none 0 0, .slice none 0 0] 86) := ⟨_, rfl⟩
       rw [← hw]
       have rp : Row u5 u4.heap.size 86 #[.slice none 0 0, .slice none 0 0] := by rw [hw]; exact Row.new _ _ _
       have bb : Below u4.heap.size u4 u5 := by rw [hw]; exact (Below.refl _ _).alloc (Nat.le_refl _) _
       have yrp : u4.heap.size < u5.heap.size := rp.lt
       clear hw
       replace oF := oF.next bb
       replace oG := oG.next bb
       replace rq := rq.next bb
       have z0u5 := bs.size
       replace bs := next_trans bs bb
       have zu5 := bb.size
       clear bb
       refine hK.out _ _ ?_ (fun hHeld => ?_)
       ·exact ⟨(bs.cell (p := ⟨o, 0, none⟩) HB5.out.1).trans HC5.out.1, (bs.cell (p := ⟨o, 1, none⟩) HB5.out.1).trans HC5.out.2.1, (bs.cell (p := ⟨xb, xoff + k, none⟩) HB5.out.2).trans HC5.out.2.2.1, (bs.cell (p := ⟨xb, xoff + m, none⟩) HB5.out.2).trans HC5.out.2.2.2⟩
       clear hK K
       try simp only [Act.put, setIfInBounds_toArray, set_cons_zero, set_cons_succ, getElem_toArray, getElem_cons_zero, getElem_cons_succ]
       have zbs := bs.size
       have hn1 : u4.heap.size ≠ o := by have := HB5.out.1; omega
       have hx1 : u4.heap.size ≠ xb := by have := HB5.out.2; omega
       have hn2 : u1.heap.size ≠ o := by have := HB5.out.1; omega
       have hx2 : u1.heap.size ≠ xb := by have := HB5.out.2; omega
       obtain ⟨⟨p0, p1, p2, p3, p4, p5⟩, ⟨q0, q1, q2, q3, q4, q5⟩, -⟩ := two_cells rp rq (by omega) (.slice A0 n0 g0) (.slice A1 n1 g1) (.slice B0 m0 g2) (.slice B1 m1 g3)
       have F := hid (boxd2_put (V := D) oF oG rp rq (by omega) (by omega) (by omega) bs (by omega) (by omega))
       refine wpAnyH_ready (rs := [17]) (by kernel_rfl) (by simp) (AllReadyH.cons rfl (fun K hK => ?_) AllReadyH.nil)
       try simp only [Act.put, setIfInBounds_toArray, set_cons_zero, set_cons_succ, getElem_toArray, getElem_cons_zero, getElem_cons_succ]
       rw [if_pos (by rfl)]
       go_simp
       refine hK.out _ _ ?_ (fun hHeld => ?_)
       ·exact ⟨(far2 (a := ⟨o, 0, none⟩) hn1 ((bs.cell (p := ⟨o, 0, none⟩) HB5.out.1).trans HC5.out.1)), (far2 (a := ⟨o, 1, none⟩) hn1 ((bs.cell (p := ⟨o, 1, none⟩) HB5.out.1).trans HC5.out.2.1)), (far2 (a := ⟨xb, xoff + k, none⟩) hx1 ((bs.cell (p := ⟨xb, xoff + k, none⟩) HB5.out.2).trans HC5.out.2.2.1)), (far2 (a := ⟨xb, xoff + m, none⟩) hx1 ((bs.cell (p := ⟨xb, xoff + m, none⟩) HB5.out.2).trans HC5.out.2.2.2))⟩
       clear hK K
       try simp only [Act.put, setIfInBounds_toArray, set_cons_zero, set_cons_succ, getElem_toArray, getElem_cons_zero, getElem_cons_succ]
       refine wpAnyH_ready (rs := [18]) (by kernel_rfl) (by simp) (AllReadyH.cons rfl (fun K hK => ?_) AllReadyH.nil)
       try simp only [Act.put, setIfInBounds_toArray, set_cons_zero, set_cons_succ, getElem_toArray, getElem_cons_zero, getElem_cons_succ]
       rw [if_pos (by rfl)]
       go_simp
       refine hK.out _ _ ?_ (fun hHeld => ?_)
       ·exact ⟨(far2 (a := ⟨o, 0, none⟩) hn2 (far2 (a := ⟨o, 0, none⟩) hn1 ((bs.cell (p := ⟨o, 0, none⟩) HB5.out.1).trans HC5.out.1))), (far2 (a := ⟨o, 1, none⟩) hn2 (far2 (a := ⟨o, 1, none⟩) hn1 ((bs.cell (p := ⟨o, 1, none⟩) HB5.out.1).trans HC5.out.2.1))), (far2 (a := ⟨xb, xoff + k, none⟩) hx2 (far2 (a := ⟨xb, xoff + k, none⟩) hx1 ((bs.cell (p := ⟨xb, xoff + k, none⟩) HB5.out.2).trans HC5.out.2.2.1))), (far2 (a := ⟨xb, xoff + m, none⟩) hx2 (far2 (a := ⟨xb, xoff + m, none⟩) hx1 ((bs.cell (p := ⟨xb, xoff + m, none⟩) HB5.out.2).trans HC5.out.2.2.2)))⟩
       clear hK K
       try simp only [Act.put, setIfInBounds_toArray, set_cons_zero, set_cons_succ, getElem_toArray, getElem_cons_zero, getElem_cons_succ]
       refine wpAnyH_take (i := 19) (v := ?_) rfl (by kernel_rfl) (by kernel_rfl) (by kernel_rfl) (fun _ _ _ h => h) (Or.inl ⟨by rfl, ?_⟩) (by assumption) ?_
       rotate_left 1
       ·(intro w0 hSw; (try dsimp only at hSw); go_simp; try with_reducible rfl)
       try simp only [Act.put, setIfInBounds_toArray, set_cons_zero, set_cons_succ, getElem_toArray, getElem_cons_zero, getElem_cons_succ]
       refine wpAnyH_done (by kernel_rfl) ?_ _
       clear p0 p1 p2 p3 p4 p5 q0 q1 q2 q3 q4 q5 rp rq oF oG bs
       go_wp2_with fail
       go_meet
       exact ⟨F.out, rfl⟩
     ·skip
      try simp only [Act.put, setIfInBounds_toArray, set_cons_zero, set_cons_succ, getElem_toArray, getElem_cons_zero, getElem_cons_succ]
      rw [if_pos (by rfl)]
      go_simp
      obtain ⟨u6, hw⟩ : ∃ W, W = D.alloc (.cells #[.slice none 0 0, .slice none 0 0] 86) := ⟨_, rfl⟩
      rw [← hw]
      have rp : Row u6 D.heap.size 86 #[.slice none 0 0, .slice none 0 0] := by rw [hw]; exact Row.new _ _ _
      have bb : Below D.heap.size D u6 := by rw [hw]; exact (Below.refl _ _).alloc (Nat.le_refl _) _
      have yrp : D.heap.size < u6.heap.size := rp.lt
      clear hw
      have z0u6 := bs.size
      replace bs := next_trans bs bb
      have zu6 := bb.size
      clear bb
      refine hK.out _ _ ?_ (fun hHeld => ?_)
      ·exact ⟨(bs.cell (p := ⟨o, 0, none⟩) HB5.out.1).trans HC5.out.1, (bs.cell (p := ⟨o, 1, none⟩) HB5.out.1).trans HC5.out.2.1, (bs.cell (p := ⟨xb, xoff + k, none⟩) HB5.out.2).trans HC5.out.2.2.1, (bs.cell (p := ⟨xb, xoff + m, none⟩) HB5.out.2).trans HC5.out.2.2.2⟩
      clear hK K
      try simp only [Act.put, setIfInBounds_toArray, set_cons_zero, set_cons_succ, getElem_toArray, getElem_cons_zero, getElem_cons_succ]
      refine wpAnyH_ready (rs := [10, 16]) (by kernel_rfl) (by simp) (AllReadyH.cons rfl (fun K hK => ?_) (AllReadyH.cons rfl (fun K hK => ?_) AllReadyH.nil))
      ·skip
       try simp only [Act.put, setIfInBounds_toArray, set_cons_zero, set_cons_succ, getElem_toArray, getElem_cons_zero, getElem_cons_succ]
       rw [if_pos (by rfl)]
       go_simp
       refine (LJ.out _ bs).mono ?_
       rintro e u7 ⟨A0, n0, g0, A1, n1, g1, B0, m0, g2, B1, m1, g3, rfl, ⟨fF, fG, o1, o2, ond, obd⟩, bb⟩
       obtain ⟨nd1, nd2, -⟩ := List.nodup_append.1 ond
       have oF : Owned u7 u6.heap.size u7.heap.size sWalk [.slice A0 n0 g0, .slice A1 n1 g1] (J.getD (([], []), ([], []))).1 := ⟨fF, o1, nd1, fun q hq => obd q (List.mem_append_left _ hq)⟩
       have oG : Owned u7 u6.heap.size u7.heap.size sWalk [.slice B0 m0 g2, .slice B1 m1 g3] (J.getD (([], []), ([], []))).2 := ⟨fG, o2, nd2, fun q hq => obd q (List.mem_append_right _ hq)⟩
       clear o1 o2 ond obd nd1 nd2
       replace rp := rp.next bb
       have z0u7 := bs.size
       replace bs := next_trans bs bb
       have zu7 := bb.size
       clear bb
       refine hK.out _ _ ?_ (fun hHeld => ?_)
       ·exact ⟨(bs.cell (p := ⟨o, 0, none⟩) HB5.out.1).trans HC5.out.1, (bs.cell (p := ⟨o, 1, none⟩) HB5.out.1).trans HC5.out.2.1, (bs.cell (p := ⟨xb, xoff + k, none⟩) HB5.out.2).trans HC5.out.2.2.1, (bs.cell (p := ⟨xb, xoff + m, none⟩) HB5.out.2).trans HC5.out.2.2.2⟩
       clear hK K
       try simp only [Act.put, setIfInBounds_toArray, set_cons_zero, set_cons_succ, getElem_toArray, getElem_cons_zero, getElem_cons_succ]
       refine wpAnyH_take (i := 11) (v := ?_) rfl (by kernel_rfl) (by kernel_rfl) (by kernel_rfl) (fun _ _ _ h => h) (Or.inl ⟨by rfl, ?_⟩) (by assumption) ?_
       rotate_left 1
       ·(intro w0 hSw; (try dsimp only at hSw); go_simp; try with_reducible rfl)
       try simp only [Act.put, setIfInBounds_toArray, set_cons_zero, set_cons_succ, getElem_toArray, getElem_cons_zero, getElem_cons_succ]
       refine wpAnyH_take (i := 12) (v := ?_) rfl (by kernel_rfl) (by kernel_rfl) (by kernel_rfl) (fun _ _ _ h => h) (Or.inl ⟨by rfl, ?_⟩) (by assumption) ?_
       rotate_left 1
       ·(intro w0 hSw; (try dsimp only at hSw); go_simp; try with_reducible rfl)
       try simp only [Act.put, setIfInBounds_toArray, set_cons_zero, set_cons_succ, getElem_toArray, getElem_cons_zero, getElem_cons_succ]
       refine wpAnyH_take (i := 13) (v := ?_) rfl (by kernel_rfl) (by kernel_rfl) (by kernel_rfl) (fun _ _ _ h => h) (Or.inl ⟨by rfl, ?_⟩) (by assumption) ?_
       rotate_left 1
       ·(intro w0 hSw; (try dsimp only at hSw); go_simp; try with_reducible rfl)
       try simp only [Act.put, setIfInBounds_toArray, set_cons_zero, set_cons_succ, getElem_toArray, getElem_cons_zero, getElem_cons_succ]
       refine wpAnyH_take (i := 14) (v := ?_) rfl (by kernel_rfl) (by kernel_rfl) (by kernel_rfl) (fun _ _ _ h => h) (Or.inl ⟨by rfl, ?_⟩) (by assumption) ?_
       rotate_left 1
       ·(intro w0 hSw; (try dsimp only at hSw); go_simp; try with_reducible rfl)
       try simp only [Act.put, setIfInBounds_toArray, set_cons_zero, set_cons_succ, getElem_toArray, getElem_cons_zero, getElem_cons_succ]
       refine wpAnyH_ready (rs := [16]) (by kernel_rfl) (by simp) (AllReadyH.cons rfl (fun K hK => ?_) AllReadyH.nil)
       try simp only [Act.put, setIfInBounds_toArray, set_cons_zero, set_cons_succ, getElem_toArray, getElem_cons_zero, getElem_cons_succ]
       rw [if_pos (by rfl)]
       go_simp
       obtain ⟨u8, hw⟩ : ∃ W, W = u7.alloc (.cells #[.slice none 0 0, .slice none 0 0] 86) := ⟨_, rfl⟩
       rw [← hw]
       have rq : Row u8 u7.heap.size 86 #[.slice none 0 0, .slice none 0 0] := by rw [hw]; exact Row.new _ _ _
       have bb : Below u7.heap.size u7 u8 := by rw [hw]; exact (Below.refl _ _).alloc (Nat.le_refl _) _
       have yrq : u7.heap.size < u8.heap.size := rq.lt
       clear hw
       replace rp := rp.next bb
       replace oF := oF.next bb
       replace oG := oG.next bb
       have z0u8 := bs.size
       replace bs := next_trans bs bb
       have zu8 := bb.size
       clear bb
       refine hK.out _ _ ?_ (fun hHeld => ?_)
       ·exact ⟨(bs.cell (p := ⟨o, 0, none⟩) HB5.out.1).trans HC5.out.1, (bs.cell (p := ⟨o, 1, none⟩) HB5.out.1).trans HC5.out.2.1, (bs.cell (p := ⟨xb, xoff + k, none⟩) HB5.out.2).trans HC5.out.2.2.1, (bs.cell (p := ⟨xb, xoff + m, none⟩) HB5.out.2).trans HC5.out.2.2.2⟩
       clear hK K
       try simp only [Act.put, setIfInBounds_toArray, set_cons_zero, set_cons_succ, getElem_toArray, getElem_cons_zero, getElem_cons_succ]
       have zbs := bs.size
       have hn1 : D.heap.size ≠ o := by have := HB5.out.1; omega
       have hx1 : D.heap.size ≠ xb := by have := HB5.out.2; omega
       have hn2 : u7.heap.size ≠ o := by have := HB5.out.1; omega
       have hx2 : u7.heap.size ≠ xb := by have := HB5.out.2; omega
       obtain ⟨⟨p0, p1, p2, p3, p4, p5⟩, ⟨q0, q1, q2, q3, q4, q5⟩, -⟩ := two_cells rp rq (by omega) (.slice A0 n0 g0) (.slice A1 n1 g1) (.slice B0 m0 g2) (.slice B1 m1 g3)
       have F := hid (boxd2_put (V := D) oF oG rp rq (by omega) (by omega) (by omega) bs (by omega) (by omega))
       refine wpAnyH_ready (rs := [17]) (by kernel_rfl) (by simp) (AllReadyH.cons rfl (fun K hK => ?_) AllReadyH.nil)
       try simp only [Act.put, setIfInBounds_toArray, set_cons_zero, set_cons_succ, getElem_toArray, getElem_cons_zero, getElem_cons_succ]
       rw [if_pos (by rfl)]
       go_simp
       refine hK.out _ _ ?_ (fun hHeld => ?_)
       ·exact ⟨(far2 (a := ⟨o, 0, none⟩) hn1 ((bs.cell (p := ⟨o, 0, none⟩) HB5.out.1).trans HC5.out.1)), (far2 (a := ⟨o, 1, none⟩) hn1 ((bs.cell (p := ⟨o, 1, none⟩) HB5.out.1).trans HC5.out.2.1)), (far2 (a := ⟨xb, xoff + k, none⟩) hx1 ((bs.cell (p := ⟨xb, xoff + k, none⟩) HB5.out.2).trans HC5.out.2.2.1)), (far2 (a := ⟨xb, xoff + m, none⟩) hx1 ((bs.cell (p := ⟨xb, xoff + m, none⟩) HB5.out.2).trans HC5.out.2.2.2))⟩
       clear hK K
       try simp only [Act.put, setIfInBounds_toArray, set_cons_zero, set_cons_succ, getElem_toArray, getElem_cons_zero, getElem_cons_succ]
       refine wpAnyH_ready (rs := [18]) (by kernel_rfl) (by simp) (AllReadyH.cons rfl (fun K hK => ?_) AllReadyH.nil)
       try simp only [Act.put, setIfInBounds_toArray, set_cons_zero, set_cons_succ, getElem_toArray, getElem_cons_zero, getElem_cons_succ]
       rw [if_pos (by rfl)]
       go_simp
       refine hK.out _ _ ?_ (fun hHeld => ?_)
       ·exact ⟨(far2 (a := ⟨o, 0, none⟩) hn2 (far2 (a := ⟨o, 0, none⟩) hn1 ((bs.cell (p := ⟨o, 0, none⟩) HB5.out.1).trans HC5.out.1))), (far2 (a := ⟨o, 1, none⟩) hn2 (far2 (a := ⟨o, 1, none⟩) hn1 ((bs.cell (p := ⟨o, 1, none⟩) HB5.out.1).trans HC5.out.2.1))), (far2 (a := ⟨xb, xoff + k, none⟩) hx2 (far2 (a := ⟨xb, xoff + k, none⟩) hx1 ((bs.cell (p := ⟨xb, xoff + k, none⟩) HB5.out.2).trans HC5.out.2.2.1))), (far2 (a := ⟨xb, xoff + m, none⟩) hx2 (far2 (a := ⟨xb, xoff + m, none⟩) hx1 ((bs.cell (p := ⟨xb, xoff + m, none⟩) HB5.out.2).trans HC5.out.2.2.2)))⟩
       clear hK K
       try simp only [Act.put, setIfInBounds_toArray, set_cons_zero, set_cons_succ, getElem_toArray, getElem_cons_zero, getElem_cons_succ]
       refine wpAnyH_take (i := 19) (v := ?_) rfl (by kernel_rfl) (by kernel_rfl) (by kernel_rfl) (fun _ _ _ h => h) (Or.inl ⟨by rfl, ?_⟩) (by assumption) ?_
       rotate_left 1
       ·(intro w0 hSw; (try dsimp only at hSw); go_simp; try with_reducible rfl)
       try simp only [Act.put, setIfInBounds_toArray, set_cons_zero, set_cons_succ, getElem_toArray, getElem_cons_zero, getElem_cons_succ]
       refine wpAnyH_done (by kernel_rfl) ?_ _
       clear p0 p1 p2 p3 p4 p5 q0 q1 q2 q3 q4 q5 rp rq oF oG bs
       go_wp2_with fail
       go_meet
       exact ⟨F.out, rfl⟩
      ·skip
       try simp only [Act.put, setIfInBounds_toArray, set_cons_zero, set_cons_succ, getElem_toArray, getElem_cons_zero, getElem_cons_succ]
       rw [if_pos (by rfl)]
       go_simp
       obtain ⟨u9, hw⟩ : ∃ W, W = u6.alloc (.cells #[.slice none 0 0, .slice none 0 0] 86) := ⟨_, rfl⟩
       rw [← hw]
       have rq : Row u9 u6.heap.size 86 #[.slice none 0 0, .slice none 0 0] := by rw [hw]; exact Row.new _ _ _
       have bb : Below u6.heap.size u6 u9 := by rw [hw]; exact (Below.refl _ _).alloc (Nat.le_refl _) _
       have yrq : u6.heap.size < u9.heap.size := rq.lt
       clear hw
       replace rp := rp.next bb
       have z0u9 := bs.size
       replace bs := next_trans bs bb
       have zu9 := bb.size
       clear bb
       refine hK.out _ _ ?_ (fun hHeld => ?_)
       ·exact ⟨(bs.cell (p := ⟨o, 0, none⟩) HB5.out.1).trans HC5.out.1, (bs.cell (p := ⟨o, 1, none⟩) HB5.out.1).trans HC5.out.2.1, (bs.cell (p := ⟨xb, xoff + k, none⟩) HB5.out.2).trans HC5.out.2.2.1, (bs.cell (p := ⟨xb, xoff + m, none⟩) HB5.out.2).trans HC5.out.2.2.2⟩
       clear hK K
       try simp only [Act.put, setIfInBounds_toArray, set_cons_zero, set_cons_succ, getElem_toArray, getElem_cons_zero, getElem_cons_succ]
       refine wpAnyH_ready (rs := [10]) (by kernel_rfl) (by simp) (AllReadyH.cons rfl (fun K hK => ?_) AllReadyH.nil)
       try simp only [Act.put, setIfInBounds_toArray, set_cons_zero, set_cons_succ, getElem_toArray, getElem_cons_zero, getElem_cons_succ]
       rw [if_pos (by rfl)]
       go_simp
       refine (LJ.out _ bs).mono ?_
       rintro e u10 ⟨A0, n0, g0, A1, n1, g1, B0, m0, g2, B1, m1, g3, rfl, ⟨fF, fG, o1, o2, ond, obd⟩, bb⟩
       obtain ⟨nd1, nd2, -⟩ := List.nodup_append.1 ond
       have oF : Owned u10 u9.heap.size u10.heap.size sWalk [.slice A0 n0 g0, .slice A1 n1 g1] (J.getD (([], []), ([], []))).1 := ⟨fF, o1, nd1, fun q hq => obd q (List.mem_append_left _ hq)⟩
       have oG : Owned u10 u9.heap.size u10.heap.size sWalk [.slice B0 m0 g2, .slice B1 m1 g3] (J.getD (([], []), ([], []))).2 := ⟨fG, o2, nd2, fun q hq => obd q (List.mem_append_right _ hq)⟩
       clear o1 o2 ond obd nd1 nd2
       replace rp := rp.next bb
       replace rq := rq.next bb
       have z0u10 := bs.size
       replace bs := next_trans bs bb
       have zu10 := bb.size
       clear bb
       refine hK.out _ _ ?_ (fun hHeld => ?_)
       ·exact ⟨(bs.cell (p := ⟨o, 0, none⟩) HB5.out.1).trans HC5.out.1, (bs.cell (p := ⟨o, 1, none⟩) HB5.out.1).trans HC5.out.2.1, (bs.cell (p := ⟨xb, xoff + k, none⟩) HB5.out.2).trans HC5.out.2.2.1, (bs.cell (p := ⟨xb, xoff + m, none⟩) HB5.out.2).trans HC5.out.2.2.2⟩
       clear hK K
       try simp only [Act.put, setIfInBounds_toArray, set_cons_zero, set_cons_succ, getElem_toArray, getElem_cons_zero, getElem_cons_succ]
       refine wpAnyH_take (i := 11) (v := ?_) rfl (by kernel_rfl) (by kernel_rfl) (by kernel_rfl) (fun _ _ _ h => h) (Or.inl ⟨by rfl, ?_⟩) (by assumption) ?_
       rotate_left 1
       ·(intro w0 hSw; (try dsimp only at hSw); go_simp; try with_reducible rfl)
       try simp only [Act.put, setIfInBounds_toArray, set_cons_zero, set_cons_succ, getElem_toArray, getElem_cons_zero, getElem_cons_succ]
       refine wpAnyH_take (i := 12) (v := ?_) rfl (by kernel_rfl) (by kernel_rfl) (by kernel_rfl) (fun _ _ _ h => h) (Or.inl ⟨by rfl, ?_⟩) (by assumption) ?_
       rotate_left 1
       ·(intro w0 hSw; (try dsimp only at hSw); go_simp; try with_reducible rfl)
       try simp only [Act.put, setIfInBounds_toArray, set_cons_zero, set_cons_succ, getElem_toArray, getElem_cons_zero, getElem_cons_succ]
       refine wpAnyH_take (i := 13) (v := ?_) rfl (by kernel_rfl) (by kernel_rfl) (by kernel_rfl) (fun _ _ _ h => h) (Or.inl ⟨by rfl, ?_⟩) (by assumption) ?_
       rotate_left 1
       ·(intro w0 hSw; (try dsimp only at hSw); go_simp; try with_reducible rfl)
       try simp only [Act.put, setIfInBounds_toArray, set_cons_zero, set_cons_succ, getElem_toArray, getElem_cons_zero, getElem_cons_succ]
       refine wpAnyH_take (i := 14) (v := ?_) rfl (by kernel_rfl) (by kernel_rfl) (by kernel_rfl) (fun _ _ _ h => h) (Or.inl ⟨by rfl, ?_⟩) (by assumption) ?_
       rotate_left 1
       ·(intro w0 hSw; (try dsimp only at hSw); go_simp; try with_reducible rfl)
       try simp only [Act.put, setIfInBounds_toArray, set_cons_zero, set_cons_succ, getElem_toArray, getElem_cons_zero, getElem_cons_succ]
       have zbs := bs.size
       have hn1 : D.heap.size ≠ o := by have := HB5.out.1; omega
       have hx1 : D.heap.size ≠ xb := by have := HB5.out.2; omega
       have hn2 : u6.heap.size ≠ o := by have := HB5.out.1; omega
       have hx2 : u6.heap.size ≠ xb := by have := HB5.out.2; omega
       obtain ⟨⟨p0, p1, p2, p3, p4, p5⟩, ⟨q0, q1, q2, q3, q4, q5⟩, -⟩ := two_cells rp rq (by omega) (.slice A0 n0 g0) (.slice A1 n1 g1) (.slice B0 m0 g2) (.slice B1 m1 g3)
       have F := hid (boxd2_put (V := D) oF oG rp rq (by omega) (by omega) (by omega) bs (by omega) (by omega))
       refine wpAnyH_ready (rs := [17]) (by kernel_rfl) (by simp) (AllReadyH.cons rfl (fun K hK => ?_) AllReadyH.nil)
       try simp only [Act.put, setIfInBounds_toArray, set_cons_zero, set_cons_succ, getElem_toArray, getElem_cons_zero, getElem_cons_succ]
       rw [if_pos (by rfl)]
       go_simp
       refine hK.out _ _ ?_ (fun hHeld => ?_)
       ·exact ⟨(far2 (a := ⟨o, 0, none⟩) hn1 ((bs.cell (p := ⟨o, 0, none⟩) HB5.out.1).trans HC5.out.1)), (far2 (a := ⟨o, 1, none⟩) hn1 ((bs.cell (p := ⟨o, 1, none⟩) HB5.out.1).trans HC5.out.2.1)), (far2 (a := ⟨xb, xoff + k, none⟩) hx1 ((bs.cell (p := ⟨xb, xoff + k, none⟩) HB5.out.2).trans HC5.out.2.2.1)), (far2 (a := ⟨xb, xoff + m, none⟩) hx1 ((bs.cell (p := ⟨xb, xoff + m, none⟩) HB5.out.2).trans HC5.out.2.2.2))⟩
       clear hK K
       try simp only [Act.put, setIfInBounds_toArray, set_cons_zero, set_cons_succ, getElem_toArray, getElem_cons_zero, getElem_cons_succ]
       refine wpAnyH_ready (rs := [18]) (by kernel_rfl) (by simp) (AllReadyH.cons rfl (fun K hK => ?_) AllReadyH.nil)
       try simp only [Act.put, setIfInBounds_toArray, set_cons_zero, set_cons_succ, getElem_toArray, getElem_cons_zero, getElem_cons_succ]
       rw [if_pos (by rfl)]
       go_simp
       refine hK.out _ _ ?_ (fun hHeld => ?_)
       ·exact ⟨(far2 (a := ⟨o, 0, none⟩) hn2 (far2 (a := ⟨o, 0, none⟩) hn1 ((bs.cell (p := ⟨o, 0, none⟩) HB5.out.1).trans HC5.out.1))), (far2 (a := ⟨o, 1, none⟩) hn2 (far2 (a := ⟨o, 1, none⟩) hn1 ((bs.cell (p := ⟨o, 1, none⟩) HB5.out.1).trans HC5.out.2.1))), (far2 (a := ⟨xb, xoff + k, none⟩) hx2 (far2 (a := ⟨xb, xoff + k, none⟩) hx1 ((bs.cell (p := ⟨xb, xoff + k, none⟩) HB5.out.2).trans HC5.out.2.2.1))), (far2 (a := ⟨xb, xoff + m, none⟩) hx2 (far2 (a := ⟨xb, xoff + m, none⟩) hx1 ((bs.cell (p := ⟨xb, xoff + m, none⟩) HB5.out.2).trans HC5.out.2.2.2)))⟩
       clear hK K
       try simp only [Act.put, setIfInBounds_toArray, set_cons_zero, set_cons_succ, getElem_toArray, getElem_cons_zero, getElem_cons_succ]
       refine wpAnyH_take (i := 19) (v := ?_) rfl (by kernel_rfl) (by kernel_rfl) (by kernel_rfl) (fun _ _ _ h => h) (Or.inl ⟨by rfl, ?_⟩) (by assumption) ?_
       rotate_left 1
       ·(intro w0 hSw; (try dsimp only at hSw); go_simp; try with_reducible rfl)
       try simp only [Act.put, setIfInBounds_toArray, set_cons_zero, set_cons_succ, getElem_toArray, getElem_cons_zero, getElem_cons_succ]
       refine wpAnyH_done (by kernel_rfl) ?_ _
       clear p0 p1 p2 p3 p4 p5 q0 q1 q2 q3 q4 q5 rp rq oF oG bs
       go_wp2_with fail
       go_meet
       exact ⟨F.out, rfl⟩
     ·skip
      try simp only [Act.put, setIfInBounds_toArray, set_cons_zero, set_cons_succ, getElem_toArray, getElem_cons_zero, getElem_cons_succ]
      rw [if_pos (by rfl)]
      go_simp
      obtain ⟨u11, hw⟩ : ∃ W, W = D.alloc (.cells #[.slice none 0 0, .slice none 0 0] 86) := ⟨_, rfl⟩
      rw [← hw]
      have rq : Row u11 D.heap.size 86 #[.slice none 0 0, .slice none 0 0] := by rw [hw]; exact Row.new _ _ _
      have bb : Below D.heap.size D u11 := by rw [hw]; exact (Below.refl _ _).alloc (Nat.le_refl _) _
      have yrq : D.heap.size < u11.heap.size := rq.lt
      clear hw
      have z0u11 := bs.size
      replace bs := next_trans bs bb
      have zu11 := bb.size
      clear bb
      refine hK.out _ _ ?_ (fun hHeld => ?_)
      ·exact ⟨(bs.cell (p := ⟨o, 0, none⟩) HB5.out.1).trans HC5.out.1, (bs.cell (p := ⟨o, 1, none⟩) HB5.out.1).trans HC5.out.2.1, (bs.cell (p := ⟨xb, xoff + k, none⟩) HB5.out.2).trans HC5.out.2.2.1, (bs.cell (p := ⟨xb, xoff + m, none⟩) HB5.out.2).trans HC5.out.2.2.2⟩
      clear hK K
      try simp only [Act.put, setIfInBounds_toArray, set_cons_zero, set_cons_succ, getElem_toArray, getElem_cons_zero, getElem_cons_succ]
      refine wpAnyH_ready (rs := [10, 15]) (by kernel_rfl) (by simp) (AllReadyH.cons rfl (fun K hK => ?_) (AllReadyH.cons rfl (fun K hK => ?_) AllReadyH.nil))
      ·skip
       try simp only [Act.put, setIfInBounds_toArray, set_cons_zero, set_cons_succ, getElem_toArray, getElem_cons_zero, getElem_cons_succ]
       rw [if_pos (by rfl)]
       go_simp
       refine (LJ.out _ bs).mono ?_
       rintro e u12 ⟨A0, n0, g0, A1, n1, g1, B0, m0, g2, B1, m1, g3, rfl, ⟨fF, fG, o1, o2, ond, obd⟩, bb⟩
       obtain ⟨nd1, nd2, -⟩ := List.nodup_append.1 ond
       have oF : Owned u12 u11.heap.size u12.heap.size sWalk [.slice A0 n0 g0, .slice A1 n1 g1] (J.getD (([], []), ([], []))).1 := ⟨fF, o1, nd1, fun q hq => obd q (List.mem_append_left _ hq)⟩
       have oG : Owned u12 u11.heap.size u12.heap.size sWalk [.slice B0 m0 g2, .slice B1 m1 g3] (J.getD (([], []), ([], []))).2 := ⟨fG, o2, nd2, fun q hq => obd q (List.mem_append_right _ hq)⟩
       clear o1 o2 ond obd nd1 nd2
       replace rq := rq.next bb
       have z0u12 := bs.size
       replace bs := next_trans bs bb
       have zu12 := bb.size
       clear bb
       refine hK.out _ _ ?_ (fun hHeld => ?_)
       ·exact ⟨(bs.cell (p := ⟨o, 0, none⟩) HB5.out.1).trans HC5.out.1, (bs.cell (p := ⟨o, 1, none⟩) HB5.out.1).trans HC5.out.2.1, (bs.cell (p := ⟨xb, xoff + k, none⟩) HB5.out.2).trans HC5.out.2.2.1, (bs.cell (p := ⟨xb, xoff + m, none⟩) HB5.out.2).trans HC5.out.2.2.2⟩
       clear hK K
       try simp only [Act.put, setIfInBounds_toArray, set_cons_zero, set_cons_succ, getElem_toArray, getElem_cons_zero, getElem_cons_succ]
       refine wpAnyH_take (i := 11) (v := ?_) rfl (by kernel_rfl) (by kernel_rfl) (by kernel_rfl) (fun _ _ _ h => h) (Or.inl ⟨by rfl, ?_⟩) (by assumption) ?_
       rotate_left 1
       ·(intro w0 hSw; (try dsimp only at hSw); go_simp; try with_reducible rfl)
       try simp only [Act.put, setIfInBounds_toArray, set_cons_zero, set_cons_succ, getElem_toArray, getElem_cons_zero, getElem_cons_succ]
       refine wpAnyH_take (i := 12) (v := ?_) rfl (by kernel_rfl) (by kernel_rfl) (by kernel_rfl) (fun _ _ _ h => h) (Or.inl ⟨by rfl, ?_⟩) (by assumption) ?_
       rotate_left 1
       ·(intro w0 hSw; (try dsimp only at hSw); go_simp; try with_reducible rfl)
       try simp only [Act.put, setIfInBounds_toArray, set_cons_zero, set_cons_succ, getElem_toArray, getElem_cons_zero, getElem_cons_succ]
       refine wpAnyH_take (i := 13) (v := ?_) rfl (by kernel_rfl) (by kernel_rfl) (by kernel_rfl) (fun _ _ _ h => h) (Or.inl ⟨by rfl, ?_⟩) (by assumption) ?_
       rotate_left 1
       ·(intro w0 hSw; (try dsimp only at hSw); go_simp; try with_reducible rfl)
       try simp only [Act.put, setIfInBounds_toArray, set_cons_zero, set_cons_succ, getElem_toArray, getElem_cons_zero, getElem_cons_succ]
       refine wpAnyH_take (i := 14) (v := ?_) rfl (by kernel_rfl) (by kernel_rfl) (by kernel_rfl) (fun _ _ _ h => h) (Or.inl ⟨by rfl, ?_⟩) (by assumption) ?_
       rotate_left 1
       ·(intro w0 hSw; (try dsimp only at hSw); go_simp; try with_reducible rfl)
       try simp only [Act.put, setIfInBounds_toArray, set_cons_zero, set_cons_succ, getElem_toArray, getElem_cons_zero, getElem_cons_succ]
       refine wpAnyH_ready (rs := [15]) (by kernel_rfl) (by simp) (AllReadyH.cons rfl (fun K hK => ?_) AllReadyH.nil)
       try simp only [Act.put, setIfInBounds_toArray, set_cons_zero, set_cons_succ, getElem_toArray, getElem_cons_zero, getElem_cons_succ]
       rw [if_pos (by rfl)]
       go_simp
       obtain ⟨u13, hw⟩ : ∃ W, W = u12.alloc (.cells #[.slice none 0 0, .slice none 0 0] 86) := ⟨_, rfl⟩
       rw [← hw]
       have rp : Row u13 u12.heap.size 86 #[.slice none 0 0, .slice none 0 0] := by rw [hw]; exact Row.new _ _ _
       have bb : Below u12.heap.size u12 u13 := by rw [hw]; exact (Below.refl _ _).alloc (Nat.le_refl _) _
       have yrp : u12.heap.size < u13.heap.size := rp.lt
       clear hw
       replace rq := rq.next bb
       replace oF := oF.next bb
       replace oG := oG.next bb
       have z0u13 := bs.size
       replace bs := next_trans bs bb
       have zu13 := bb.size
       clear bb
       refine hK.out _ _ ?_ (fun hHeld => ?_)
       ·exact ⟨(bs.cell (p := ⟨o, 0, none⟩) HB5.out.1).trans HC5.out.1, (bs.cell (p := ⟨o, 1, none⟩) HB5.out.1).trans HC5.out.2.1, (bs.cell (p := ⟨xb, xoff + k, none⟩) HB5.out.2).trans HC5.out.2.2.1, (bs.cell (p := ⟨xb, xoff + m, none⟩) HB5.out.2).trans HC5.out.2.2.2⟩
       clear hK K
       try simp only [Act.put, setIfInBounds_toArray, set_cons_zero, set_cons_succ, getElem_toArray, getElem_cons_zero, getElem_cons_succ]
       have zbs := bs.size
       have hn1 : u12.heap.size ≠ o := by have := HB5.out.1; omega
       have hx1 : u12.heap.size ≠ xb := by have := HB5.out.2; omega
       have hn2 : D.heap.size ≠ o := by have := HB5.out.1; omega
       have hx2 : D.heap.size ≠ xb := by have := HB5.out.2; omega
       obtain ⟨⟨p0, p1, p2, p3, p4, p5⟩, ⟨q0, q1, q2, q3, q4, q5⟩, -⟩ := two_cells rp rq (by omega) (.slice A0 n0 g0) (.slice A1 n1 g1) (.slice B0 m0 g2) (.slice B1 m1 g3)
       have F := hid (boxd2_put (V := D) oF oG rp rq (by omega) (by omega) (by omega) bs (by omega) (by omega))
       refine wpAnyH_ready (rs := [17]) (by kernel_rfl) (by simp) (AllReadyH.cons rfl (fun K hK => ?_) AllReadyH.nil)
       try simp only [Act.put, setIfInBounds_toArray, set_cons_zero, set_cons_succ, getElem_toArray, getElem_cons_zero, getElem_cons_succ]
       rw [if_pos (by rfl)]
       go_simp
       refine hK.out _ _ ?_ (fun hHeld => ?_)
       ·exact ⟨(far2 (a := ⟨o, 0, none⟩) hn1 ((bs.cell (p := ⟨o, 0, none⟩) HB5.out.1).trans HC5.out.1)), (far2 (a := ⟨o, 1, none⟩) hn1 ((bs.cell (p := ⟨o, 1, none⟩) HB5.out.1).trans HC5.out.2.1)), (far2 (a := ⟨xb, xoff + k, none⟩) hx1 ((bs.cell (p := ⟨xb, xoff + k, none⟩) HB5.out.2).trans HC5.out.2.2.1)), (far2 (a := ⟨xb, xoff + m, none⟩) hx1 ((bs.cell (p := ⟨xb, xoff + m, none⟩) HB5.out.2).trans HC5.out.2.2.2))⟩
       clear hK K
       try simp only [Act.put, setIfInBounds_toArray, set_cons_zero, set_cons_succ, getElem_toArray, getElem_cons_zero, getElem_cons_succ]
       refine wpAnyH_ready (rs := [18]) (by kernel_rfl) (by simp) (AllReadyH.cons rfl (fun K hK => ?_) AllReadyH.nil)
       try simp only [Act.put, setIfInBounds_toArray, set_cons_zero, set_cons_succ, getElem_toArray, getElem_cons_zero, getElem_cons_succ]
       rw [if_pos (by rfl)]
       go_simp
       refine hK.out _ _ ?_ (fun hHeld => ?_)
       ·exact ⟨(far2 (a := ⟨o, 0, none⟩) hn2 (far2 (a := ⟨o, 0, none⟩) hn1 ((bs.cell (p := ⟨o, 0, none⟩) HB5.out.1).trans HC5.out.1))), (far2 (a := ⟨o, 1, none⟩) hn2 (far2 (a := ⟨o, 1, none⟩) hn1 ((bs.cell (p := ⟨o, 1, none⟩) HB5.out.1).trans HC5.out.2.1))), (far2 (a := ⟨xb, xoff + k, none⟩) hx2 (far2 (a := ⟨xb, xoff + k, none⟩) hx1 ((bs.cell (p := ⟨xb, xoff + k, none⟩) HB5.out.2).trans HC5.out.2.2.1))), (far2 (a := ⟨xb, xoff + m, none⟩) hx2 (far2 (a := ⟨xb, xoff + m, none⟩) hx1 ((bs.cell (p := ⟨xb, xoff + m, none⟩) HB5.out.2).trans HC5.out.2.2.2)))⟩
       clear hK K
       try simp only [Act.put, setIfInBounds_toArray, set_cons_zero, set_cons_succ, getElem_toArray, getElem_cons_zero, getElem_cons_succ]
       refine wpAnyH_take (i := 19) (v := ?_) rfl (by kernel_rfl) (by kernel_rfl) (by kernel_rfl) (fun _ _ _ h => h) (Or.inl ⟨by rfl, ?_⟩) (by assumption) ?_
       rotate_left 1
       ·(intro w0 hSw; (try dsimp only at hSw); go_simp; try with_reducible rfl)
       try simp only [Act.put, setIfInBounds_toArray, set_cons_zero, set_cons_succ, getElem_toArray, getElem_cons_zero, getElem_cons_succ]
       refine wpAnyH_done (by kernel_rfl) ?_ _
       clear p0 p1 p2 p3 p4 p5 q0 q1 q2 q3 q4 q5 rp rq oF oG bs
       go_wp2_with fail
       go_meet
       exact ⟨F.out, rfl⟩
      ·skip
       try simp only [Act.put, setIfInBounds_toArray, set_cons_zero, set_cons_succ, getElem_toArray, getElem_cons_zero, getElem_cons_succ]
       rw [if_pos (by rfl)]
       go_simp
       obtain ⟨u14, hw⟩ : ∃ W, W = u11.alloc (.cells #[.slice none 0 0, .slice none 0 0] 86) := ⟨_, rfl⟩
       rw [← hw]
       have rp : Row u14 u11.heap.size 86 #[.slice none 0 0, .slice none 0 0] := by rw [hw]; exact Row.new _ _ _
       have bb : Below u11.heap.size u11 u14 := by rw [hw]; exact (Below.refl _ _).alloc (Nat.le_refl _) _
       have yrp : u11.heap.size < u14.heap.size := rp.lt
       clear hw
       replace rq := rq.next bb
       have z0u14 := bs.size
       replace bs := next_trans bs bb
       have zu14 := bb.size
       clear bb
       refine hK.out _ _ ?_ (fun hHeld => ?_)
       ·exact ⟨(bs.cell (p := ⟨o, 0, none⟩) HB5.out.1).trans HC5.out.1, (bs.cell (p := ⟨o, 1, none⟩) HB5.out.1).trans HC5.out.2.1, (bs.cell (p := ⟨xb, xoff + k, none⟩) HB5.out.2).trans HC5.out.2.2.1, (bs.cell (p := ⟨xb, xoff + m, none⟩) HB5.out.2).trans HC5.out.2.2.2⟩
       clear hK K
       try simp only [Act.put, setIfInBounds_toArray, set_cons_zero, set_cons_succ, getElem_toArray, getElem_cons_zero, getElem_cons_succ]
       refine wpAnyH_ready (rs := [10]) (by kernel_rfl) (by simp) (AllReadyH.cons rfl (fun K hK => ?_) AllReadyH.nil)
       try simp only [Act.put, setIfInBounds_toArray, set_cons_zero, set_cons_succ, getElem_toArray, getElem_cons_zero, getElem_cons_succ]
       rw [if_pos (by rfl)]
       go_simp
       refine (LJ.out _ bs).mono ?_
       rintro e u15 ⟨A0, n0, g0, A1, n1, g1, B0, m0, g2, B1, m1, g3, rfl, ⟨fF, fG, o1, o2, ond, obd⟩, bb⟩
       obtain ⟨nd1, nd2, -⟩ := List.nodup_append.1 ond
       have oF : Owned u15 u14.heap.size u15.heap.size sWalk [.slice A0 n0 g0, .slice A1 n1 g1] (J.getD (([], []), ([], []))).1 := ⟨fF, o1, nd1, fun q hq => obd q (List.mem_append_left _ hq)⟩
       have oG : Owned u15 u14.heap.size u15.heap.size sWalk [.slice B0 m0 g2, .slice B1 m1 g3] (J.getD (([], []), ([], []))).2 := ⟨fG, o2, nd2, fun q hq => obd q (List.mem_append_right _ hq)⟩
       clear o1 o2 ond obd nd1 nd2
       replace rq := rq.next bb
       replace rp := rp.next bb
       have z0u15 := bs.size
       replace bs := next_trans bs bb
       have zu15 := bb.size
       clear bb
       refine hK.out _ _ ?_ (fun hHeld => ?_)
       ·exact ⟨(bs.cell (p := ⟨o, 0, none⟩) HB5.out.1).trans HC5.out.1, (bs.cell (p := ⟨o, 1, none⟩) HB5.out.1).trans HC5.out.2.1, (bs.cell (p := ⟨xb, xoff + k, none⟩) HB5.out.2).trans HC5.out.2.2.1, (bs.cell (p := ⟨xb, xoff + m, none⟩) HB5.out.2).trans HC5.out.2.2.2⟩
       clear hK K
       try simp only [Act.put, setIfInBounds_toArray, set_cons_zero, set_cons_succ, getElem_toArray, getElem_cons_zero, getElem_cons_succ]
       refine wpAnyH_take (i := 11) (v := ?_) rfl (by kernel_rfl) (by kernel_rfl) (by kernel_rfl) (fun _ _ _ h => h) (Or.inl ⟨by rfl, ?_⟩) (by assumption) ?_
       rotate_left 1
       ·(intro w0 hSw; (try dsimp only at hSw); go_simp; try with_reducible rfl)
       try simp only [Act.put, setIfInBounds_toArray, set_cons_zero, set_cons_succ, getElem_toArray, getElem_cons_zero, getElem_cons_succ]
       refine wpAnyH_take (i := 12) (v := ?_) rfl (by kernel_rfl) (by kernel_rfl) (by kernel_rfl) (fun _ _ _ h => h) (Or.inl ⟨by rfl, ?_⟩) (by assumption) ?_
       rotate_left 1
       ·(intro w0 hSw; (try dsimp only at hSw); go_simp; try with_reducible rfl)
       try simp only [Act.put, setIfInBounds_toArray, set_cons_zero, set_cons_succ, getElem_toArray, getElem_cons_zero, getElem_cons_succ]
       refine wpAnyH_take (i := 13) (v := ?_) rfl (by kernel_rfl) (by kernel_rfl) (by kernel_rfl) (fun _ _ _ h => h) (Or.inl ⟨by rfl, ?_⟩) (by assumption) ?_
       rotate_left 1
       ·(intro w0 hSw; (try dsimp only at hSw); go_simp; try with_reducible rfl)
       try simp only [Act.put, setIfInBounds_toArray, set_cons_zero, set_cons_succ, getElem_toArray, getElem_cons_zero, getElem_cons_succ]
       refine wpAnyH_take (i := 14) (v := ?_) rfl (by kernel_rfl) (by kernel_rfl) (by kernel_rfl) (fun _ _ _ h => h) (Or.inl ⟨by rfl, ?_⟩) (by assumption) ?_
       rotate_left 1
       ·(intro w0 hSw; (try dsimp only at hSw); go_simp; try with_reducible rfl)
       try simp only [Act.put, setIfInBounds_toArray, set_cons_zero, set_cons_succ, getElem_toArray, getElem_cons_zero, getElem_cons_succ]
       have zbs := bs.size
       have hn1 : u11.heap.size ≠ o := by have := HB5.out.1; omega
       have hx1 : u11.heap.size ≠ xb := by have := HB5.out.2; omega
       have hn2 : D.heap.size ≠ o := by have := HB5.out.1; omega
       have hx2 : D.heap.size ≠ xb := by have := HB5.out.2; omega
       obtain ⟨⟨p0, p1, p2, p3, p4, p5⟩, ⟨q0, q1, q2, q3, q4, q5⟩, -⟩ := two_cells rp rq (by omega) (.slice A0 n0 g0) (.slice A1 n1 g1) (.slice B0 m0 g2) (.slice B1 m1 g3)
       have F := hid (boxd2_put (V := D) oF oG rp rq (by omega) (by omega) (by omega) bs (by omega) (by omega))
       refine wpAnyH_ready (rs := [17]) (by kernel_rfl) (by simp) (AllReadyH.cons rfl (fun K hK => ?_) AllReadyH.nil)
       try simp only [Act.put, setIfInBounds_toArray, set_cons_zero, set_cons_succ, getElem_toArray, getElem_cons_zero, getElem_cons_succ]
       rw [if_pos (by rfl)]
       go_simp
       refine hK.out _ _ ?_ (fun hHeld => ?_)
       ·exact ⟨(far2 (a := ⟨o, 0, none⟩) hn1 ((bs.cell (p := ⟨o, 0, none⟩) HB5.out.1).trans HC5.out.1)), (far2 (a := ⟨o, 1, none⟩) hn1 ((bs.cell (p := ⟨o, 1, none⟩) HB5.out.1).trans HC5.out.2.1)), (far2 (a := ⟨xb, xoff + k, none⟩) hx1 ((bs.cell (p := ⟨xb, xoff + k, none⟩) HB5.out.2).trans HC5.out.2.2.1)), (far2 (a := ⟨xb, xoff + m, none⟩) hx1 ((bs.cell (p := ⟨xb, xoff + m, none⟩) HB5.out.2).trans HC5.out.2.2.2))⟩
       clear hK K
       try simp only [Act.put, setIfInBounds_toArray, set_cons_zero, set_cons_succ, getElem_toArray, getElem_cons_zero, getElem_cons_succ]
       refine wpAnyH_ready (rs := [18]) (by kernel_rfl) (by simp) (AllReadyH.cons rfl (fun K hK => ?_) AllReadyH.nil)
       try simp only [Act.put, setIfInBounds_toArray, set_cons_zero, set_cons_succ, getElem_toArray, getElem_cons_zero, getElem_cons_succ]
       rw [if_pos (by rfl)]
       go_simp
       refine hK.out _ _ ?_ (fun hHeld => ?_)
       ·exact ⟨(far2 (a := ⟨o, 0, none⟩) hn2 (far2 (a := ⟨o, 0, none⟩) hn1 ((bs.cell (p := ⟨o, 0, none⟩) HB5.out.1).trans HC5.out.1))), (far2 (a := ⟨o, 1, none⟩) hn2 (far2 (a := ⟨o, 1, none⟩) hn1 ((bs.cell (p := ⟨o, 1, none⟩) HB5.out.1).trans HC5.out.2.1))), (far2 (a := ⟨xb, xoff + k, none⟩) hx2 (far2 (a := ⟨xb, xoff + k, none⟩) hx1 ((bs.cell (p := ⟨xb, xoff + k, none⟩) HB5.out.2).trans HC5.out.2.2.1))), (far2 (a := ⟨xb, xoff + m, none⟩) hx2 (far2 (a := ⟨xb, xoff + m, none⟩) hx1 ((bs.cell (p := ⟨xb, xoff + m, none⟩) HB5.out.2).trans HC5.out.2.2.2)))⟩
       clear hK K
       try simp only [Act.put, setIfInBounds_toArray, set_cons_zero, set_cons_succ, getElem_toArray, getElem_cons_zero, getElem_cons_succ]
       refine wpAnyH_take (i := 19) (v := ?_) rfl (by kernel_rfl) (by kernel_rfl) (by kernel_rfl) (fun _ _ _ h => h) (Or.inl ⟨by rfl, ?_⟩) (by assumption) ?_
       rotate_left 1
       ·(intro w0 hSw; (try dsimp only at hSw); go_simp; try with_reducible rfl)
       try simp only [Act.put, setIfInBounds_toArray, set_cons_zero, set_cons_succ, getElem_toArray, getElem_cons_zero, getElem_cons_succ]
       refine wpAnyH_done (by kernel_rfl) ?_ _
       clear p0 p1 p2 p3 p4 p5 q0 q1 q2 q3 q4 q5 rp rq oF oG bs
       go_wp2_with fail
       go_meet
       exact ⟨F.out, rfl⟩
    case rest =>
     rename World => wc2
     obtain ⟨⟨p2, q2, C0, i0, j0, C1, i1, j1, D0, r0, t0, D1, r1, t1, rfl, rfl, ra, rb, ka, kb, bx⟩, rfl⟩ := hcut
     have bx1 := next_trans bx (drew_below wc2)
     have B7 := next_trans H45.out.1 bx1
     have T := HXY.out.1.next B7
     have HS := hid (fun (wz : World) (bz : Below wc2.drew.heap.size wc2.drew wz) => (show (wz.cell? ⟨o, 0, none⟩ = some (.slice S sn sc) ∧ wz.cell? ⟨o, 1, none⟩ = some (.slice R rn rc) ∧ wz.cell? ⟨xb, xoff + k, none⟩ = some (.slice U1 u1n u1c) ∧ wz.cell? ⟨xb, xoff + m, none⟩ = some (.slice U3 u3n u3c)) ∧ wz.cell? ⟨p2, 0, none⟩ = some (.slice C0 i0 j0) ∧ wz.cell? ⟨p2, 1, none⟩ = some (.slice C1 i1 j1) ∧ wz.cell? ⟨q2, 0, none⟩ = some (.slice D0 r0 t0) ∧ wz.cell? ⟨q2, 1, none⟩ = some (.slice D1 r1 t1) from
      ⟨⟨((next_trans bx1 bz).cell (p := ⟨o, 0, none⟩) HB5.out.1).trans HC5.out.1, ((next_trans bx1 bz).cell (p := ⟨o, 1, none⟩) HB5.out.1).trans HC5.out.2.1, ((next_trans bx1 bz).cell (p := ⟨xb, xoff + k, none⟩) HB5.out.2).trans HC5.out.2.2.1, ((next_trans bx1 bz).cell (p := ⟨xb, xoff + m, none⟩) HB5.out.2).trans HC5.out.2.2.2⟩, (ra.drew.next bz).cell 0, (ra.drew.next bz).cell 1, (rb.drew.next bz).cell 0, (rb.drew.next bz).cell 1⟩))
     obtain ⟨bj, hbj⟩ : ∃ b, J.isSome = b := ⟨_, rfl⟩
     have HBJ := hid hbj
     have LSJ := hid (fun (wz : World) (bz : Below wc2.drew.heap.size wc2.drew wz) => (by
      have := specJoinsInX _ _ (.slice U1 u1n u1c) (.slice U3 u3n u3c) d (L.getD k []) (L.getD m []) f wz (T.s.next bz) (rd_ints.2 ⟨U1, u1n, u1c, rfl, HSU.out.1.next (next_trans B7 bz), HSU.out.2.1⟩) (rd_ints.2 ⟨U3, u3n, u3c, rfl, H45.out.2.1.next (next_trans bx1 bz), H45.out.2.2⟩) HZ.out.1 (by rw [sz_ints]; exact HKK.out.2.2.2) (by rw [sz_ints]; exact HM5.out) HF.out.1 HF.out.2
      rw [HJ.out, HBJ.out] at this
      exact this : Calls Tryz.prog 50 #[.agg #[.slice S sn sc, .slice R rn rc], .slice U1 u1n u1c, .slice U3 u3n u3c, .int .i64 f] wz (AnsB wz bj)))
     have LIJ := hid (fun (wz : World) (bz : Below wc2.drew.heap.size wc2.drew wz) => (by
      have := implJoinsInX _ _ (.slice U1 u1n u1c) (.slice U3 u3n u3c) d (L.getD k []) (L.getD m []) f wz (T.s.next bz) (rd_ints.2 ⟨U1, u1n, u1c, rfl, HSU.out.1.next (next_trans B7 bz), HSU.out.2.1⟩) (rd_ints.2 ⟨U3, u3n, u3c, rfl, H45.out.2.1.next (next_trans bx1 bz), H45.out.2.2⟩) HZ.out.1 (by rw [sz_ints]; exact HKK.out.2.2.2) (by rw [sz_ints]; exact HM5.out) HF.out.1 HF.out.2
      rw [HJ.out, HBJ.out] at this
      exact this : Calls Tryz.prog 51 #[.agg #[.slice S sn sc, .slice R rn rc], .slice U1 u1n u1c, .slice U3 u3n u3c, .int .i64 f] wz (AnsB wz bj)))
     have HX7 := hid (show Sy w o S sn sc R rn rc d (.slice U un uc) t wc2.drew ∧ Rd wc2 wc2.heap.size sWalk [.slice C0 i0 j0, .slice C1 i1 j1] (J.getD (([], []), ([], []))).1 ∧ Rd wc2 wc2.heap.size sWalk [.slice D0 r0 t0, .slice D1 r1 t1] (J.getD (([], []), ([], []))).2 from ⟨T, ka, kb⟩)
     have ej : (bj != bj) = false := by simp
     obtain ⟨⟨s0, s1, s2, s3⟩, s4, s5, s6, s7⟩ := (show (wc2.cell? ⟨o, 0, none⟩ = some (.slice S sn sc) ∧ wc2.cell? ⟨o, 1, none⟩ = some (.slice R rn rc) ∧ wc2.cell? ⟨xb, xoff + k, none⟩ = some (.slice U1 u1n u1c) ∧ wc2.cell? ⟨xb, xoff + m, none⟩ = some (.slice U3 u3n u3c)) ∧ wc2.cell? ⟨p2, 0, none⟩ = some (.slice C0 i0 j0) ∧ wc2.cell? ⟨p2, 1, none⟩ = some (.slice C1 i1 j1) ∧ wc2.cell? ⟨q2, 0, none⟩ = some (.slice D0 r0 t0) ∧ wc2.cell? ⟨q2, 1, none⟩ = some (.slice D1 r1 t1) from HS.out wc2.drew (Below.refl _ _))
     rw [hbj]
     clear bx bx1 B7 T ra rb ka kb hbj LJ
     go_wp2_with fail
     go_region_held3 (fun w' => w'.cell? ⟨o, 0, none⟩ = some (.slice S sn sc) ∧ w'.cell? ⟨o, 1, none⟩ = some (.slice R rn rc) ∧ w'.cell? ⟨xb, xoff + k, none⟩ = some (.slice U1 u1n u1c) ∧ w'.cell? ⟨xb, xoff + m, none⟩ = some (.slice U3 u3n u3c))
      (go_keep)
      (first
       | (go_at_call 50; refine (LSJ.out wc2.drew (Below.refl _ _)).mono ?_; rintro e z1 ⟨rfl, bb1⟩; obtain ⟨⟨s0, s1, s2, s3⟩, s4, s5, s6, s7⟩ := HS.out z1 bb1)
       | (go_at_call 51; refine (LIJ.out z1 bb1).mono ?_; rintro e z2 ⟨rfl, bb⟩; have bb2 := next_trans bb1 bb; clear bb; obtain ⟨⟨s0, s1, s2, s3⟩, s4, s5, s6, s7⟩ := HS.out z2 bb2))
     have HZB := hid (show Below w.heap.size w z2 from next_trans HX7.out.1.b bb2)
     cases bj with
     | false =>
      clear s0 s1 s2 s3 s4 s5 s6 s7 LSJ LIJ HS bb1 bb2 HX7
      go_wp2_with fail
      go_quiet (fail)
      go_wp2
      go_ret
      exact ⟨rfl, next_trans HZB.out (Go.Proofs.YtlaloakegajheaaGreat.kinds.drewN_below _ _)⟩
     | true =>
      obtain ⟨P, hP⟩ := Option.isSome_iff_exists.1 HBJ.out
      subst hP
      obtain ⟨w1, w2', w3', w4'⟩ := joined_at HJ.out
      have HJW := hid (show endW d.1 d.2 P.1 = endL P.1 ∧ endW d.1 d.2 P.2 = endL P.1 from ⟨by unfold endW; rw [if_pos w1], by unfold endW; rw [if_pos w2', w3']⟩)
      have BD := hid (next_trans (drew_below wc2) (next_trans bb2 (drew_below z2)))
      have BE := hid (next_trans bb2 (drew_below z2))
      have W1 := hid (fun (wz : World) (bz : Below z2.drew.heap.size z2.drew wz) => (by
       have := implWalkOk _ _ _ _ d P.1 wz (HX7.out.1.next (next_trans BE.out bz)).s (HX7.out.2.1.next (next_trans BD.out bz)) HZ.out.1 (walkB_sz w1)
       rw [w1] at this
       exact this : Calls Tryz.prog 47 #[.agg #[.slice S sn sc, .slice R rn rc], .agg #[.slice C0 i0 j0, .slice C1 i1 j1]] wz (AnsB wz true)))
      have W2 := hid (fun (wz : World) (bz : Below z2.drew.heap.size z2.drew wz) => (by
       have := implWalkOk _ _ _ _ d P.2 wz (HX7.out.1.next (next_trans BE.out bz)).s (HX7.out.2.2.next (next_trans BD.out bz)) HZ.out.1 (walkB_sz w2')
       rw [w2'] at this
       exact this : Calls Tryz.prog 47 #[.agg #[.slice S sn sc, .slice R rn rc], .agg #[.slice D0 r0 t0, .slice D1 r1 t1]] wz (AnsB wz true)))
      have E1 := hid (fun (wz : World) (bz : Below z2.drew.heap.size z2.drew wz) => (by
       have := implEndTerm _ _ _ _ d P.1 wz (HX7.out.1.next (next_trans BE.out bz)).s (HX7.out.2.1.next (next_trans BD.out bz)) HZ.out.1 (walkB_sz w1)
       rw [HJW.out.1] at this
       exact this : Calls Tryz.prog 48 #[.agg #[.slice S sn sc, .slice R rn rc], .agg #[.slice C0 i0 j0, .slice C1 i1 j1]] wz (AnsList wz (endL P.1))))
      have E2 := hid (fun (wz : World) (bz : Below z2.drew.heap.size z2.drew wz) => (by
       have := implEndTerm _ _ _ _ d P.2 wz (HX7.out.1.next (next_trans BE.out bz)).s (HX7.out.2.2.next (next_trans BD.out bz)) HZ.out.1 (walkB_sz w2')
       rw [HJW.out.2] at this
       exact this : Calls Tryz.prog 48 #[.agg #[.slice S sn sc, .slice R rn rc], .agg #[.slice D0 r0 t0, .slice D1 r1 t1]] wz (AnsList wz (endL P.1))))
      have HW4 := hid w4'
      have HS9 := hid (fun (wz : World) (bz : Below z2.drew.heap.size z2.drew wz) => HS.out wz (next_trans BE.out bz))
      clear LSJ LIJ HS bb1 bb2 s2 s3 w1 w2' w3' w4'
      go_wp2_with fail
      go_region_held3 (fun w' => w'.cell? ⟨o, 0, none⟩ = some (.slice S sn sc) ∧ w'.cell? ⟨o, 1, none⟩ = some (.slice R rn rc) ∧ w'.cell? ⟨p2, 0, none⟩ = some (.slice C0 i0 j0) ∧ w'.cell? ⟨p2, 1, none⟩ = some (.slice C1 i1 j1) ∧ w'.cell? ⟨q2, 0, none⟩ = some (.slice D0 r0 t0) ∧ w'.cell? ⟨q2, 1, none⟩ = some (.slice D1 r1 t1))
       (go_keep)
       (first
        | (go_at_call 47; (with_reducible refine (W1.out z2.drew (Below.refl _ _)).mono ?_); rintro e y1 ⟨rfl, bb1⟩; obtain ⟨⟨s0, s1, s2, s3⟩, s4, s5, s6, s7⟩ := HS9.out y1 bb1; clear s2 s3)
        | (go_at_call 47; (with_reducible refine (W2.out y1 bb1).mono ?_); rintro e y2 ⟨rfl, bb⟩; have bb2 := next_trans bb1 bb; clear bb; obtain ⟨⟨s0, s1, s2, s3⟩, s4, s5, s6, s7⟩ := HS9.out y2 bb2; clear s2 s3)
        | (go_at_call 48; (with_reducible refine (E1.out y2 bb2).mono ?_); rintro e y3 ⟨X3, x3n, x3c, rfl, oE, bb⟩; have bb3 := next_trans bb2 bb; clear bb; have sE := Own.seg oE; clear oE; obtain ⟨⟨s0, s1, s2, s3⟩, s4, s5, s6, s7⟩ := HS9.out y3 bb3; clear s2 s3)
        | (go_at_call 48; (with_reducible refine (E2.out y3 bb3).mono ?_); rintro e y4 ⟨X4, x4n, x4c, rfl, oE, bb⟩; have sE4 := sE.next bb; have bb4 := next_trans bb3 bb; clear bb; have sE2 := Own.seg oE; clear oE; obtain ⟨⟨s0, s1, s2, s3⟩, s4, s5, s6, s7⟩ := HS9.out y4 bb4; clear s2 s3)
        | (go_at_call 46; have l3 : x3n ≤ 1048576 := (by rw [← sE4.1]; exact HW4.out); have l4 : x4n ≤ 1048576 := (by rw [← sE2.1]; exact HW4.out); refine (same_yes (c := x3c) (c' := x4c) sE4 sE2 l3 l4).mono ?_; rintro e y5 ⟨rfl, bb⟩; have bb5 := next_trans bb4 bb; clear bb; obtain ⟨⟨s0, s1, s2, s3⟩, s4, s5, s6, s7⟩ := HS9.out y5 bb5; clear s2 s3))
      have F := hid (next_trans HZB.out (next_trans (drew_below z2) bb5))
      clear s0 s1 s4 s5 s6 s7 HS9 W1 W2 E1 E2 sE sE4 sE2 bb1 bb2 bb3 bb4 bb5
      go_wp2
      go_ret
      exact ⟨rfl, F.out⟩
 ·have LB := hid (bigAns A n c true w (by simp; omega) hN)
  clear h
  go_enter Tryz.func6, Tryz.ntmps6
  go_wp2_with fail
  refine LB.out.mono ?_
  rintro e w' ⟨rfl, rfl⟩
  go_wp2
  go_ret
  exact ⟨rfl, Below.refl _ _⟩
end wFnReached
end
end Go.Proofs.YtlaloakegajheaaGreat
