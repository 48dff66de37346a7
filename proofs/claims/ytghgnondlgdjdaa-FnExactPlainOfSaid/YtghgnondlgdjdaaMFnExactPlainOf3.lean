/-
  MERGED: my texts WPlainOf, one behind the other, as they are. By an AI agent.
-/
import Derived.Test.YtghgnondlgdjdaaMFnExactPlainOf2
import Derived.Deep.RegionHeld3
import Derived.Deep.DeepCutAuto
namespace Go.Proofs.Ytghgnondlgdjdaa
section
open Go.Lib (hid)
open List (setIfInBounds_toArray set_cons_zero set_cons_succ getElem_toArray getElem_cons_zero getElem_cons_succ)
namespace wPlainOf
open Go.RowKit base ints sig cursor marks app sym appAt segs segsHelp segsMark kinds term termOk varsOf substOk gives plain plainOf
set_option maxRecDepth 100000
def Boxed (W : World) (F : List (List Int)) (p : Value) (wx : World) : Prop := ∃ b A n c, p = .pointer (some ⟨b, 0, none⟩) ∧ Row wx b 30 #[.slice A n c] ∧ Segs wx wx.heap.size A n F ∧ Below W.heap.size W wx
theorem boxed_put {W w : World} {F : List (List Int)} {A : Option Addr} {n c g lo hi : Nat} (h : Owns w lo hi A n c F) (hr : Row w g 30 #[.slice none 0 0]) (hg : g < lo ∨ hi ≤ g) (hb : Below W.heap.size W w) (hB : W.heap.size ≤ g) :
  Boxed W F (.pointer (some ⟨g, 0, none⟩)) (w.setCell ⟨g, 0, none⟩ (.slice A n c)) := by
 have h1 : Btw g (g + 1) w (w.setCell ⟨g, 0, none⟩ (.slice A n c)) := Btw.of_grown (grown_put (World.grownBy.refl _ _) _ _) (fun k hk => by injection hk; omega)
 exact ⟨g, A, n, c, rfl, hr.put 0 _, (h.btw h1 (by omega)).rd, hb.setCell hB _⟩
theorem far_cell {w : World} {p a : Addr} {u v : Value} (hne : p.block ≠ a.block) (h : w.cell? a = some v) : (w.setCell p u).cell? a = some v := (World.cell?_setCell_far w p a u hne).trans h
set_option maxHeartbeats 8000000 in
theorem law (a0 : Option Addr) (n0 c0 : Nat) (xs0 : List Int) (a1 : Option Addr) (n1 c1 : Nat) (xs1 : List (List Int)) (w : World) (s0 : Seg w w.heap.size a0 n0 xs0) (hN0 : n0 ≤ 9223372036854775807) (s1 : Segs w w.heap.size a1 n1 xs1) (hN1 : n1 ≤ 9223372036854775807) :
  Calls Try.prog 3 #[.agg #[.slice a0 n0 c0], .agg #[.slice a1 n1 c1]] w (Fine w) := by
 obtain ⟨W, hW⟩ : ∃ W, W = (w.alloc (.cells #[.slice a0 n0 c0] 24)).alloc (.cells #[.slice a1 n1 c1] 27) := ⟨_, rfl⟩
 have rA0 : Row W (w.heap.size) 24 #[.slice a0 n0 c0] := by rw [hW]; have := (Row.new (w) 24 #[.slice a0 n0 c0]).alloc (.cells #[.slice a1 n1 c1] 27); simpa using this
 have rA1 : Row W (w.heap.size + 1) 27 #[.slice a1 n1 c1] := by rw [hW]; have := Row.new (w.alloc (.cells #[.slice a0 n0 c0] 24)) 27 #[.slice a1 n1 c1]; simpa using this
 have bW : Below w.heap.size w W := by rw [hW]; exact ((Below.refl w.heap.size w).alloc (by simp) (.cells #[.slice a0 n0 c0] 24)).alloc (by simp) (.cells #[.slice a1 n1 c1] 27)
 have zA0 := rA0.lt
 have zA1 := rA1.lt
 replace s0 := s0.next bW
 have Hl0 := hid s0.1
 replace s1 := s1.next bW
 have Hl1 := hid s1.1
 have HW := hid hW
 clear hW
 obtain ⟨t1, ht1⟩ : ∃ z, tot xs1 = z := ⟨_, rfl⟩
 have HT1 := hid ht1
 clear ht1
 go_enter Try.func3, Try.ntmps3
 go_wp2_with fail
 rw [← HW.out]
 clear HW
 have bel := Below.refl W.heap.size W
 have cA0 : W.cell? ⟨w.heap.size, 0, none⟩ = some (.slice a0 n0 c0) := (rA0.next bel).cell 0
 have cA1 : W.cell? ⟨w.heap.size + 1, 0, none⟩ = some (.slice a1 n1 c1) := (rA1.next bel).cell 0
 refine (szSig _ _ _ (1048576) _ hN0 (by omega) (by omega)).mono ?_
 rintro e w1 ⟨he, bb⟩
 replace bel := next_trans bel bb
 have zw1 := bb.size
 clear bb
 by_cases q0 : n0 ≤ 1048576
 case neg =>
  rw [if_pos (by omega)] at he
  subst he
  have F := hid (bW.trans (bel.mono bW.size))
  clear bel bW cA0 cA1
  go_wp2
  go_ret
  exact ⟨rfl, F.out⟩
 rw [if_neg (by omega)] at he
 subst he
 have h0 : n0 ≤ 1048576 := by omega
 clear cA0 cA1
 have cA0 : w1.cell? ⟨w.heap.size, 0, none⟩ = some (.slice a0 n0 c0) := (rA0.next bel).cell 0
 have cA1 : w1.cell? ⟨w.heap.size + 1, 0, none⟩ = some (.slice a1 n1 c1) := (rA1.next bel).cell 0
 go_wp2_with fail
 refine (substSz _ _ _ xs1 (1048576 - (n0 : Int)) _ (s1.next bel) hN1 (by omega) (by omega)).mono ?_
 rintro e w2 ⟨he, bb⟩
 rw [HT1.out] at he
 replace bel := next_trans bel bb
 have zw2 := bb.size
 clear bb
 by_cases q1 : n0 + t1 ≤ 1048576
 case neg =>
  rw [if_pos (by omega)] at he
  subst he
  have F := hid (bW.trans (bel.mono bW.size))
  clear bel bW cA0 cA1
  go_wp2
  go_ret
  exact ⟨rfl, F.out⟩
 rw [if_neg (by omega)] at he
 subst he
 have h1 : tot xs1 ≤ 1048576 := by rw [HT1.out]; omega
 replace h1 := hid h1
 have hn1 : n1 ≤ 1048576 := tot_len Hl1.out h1.out
 have hm1 : sumL xs1 n1 ≤ 1048576 := by have q := h1.out; unfold tot at q; rw [Hl1.out] at q; omega
 obtain ⟨z1, hz1⟩ : ∃ z, sumL xs1 n1 = z := ⟨_, rfl⟩
 rw [hz1] at hm1
 have HZ1 := hid hz1
 clear hz1
 clear cA0 cA1
 have cA0 : w2.cell? ⟨w.heap.size, 0, none⟩ = some (.slice a0 n0 c0) := (rA0.next bel).cell 0
 have cA1 : w2.cell? ⟨w.heap.size + 1, 0, none⟩ = some (.slice a1 n1 c1) := (rA1.next bel).cell 0
 have hlen : tot (plainI xs0 xs1) ≤ 1048576 := plainI_tot
 obtain ⟨ys, hys⟩ : ∃ ys, plainI xs0 xs1 = ys := ⟨_, rfl⟩
 rw [hys] at hlen
 have HY := hid hys
 clear hys
 replace hlen := hid hlen
 go_upto_region 8 with (fail)
 replace bel := bel.drew
 have zdw2 := (drew_below w2).size
 go_cut [6] (fun s6 wx => Boxed (w2.drew) ys s6 wx)
 case first =>
  have bs := Below.refl (w2.drew).heap.size (w2.drew)
  have bl := bel
  have zst := bl.size
  have c0S := hid (show w2.drew.cell? ⟨w.heap.size, 0, none⟩ = some (.slice a0 n0 c0) ∧ w2.drew.cell? ⟨w.heap.size + 1, 0, none⟩ = some (.slice a1 n1 c1) from ⟨(show w2.drew.cell? ⟨w.heap.size, 0, none⟩ = some (.slice a0 n0 c0) from (rA0.next bl).cell 0), (show w2.drew.cell? ⟨w.heap.size + 1, 0, none⟩ = some (.slice a1 n1 c1) from (rA1.next bl).cell 0)⟩)
  clear bel cA0 cA1
  refine wp_region_held_drew (S := fun w' => w'.cell? ⟨w.heap.size, 0, none⟩ = some (.slice a0 n0 c0) ∧ w'.cell? ⟨w.heap.size + 1, 0, none⟩ = some (.slice a1 n1 c1)) (by kernel_rfl) c0S.out (fun hHeld => ?_)
  refine wpAnyH_take (i := 0) (v := ?_) rfl (by kernel_rfl) (by kernel_rfl) (by kernel_rfl) (fun _ _ _ h => h) (Or.inl ⟨by rfl, ?_⟩) (by assumption) ?_
  rotate_left 1
  ·(intro w0 hSw; (try dsimp only at hSw); go_simp; try with_reducible rfl)
  try simp only [Act.put, setIfInBounds_toArray, set_cons_zero, set_cons_succ, getElem_toArray, getElem_cons_zero, getElem_cons_succ]
  refine wpAnyH_take (i := 2) (v := ?_) rfl (by kernel_rfl) (by kernel_rfl) (by kernel_rfl) (fun _ _ _ h => h) (Or.inl ⟨by rfl, ?_⟩) (by assumption) ?_
  rotate_left 1
  ·(intro w0 hSw; (try dsimp only at hSw); go_simp; try with_reducible rfl)
  try simp only [Act.put, setIfInBounds_toArray, set_cons_zero, set_cons_succ, getElem_toArray, getElem_cons_zero, getElem_cons_succ]
  refine wpAnyH_ready (rs := [1, 5]) (by kernel_rfl) (by simp) (AllReadyH.cons rfl (fun K hK => ?_) (AllReadyH.cons rfl (fun K hK => ?_) AllReadyH.nil))
  ·skip
   try simp only [Act.put, setIfInBounds_toArray, set_cons_zero, set_cons_succ, getElem_toArray, getElem_cons_zero, getElem_cons_succ]
   rw [if_pos (by rfl)]
   go_simp
   refine (sigTo _ _ _ xs0 _ (s0.next bl) h0).mono ?_
   rintro e v1 ⟨gq0, rfl, oq0, yq0, bb⟩
   replace bl := next_trans bl bb
   replace bs := next_trans bs bb
   have zqv1 := bb.size
   clear bb
   go_wp2_with fail
   refine hK.out _ _ ?_ (fun hHeld => ?_)
   ·exact ⟨(show v1.cell? ⟨w.heap.size, 0, none⟩ = some (.slice a0 n0 c0) from (rA0.next bl).cell 0), (show v1.cell? ⟨w.heap.size + 1, 0, none⟩ = some (.slice a1 n1 c1) from (rA1.next bl).cell 0)⟩
   clear hK K
   try simp only [Act.put, setIfInBounds_toArray, set_cons_zero, set_cons_succ, getElem_toArray, getElem_cons_zero, getElem_cons_succ]
   refine wpAnyH_ready (rs := [3, 5]) (by kernel_rfl) (by simp) (AllReadyH.cons rfl (fun K hK => ?_) (AllReadyH.cons rfl (fun K hK => ?_) AllReadyH.nil))
   ·skip
    try simp only [Act.put, setIfInBounds_toArray, set_cons_zero, set_cons_succ, getElem_toArray, getElem_cons_zero, getElem_cons_succ]
    rw [if_pos (by rfl)]
    go_simp
    refine (substTo _ _ _ xs1 _ (s1.next bl) h1.out).mono ?_
    rintro e v2 ⟨gq1, rfl, oq1, yq1, bb⟩
    replace oq0 := oq0.next bb
    replace bl := next_trans bl bb
    replace bs := next_trans bs bb
    have zqv2 := bb.size
    clear bb
    go_wp2_with fail
    refine hK.out _ _ ?_ (fun hHeld => ?_)
    ·exact ⟨(show v2.cell? ⟨w.heap.size, 0, none⟩ = some (.slice a0 n0 c0) from (rA0.next bl).cell 0), (show v2.cell? ⟨w.heap.size + 1, 0, none⟩ = some (.slice a1 n1 c1) from (rA1.next bl).cell 0)⟩
    clear hK K
    try simp only [Act.put, setIfInBounds_toArray, set_cons_zero, set_cons_succ, getElem_toArray, getElem_cons_zero, getElem_cons_succ]
    refine wpAnyH_ready (rs := [4, 5]) (by kernel_rfl) (by simp) (AllReadyH.cons rfl (fun K hK => ?_) (AllReadyH.cons rfl (fun K hK => ?_) AllReadyH.nil))
    ·skip
     try simp only [Act.put, setIfInBounds_toArray, set_cons_zero, set_cons_succ, getElem_toArray, getElem_cons_zero, getElem_cons_succ]
     rw [if_pos (by rfl)]
     go_simp
     refine (specPlainOf _ _ _ _ _ _ xs0 xs1 _ oq0.rd oq1.rd h0 h1.out).mono ?_
     rintro e v3 ⟨A0, m0, d0, he, o0, bb⟩
     subst he
     rw [HY.out] at o0
     replace oq0 := oq0.next bb
     replace oq1 := oq1.next bb
     replace bl := next_trans bl bb
     replace bs := next_trans bs bb
     have zqv3 := bb.size
     clear bb
     clear oq0 oq1
     go_wp2_with fail
     refine hK.out _ _ ?_ (fun hHeld => ?_)
     ·exact ⟨(show v3.cell? ⟨w.heap.size, 0, none⟩ = some (.slice a0 n0 c0) from (rA0.next bl).cell 0), (show v3.cell? ⟨w.heap.size + 1, 0, none⟩ = some (.slice a1 n1 c1) from (rA1.next bl).cell 0)⟩
     clear hK K
     try simp only [Act.put, setIfInBounds_toArray, set_cons_zero, set_cons_succ, getElem_toArray, getElem_cons_zero, getElem_cons_succ]
     refine wpAnyH_ready (rs := [5]) (by kernel_rfl) (by simp) (AllReadyH.cons rfl (fun K hK => ?_) AllReadyH.nil)
     try simp only [Act.put, setIfInBounds_toArray, set_cons_zero, set_cons_succ, getElem_toArray, getElem_cons_zero, getElem_cons_succ]
     rw [if_pos (by rfl)]
     go_simp
     obtain ⟨v4, hw⟩ : ∃ W, W = (v3.alloc (.cells #[.slice none 0 0] 30)) := ⟨_, rfl⟩
     rw [← hw]
     have rg : Row v4 v3.heap.size 30 #[.slice none 0 0] := by rw [hw]; exact Row.new _ _ _
     have bb : Below v3.heap.size v3 v4 := by rw [hw]; exact (Below.refl _ _).alloc (Nat.le_refl _) _
     have ygg : v3.heap.size < v4.heap.size := rg.lt
     have hgB : w2.drew.heap.size ≤ v3.heap.size := bs.size
     clear hw
     replace o0 := o0.next bb
     replace bl := next_trans bl bb
     replace bs := next_trans bs bb
     have zqv4 := bb.size
     clear bb
     refine hK.out _ _ ?_ (fun hHeld => ?_)
     ·exact ⟨(show v4.cell? ⟨w.heap.size, 0, none⟩ = some (.slice a0 n0 c0) from (rA0.next bl).cell 0), (show v4.cell? ⟨w.heap.size + 1, 0, none⟩ = some (.slice a1 n1 c1) from (rA1.next bl).cell 0)⟩
     clear hK K
     try simp only [Act.put, setIfInBounds_toArray, set_cons_zero, set_cons_succ, getElem_toArray, getElem_cons_zero, getElem_cons_succ]
     have cg : v4.cell? ⟨v3.heap.size, 0, none⟩ = some (.slice none 0 0) := rg.cell 0
     have fg : v4.frozen? ⟨v3.heap.size, 0, none⟩ = false := rg.free 0
     have hne0 : v3.heap.size ≠ w.heap.size := by omega
     have hne1 : v3.heap.size ≠ w.heap.size + 1 := by omega
     refine wpAnyH_ready (rs := [6]) (by kernel_rfl) (by simp) (AllReadyH.cons rfl (fun K hK => ?_) AllReadyH.nil)
     try simp only [Act.put, setIfInBounds_toArray, set_cons_zero, set_cons_succ, getElem_toArray, getElem_cons_zero, getElem_cons_succ]
     rw [if_pos (by rfl)]
     go_simp
     refine hK.out _ _ ?_ (fun hHeld => ?_)
     ·exact ⟨far_cell hne0 (show v4.cell? ⟨w.heap.size, 0, none⟩ = some (.slice a0 n0 c0) from (rA0.next bl).cell 0), far_cell hne1 (show v4.cell? ⟨w.heap.size + 1, 0, none⟩ = some (.slice a1 n1 c1) from (rA1.next bl).cell 0)⟩
     clear hK K
     try simp only [Act.put, setIfInBounds_toArray, set_cons_zero, set_cons_succ, getElem_toArray, getElem_cons_zero, getElem_cons_succ]
     refine wpAnyH_done (by kernel_rfl) ?_ _
     have F := boxed_put (W := w2.drew) o0 rg (by omega) bs hgB
     clear cg fg bl rg o0 bs hne0 hne1
     go_wp2_with fail
     go_meet
     exact F
    ·skip
     try simp only [Act.put, setIfInBounds_toArray, set_cons_zero, set_cons_succ, getElem_toArray, getElem_cons_zero, getElem_cons_succ]
     rw [if_pos (by rfl)]
     go_simp
     obtain ⟨v5, hw⟩ : ∃ W, W = (v2.alloc (.cells #[.slice none 0 0] 30)) := ⟨_, rfl⟩
     rw [← hw]
     have rg : Row v5 v2.heap.size 30 #[.slice none 0 0] := by rw [hw]; exact Row.new _ _ _
     have bb : Below v2.heap.size v2 v5 := by rw [hw]; exact (Below.refl _ _).alloc (Nat.le_refl _) _
     have ygg : v2.heap.size < v5.heap.size := rg.lt
     have hgB : w2.drew.heap.size ≤ v2.heap.size := bs.size
     clear hw
     replace oq0 := oq0.next bb
     replace oq1 := oq1.next bb
     replace bl := next_trans bl bb
     replace bs := next_trans bs bb
     have zqv5 := bb.size
     clear bb
     refine hK.out _ _ ?_ (fun hHeld => ?_)
     ·exact ⟨(show v5.cell? ⟨w.heap.size, 0, none⟩ = some (.slice a0 n0 c0) from (rA0.next bl).cell 0), (show v5.cell? ⟨w.heap.size + 1, 0, none⟩ = some (.slice a1 n1 c1) from (rA1.next bl).cell 0)⟩
     clear hK K
     try simp only [Act.put, setIfInBounds_toArray, set_cons_zero, set_cons_succ, getElem_toArray, getElem_cons_zero, getElem_cons_succ]
     refine wpAnyH_ready (rs := [4]) (by kernel_rfl) (by simp) (AllReadyH.cons rfl (fun K hK => ?_) AllReadyH.nil)
     try simp only [Act.put, setIfInBounds_toArray, set_cons_zero, set_cons_succ, getElem_toArray, getElem_cons_zero, getElem_cons_succ]
     rw [if_pos (by rfl)]
     go_simp
     refine (specPlainOf _ _ _ _ _ _ xs0 xs1 _ oq0.rd oq1.rd h0 h1.out).mono ?_
     rintro e v6 ⟨A0, m0, d0, he, o0, bb⟩
     subst he
     rw [HY.out] at o0
     replace oq0 := oq0.next bb
     replace oq1 := oq1.next bb
     replace rg := rg.next bb
     replace bl := next_trans bl bb
     replace bs := next_trans bs bb
     have zqv6 := bb.size
     clear bb
     clear oq0 oq1
     go_wp2_with fail
     refine hK.out _ _ ?_ (fun hHeld => ?_)
     ·exact ⟨(show v6.cell? ⟨w.heap.size, 0, none⟩ = some (.slice a0 n0 c0) from (rA0.next bl).cell 0), (show v6.cell? ⟨w.heap.size + 1, 0, none⟩ = some (.slice a1 n1 c1) from (rA1.next bl).cell 0)⟩
     clear hK K
     try simp only [Act.put, setIfInBounds_toArray, set_cons_zero, set_cons_succ, getElem_toArray, getElem_cons_zero, getElem_cons_succ]
     have cg : v6.cell? ⟨v2.heap.size, 0, none⟩ = some (.slice none 0 0) := rg.cell 0
     have fg : v6.frozen? ⟨v2.heap.size, 0, none⟩ = false := rg.free 0
     have hne0 : v2.heap.size ≠ w.heap.size := by omega
     have hne1 : v2.heap.size ≠ w.heap.size + 1 := by omega
     refine wpAnyH_ready (rs := [6]) (by kernel_rfl) (by simp) (AllReadyH.cons rfl (fun K hK => ?_) AllReadyH.nil)
     try simp only [Act.put, setIfInBounds_toArray, set_cons_zero, set_cons_succ, getElem_toArray, getElem_cons_zero, getElem_cons_succ]
     rw [if_pos (by rfl)]
     go_simp
     refine hK.out _ _ ?_ (fun hHeld => ?_)
     ·exact ⟨far_cell hne0 (show v6.cell? ⟨w.heap.size, 0, none⟩ = some (.slice a0 n0 c0) from (rA0.next bl).cell 0), far_cell hne1 (show v6.cell? ⟨w.heap.size + 1, 0, none⟩ = some (.slice a1 n1 c1) from (rA1.next bl).cell 0)⟩
     clear hK K
     try simp only [Act.put, setIfInBounds_toArray, set_cons_zero, set_cons_succ, getElem_toArray, getElem_cons_zero, getElem_cons_succ]
     refine wpAnyH_done (by kernel_rfl) ?_ _
     have F := boxed_put (W := w2.drew) o0 rg (by omega) bs hgB
     clear cg fg bl rg o0 bs hne0 hne1
     go_wp2_with fail
     go_meet
     exact F
   ·skip
    try simp only [Act.put, setIfInBounds_toArray, set_cons_zero, set_cons_succ, getElem_toArray, getElem_cons_zero, getElem_cons_succ]
    rw [if_pos (by rfl)]
    go_simp
    obtain ⟨v7, hw⟩ : ∃ W, W = (v1.alloc (.cells #[.slice none 0 0] 30)) := ⟨_, rfl⟩
    rw [← hw]
    have rg : Row v7 v1.heap.size 30 #[.slice none 0 0] := by rw [hw]; exact Row.new _ _ _
    have bb : Below v1.heap.size v1 v7 := by rw [hw]; exact (Below.refl _ _).alloc (Nat.le_refl _) _
    have ygg : v1.heap.size < v7.heap.size := rg.lt
    have hgB : w2.drew.heap.size ≤ v1.heap.size := bs.size
    clear hw
    replace oq0 := oq0.next bb
    replace bl := next_trans bl bb
    replace bs := next_trans bs bb
    have zqv7 := bb.size
    clear bb
    refine hK.out _ _ ?_ (fun hHeld => ?_)
    ·exact ⟨(show v7.cell? ⟨w.heap.size, 0, none⟩ = some (.slice a0 n0 c0) from (rA0.next bl).cell 0), (show v7.cell? ⟨w.heap.size + 1, 0, none⟩ = some (.slice a1 n1 c1) from (rA1.next bl).cell 0)⟩
    clear hK K
    try simp only [Act.put, setIfInBounds_toArray, set_cons_zero, set_cons_succ, getElem_toArray, getElem_cons_zero, getElem_cons_succ]
    refine wpAnyH_ready (rs := [3]) (by kernel_rfl) (by simp) (AllReadyH.cons rfl (fun K hK => ?_) AllReadyH.nil)
    try simp only [Act.put, setIfInBounds_toArray, set_cons_zero, set_cons_succ, getElem_toArray, getElem_cons_zero, getElem_cons_succ]
    rw [if_pos (by rfl)]
    go_simp
    refine (substTo _ _ _ xs1 _ (s1.next bl) h1.out).mono ?_
    rintro e v8 ⟨gq1, rfl, oq1, yq1, bb⟩
    replace oq0 := oq0.next bb
    replace rg := rg.next bb
    replace bl := next_trans bl bb
    replace bs := next_trans bs bb
    have zqv8 := bb.size
    clear bb
    go_wp2_with fail
    refine hK.out _ _ ?_ (fun hHeld => ?_)
    ·exact ⟨(show v8.cell? ⟨w.heap.size, 0, none⟩ = some (.slice a0 n0 c0) from (rA0.next bl).cell 0), (show v8.cell? ⟨w.heap.size + 1, 0, none⟩ = some (.slice a1 n1 c1) from (rA1.next bl).cell 0)⟩
    clear hK K
    try simp only [Act.put, setIfInBounds_toArray, set_cons_zero, set_cons_succ, getElem_toArray, getElem_cons_zero, getElem_cons_succ]
    refine wpAnyH_ready (rs := [4]) (by kernel_rfl) (by simp) (AllReadyH.cons rfl (fun K hK => ?_) AllReadyH.nil)
    try simp only [Act.put, setIfInBounds_toArray, set_cons_zero, set_cons_succ, getElem_toArray, getElem_cons_zero, getElem_cons_succ]
    rw [if_pos (by rfl)]
    go_simp
    refine (specPlainOf _ _ _ _ _ _ xs0 xs1 _ oq0.rd oq1.rd h0 h1.out).mono ?_
    rintro e v9 ⟨A0, m0, d0, he, o0, bb⟩
    subst he
    rw [HY.out] at o0
    replace oq0 := oq0.next bb
    replace rg := rg.next bb
    replace oq1 := oq1.next bb
    replace bl := next_trans bl bb
    replace bs := next_trans bs bb
    have zqv9 := bb.size
    clear bb
    clear oq0 oq1
    go_wp2_with fail
    refine hK.out _ _ ?_ (fun hHeld => ?_)
    ·exact ⟨(show v9.cell? ⟨w.heap.size, 0, none⟩ = some (.slice a0 n0 c0) from (rA0.next bl).cell 0), (show v9.cell? ⟨w.heap.size + 1, 0, none⟩ = some (.slice a1 n1 c1) from (rA1.next bl).cell 0)⟩
    clear hK K
    try simp only [Act.put, setIfInBounds_toArray, set_cons_zero, set_cons_succ, getElem_toArray, getElem_cons_zero, getElem_cons_succ]
    have cg : v9.cell? ⟨v1.heap.size, 0, none⟩ = some (.slice none 0 0) := rg.cell 0
    have fg : v9.frozen? ⟨v1.heap.size, 0, none⟩ = false := rg.free 0
    have hne0 : v1.heap.size ≠ w.heap.size := by omega
    have hne1 : v1.heap.size ≠ w.heap.size + 1 := by omega
    refine wpAnyH_ready (rs := [6]) (by kernel_rfl) (by simp) (AllReadyH.cons rfl (fun K hK => ?_) AllReadyH.nil)
    try simp only [Act.put, setIfInBounds_toArray, set_cons_zero, set_cons_succ, getElem_toArray, getElem_cons_zero, getElem_cons_succ]
    rw [if_pos (by rfl)]
    go_simp
    refine hK.out _ _ ?_ (fun hHeld => ?_)
    ·exact ⟨far_cell hne0 (show v9.cell? ⟨w.heap.size, 0, none⟩ = some (.slice a0 n0 c0) from (rA0.next bl).cell 0), far_cell hne1 (show v9.cell? ⟨w.heap.size + 1, 0, none⟩ = some (.slice a1 n1 c1) from (rA1.next bl).cell 0)⟩
    clear hK K
    try simp only [Act.put, setIfInBounds_toArray, set_cons_zero, set_cons_succ, getElem_toArray, getElem_cons_zero, getElem_cons_succ]
    refine wpAnyH_done (by kernel_rfl) ?_ _
    have F := boxed_put (W := w2.drew) o0 rg (by omega) bs hgB
    clear cg fg bl rg o0 bs hne0 hne1
    go_wp2_with fail
    go_meet
    exact F
  ·skip
   try simp only [Act.put, setIfInBounds_toArray, set_cons_zero, set_cons_succ, getElem_toArray, getElem_cons_zero, getElem_cons_succ]
   rw [if_pos (by rfl)]
   go_simp
   obtain ⟨v10, hw⟩ : ∃ W, W = (w2.alloc (.cells #[.slice none 0 0] 30)).drew := ⟨_, rfl⟩
   rw [← hw]
   have rg : Row v10 w2.heap.size 30 #[.slice none 0 0] := by rw [hw]; exact Row.new _ _ _
   have bb : Below w2.drew.heap.size w2.drew v10 := by rw [hw]; exact (Below.refl _ _).alloc (Nat.le_refl _) _
   have ygg : w2.heap.size < v10.heap.size := rg.lt
   have hgB : w2.drew.heap.size ≤ w2.heap.size := bs.size
   clear hw
   replace bl := next_trans bl bb
   replace bs := next_trans bs bb
   have zqv10 := bb.size
   clear bb
   refine hK.out _ _ ?_ (fun hHeld => ?_)
   ·exact ⟨(show v10.cell? ⟨w.heap.size, 0, none⟩ = some (.slice a0 n0 c0) from (rA0.next bl).cell 0), (show v10.cell? ⟨w.heap.size + 1, 0, none⟩ = some (.slice a1 n1 c1) from (rA1.next bl).cell 0)⟩
   clear hK K
   try simp only [Act.put, setIfInBounds_toArray, set_cons_zero, set_cons_succ, getElem_toArray, getElem_cons_zero, getElem_cons_succ]
   refine wpAnyH_ready (rs := [1]) (by kernel_rfl) (by simp) (AllReadyH.cons rfl (fun K hK => ?_) AllReadyH.nil)
   try simp only [Act.put, setIfInBounds_toArray, set_cons_zero, set_cons_succ, getElem_toArray, getElem_cons_zero, getElem_cons_succ]
   rw [if_pos (by rfl)]
   go_simp
   refine (sigTo _ _ _ xs0 _ (s0.next bl) h0).mono ?_
   rintro e v11 ⟨gq0, rfl, oq0, yq0, bb⟩
   replace rg := rg.next bb
   replace bl := next_trans bl bb
   replace bs := next_trans bs bb
   have zqv11 := bb.size
   clear bb
   go_wp2_with fail
   refine hK.out _ _ ?_ (fun hHeld => ?_)
   ·exact ⟨(show v11.cell? ⟨w.heap.size, 0, none⟩ = some (.slice a0 n0 c0) from (rA0.next bl).cell 0), (show v11.cell? ⟨w.heap.size + 1, 0, none⟩ = some (.slice a1 n1 c1) from (rA1.next bl).cell 0)⟩
   clear hK K
   try simp only [Act.put, setIfInBounds_toArray, set_cons_zero, set_cons_succ, getElem_toArray, getElem_cons_zero, getElem_cons_succ]
   refine wpAnyH_ready (rs := [3]) (by kernel_rfl) (by simp) (AllReadyH.cons rfl (fun K hK => ?_) AllReadyH.nil)
   try simp only [Act.put, setIfInBounds_toArray, set_cons_zero, set_cons_succ, getElem_toArray, getElem_cons_zero, getElem_cons_succ]
   rw [if_pos (by rfl)]
   go_simp
   refine (substTo _ _ _ xs1 _ (s1.next bl) h1.out).mono ?_
   rintro e v12 ⟨gq1, rfl, oq1, yq1, bb⟩
   replace rg := rg.next bb
   replace oq0 := oq0.next bb
   replace bl := next_trans bl bb
   replace bs := next_trans bs bb
   have zqv12 := bb.size
   clear bb
   go_wp2_with fail
   refine hK.out _ _ ?_ (fun hHeld => ?_)
   ·exact ⟨(show v12.cell? ⟨w.heap.size, 0, none⟩ = some (.slice a0 n0 c0) from (rA0.next bl).cell 0), (show v12.cell? ⟨w.heap.size + 1, 0, none⟩ = some (.slice a1 n1 c1) from (rA1.next bl).cell 0)⟩
   clear hK K
   try simp only [Act.put, setIfInBounds_toArray, set_cons_zero, set_cons_succ, getElem_toArray, getElem_cons_zero, getElem_cons_succ]
   refine wpAnyH_ready (rs := [4]) (by kernel_rfl) (by simp) (AllReadyH.cons rfl (fun K hK => ?_) AllReadyH.nil)
   try simp only [Act.put, setIfInBounds_toArray, set_cons_zero, set_cons_succ, getElem_toArray, getElem_cons_zero, getElem_cons_succ]
   rw [if_pos (by rfl)]
   go_simp
   refine (specPlainOf _ _ _ _ _ _ xs0 xs1 _ oq0.rd oq1.rd h0 h1.out).mono ?_
   rintro e v13 ⟨A0, m0, d0, he, o0, bb⟩
   subst he
   rw [HY.out] at o0
   replace rg := rg.next bb
   replace oq0 := oq0.next bb
   replace oq1 := oq1.next bb
   replace bl := next_trans bl bb
   replace bs := next_trans bs bb
   have zqv13 := bb.size
   clear bb
   clear oq0 oq1
   go_wp2_with fail
   refine hK.out _ _ ?_ (fun hHeld => ?_)
   ·exact ⟨(show v13.cell? ⟨w.heap.size, 0, none⟩ = some (.slice a0 n0 c0) from (rA0.next bl).cell 0), (show v13.cell? ⟨w.heap.size + 1, 0, none⟩ = some (.slice a1 n1 c1) from (rA1.next bl).cell 0)⟩
   clear hK K
   try simp only [Act.put, setIfInBounds_toArray, set_cons_zero, set_cons_succ, getElem_toArray, getElem_cons_zero, getElem_cons_succ]
   have cg : v13.cell? ⟨w2.heap.size, 0, none⟩ = some (.slice none 0 0) := rg.cell 0
   have fg : v13.frozen? ⟨w2.heap.size, 0, none⟩ = false := rg.free 0
   have hne0 : w2.heap.size ≠ w.heap.size := by omega
   have hne1 : w2.heap.size ≠ w.heap.size + 1 := by omega
   refine wpAnyH_ready (rs := [6]) (by kernel_rfl) (by simp) (AllReadyH.cons rfl (fun K hK => ?_) AllReadyH.nil)
   try simp only [Act.put, setIfInBounds_toArray, set_cons_zero, set_cons_succ, getElem_toArray, getElem_cons_zero, getElem_cons_succ]
   rw [if_pos (by rfl)]
   go_simp
   refine hK.out _ _ ?_ (fun hHeld => ?_)
   ·exact ⟨far_cell hne0 (show v13.cell? ⟨w.heap.size, 0, none⟩ = some (.slice a0 n0 c0) from (rA0.next bl).cell 0), far_cell hne1 (show v13.cell? ⟨w.heap.size + 1, 0, none⟩ = some (.slice a1 n1 c1) from (rA1.next bl).cell 0)⟩
   clear hK K
   try simp only [Act.put, setIfInBounds_toArray, set_cons_zero, set_cons_succ, getElem_toArray, getElem_cons_zero, getElem_cons_succ]
   refine wpAnyH_done (by kernel_rfl) ?_ _
   have F := boxed_put (W := w2.drew) o0 rg (by omega) bs hgB
   clear cg fg bl rg o0 bs hne0 hne1
   go_wp2_with fail
   go_meet
   exact F
 case rest =>
  rename World => w6
  obtain ⟨bw, Aw, mw, dw, rfl, rw, sw, bb⟩ := hcut
  replace bel := next_trans bel bb
  have zw6 := bb.size
  clear bb
  have belw := Below.refl w6.heap.size w6
  have cA0 : w6.cell? ⟨w.heap.size, 0, none⟩ = some (.slice a0 n0 c0) := (rA0.next bel).cell 0
  have cA1 : w6.cell? ⟨w.heap.size + 1, 0, none⟩ = some (.slice a1 n1 c1) := (rA1.next bel).cell 0
  have cw : w6.cell? ⟨bw, 0, none⟩ = some (.slice Aw mw dw) := (rw.next belw).cell 0
  go_wp2_with fail
  refine (sigTo _ _ _ xs0 _ (s0.next bel) h0).mono ?_
  rintro e w7 ⟨gx0, rfl, ox0, yx0, bb⟩
  replace bel := next_trans bel bb
  replace belw := next_trans belw bb
  have zw7 := bb.size
  clear bb
  clear cA0 cA1 cw
  have cA0 : w7.cell? ⟨w.heap.size, 0, none⟩ = some (.slice a0 n0 c0) := (rA0.next bel).cell 0
  have cA1 : w7.cell? ⟨w.heap.size + 1, 0, none⟩ = some (.slice a1 n1 c1) := (rA1.next bel).cell 0
  have cw : w7.cell? ⟨bw, 0, none⟩ = some (.slice Aw mw dw) := (rw.next belw).cell 0
  have dA0 : (w7.alloc (.cells #[.slice (some ⟨gx0, 0, none⟩) n0 n0] 32)).cell? ⟨w.heap.size, 0, none⟩ = some (.slice a0 n0 c0) := ((rA0.next bel).alloc _).cell 0
  have dA1 : (w7.alloc (.cells #[.slice (some ⟨gx0, 0, none⟩) n0 n0] 32)).cell? ⟨w.heap.size + 1, 0, none⟩ = some (.slice a1 n1 c1) := ((rA1.next bel).alloc _).cell 0
  have dw : (w7.alloc (.cells #[.slice (some ⟨gx0, 0, none⟩) n0 n0] 32)).cell? ⟨bw, 0, none⟩ = some (.slice Aw mw dw) := ((rw.next belw).alloc _).cell 0
  go_wp2_with fail
  obtain ⟨w8, hw⟩ : ∃ W, W = w7.alloc (.cells #[.slice (some ⟨gx0, 0, none⟩) n0 n0] 32) := ⟨_, rfl⟩
  rw [← hw]
  have rx0 : Row w8 w7.heap.size 32 #[.slice (some ⟨gx0, 0, none⟩) n0 n0] := by rw [hw]; exact Row.new _ _ _
  have bb : Below w7.heap.size w7 w8 := by rw [hw]; exact (Below.refl _ _).alloc (Nat.le_refl _) _
  have yrx0 : w7.heap.size < w8.heap.size := by rw [hw]; simp
  clear hw
  replace ox0 := ox0.next bb
  replace bel := next_trans bel bb
  replace belw := next_trans belw bb
  have zw8 := bb.size
  clear bb
  clear dA0 dA1 dw
  clear cA0 cA1 cw
  have cA0 : w8.cell? ⟨w.heap.size, 0, none⟩ = some (.slice a0 n0 c0) := (rA0.next bel).cell 0
  have cA1 : w8.cell? ⟨w.heap.size + 1, 0, none⟩ = some (.slice a1 n1 c1) := (rA1.next bel).cell 0
  have cw : w8.cell? ⟨bw, 0, none⟩ = some (.slice Aw mw dw) := (rw.next belw).cell 0
  have cx0 : w8.cell? ⟨w7.heap.size, 0, none⟩ = some (.slice (some ⟨gx0, 0, none⟩) n0 n0) := (rx0).cell 0
  refine (substTo _ _ _ xs1 _ (s1.next bel) h1.out).mono ?_
  rintro e w9 ⟨gx1, rfl, ox1, yx1, bb⟩
  replace ox0 := ox0.next bb
  replace rx0 := rx0.next bb
  replace bel := next_trans bel bb
  replace belw := next_trans belw bb
  have zw9 := bb.size
  clear bb
  clear cA0 cA1 cw cx0
  have cA0 : w9.cell? ⟨w.heap.size, 0, none⟩ = some (.slice a0 n0 c0) := (rA0.next bel).cell 0
  have cA1 : w9.cell? ⟨w.heap.size + 1, 0, none⟩ = some (.slice a1 n1 c1) := (rA1.next bel).cell 0
  have cw : w9.cell? ⟨bw, 0, none⟩ = some (.slice Aw mw dw) := (rw.next belw).cell 0
  have cx0 : w9.cell? ⟨w7.heap.size, 0, none⟩ = some (.slice (some ⟨gx0, 0, none⟩) n0 n0) := (rx0).cell 0
  have dA0 : (w9.alloc (.cells #[.slice (some ⟨gx1, 0, none⟩) n1 n1] 30)).cell? ⟨w.heap.size, 0, none⟩ = some (.slice a0 n0 c0) := ((rA0.next bel).alloc _).cell 0
  have dA1 : (w9.alloc (.cells #[.slice (some ⟨gx1, 0, none⟩) n1 n1] 30)).cell? ⟨w.heap.size + 1, 0, none⟩ = some (.slice a1 n1 c1) := ((rA1.next bel).alloc _).cell 0
  have dw : (w9.alloc (.cells #[.slice (some ⟨gx1, 0, none⟩) n1 n1] 30)).cell? ⟨bw, 0, none⟩ = some (.slice Aw mw dw) := ((rw.next belw).alloc _).cell 0
  have dx0 : (w9.alloc (.cells #[.slice (some ⟨gx1, 0, none⟩) n1 n1] 30)).cell? ⟨w7.heap.size, 0, none⟩ = some (.slice (some ⟨gx0, 0, none⟩) n0 n0) := ((rx0).alloc _).cell 0
  go_wp2_with fail
  obtain ⟨w10, hw⟩ : ∃ W, W = w9.alloc (.cells #[.slice (some ⟨gx1, 0, none⟩) n1 n1] 30) := ⟨_, rfl⟩
  rw [← hw]
  have rx1 : Row w10 w9.heap.size 30 #[.slice (some ⟨gx1, 0, none⟩) n1 n1] := by rw [hw]; exact Row.new _ _ _
  have bb : Below w9.heap.size w9 w10 := by rw [hw]; exact (Below.refl _ _).alloc (Nat.le_refl _) _
  have yrx1 : w9.heap.size < w10.heap.size := by rw [hw]; simp
  clear hw
  replace ox0 := ox0.next bb
  replace rx0 := rx0.next bb
  replace ox1 := ox1.next bb
  replace bel := next_trans bel bb
  replace belw := next_trans belw bb
  have zw10 := bb.size
  clear bb
  clear dA0 dA1 dw dx0
  clear cA0 cA1 cw cx0
  have cA0 : w10.cell? ⟨w.heap.size, 0, none⟩ = some (.slice a0 n0 c0) := (rA0.next bel).cell 0
  have cA1 : w10.cell? ⟨w.heap.size + 1, 0, none⟩ = some (.slice a1 n1 c1) := (rA1.next bel).cell 0
  have cw : w10.cell? ⟨bw, 0, none⟩ = some (.slice Aw mw dw) := (rw.next belw).cell 0
  have cx0 : w10.cell? ⟨w7.heap.size, 0, none⟩ = some (.slice (some ⟨gx0, 0, none⟩) n0 n0) := (rx0).cell 0
  have cx1 : w10.cell? ⟨w9.heap.size, 0, none⟩ = some (.slice (some ⟨gx1, 0, none⟩) n1 n1) := (rx1).cell 0
  refine (implPlainOf _ _ _ _ _ _ xs0 xs1 _ ox0.rd ox1.rd h0 h1.out).mono ?_
  rintro e w11 ⟨A0, m0, d0, he, o0, bb⟩
  subst he
  replace ox0 := ox0.next bb
  replace rx0 := rx0.next bb
  replace ox1 := ox1.next bb
  replace rx1 := rx1.next bb
  replace bel := next_trans bel bb
  replace belw := next_trans belw bb
  have zw11 := bb.size
  clear bb
  rw [HY.out] at o0
  have og := o0
  clear o0
  obtain ⟨Ag, mg, dg, eA, em, ed⟩ : ∃ A m d, A = A0 ∧ m = m0 ∧ d = d0 := ⟨_, _, _, rfl, rfl, rfl⟩
  subst eA em ed
  clear cA0 cA1 cw cx0 cx1
  have cA0 : w11.cell? ⟨w.heap.size, 0, none⟩ = some (.slice a0 n0 c0) := (rA0.next bel).cell 0
  have cA1 : w11.cell? ⟨w.heap.size + 1, 0, none⟩ = some (.slice a1 n1 c1) := (rA1.next bel).cell 0
  have cw : w11.cell? ⟨bw, 0, none⟩ = some (.slice Aw mw dw) := (rw.next belw).cell 0
  have cx0 : w11.cell? ⟨w7.heap.size, 0, none⟩ = some (.slice (some ⟨gx0, 0, none⟩) n0 n0) := (rx0).cell 0
  have cx1 : w11.cell? ⟨w9.heap.size, 0, none⟩ = some (.slice (some ⟨gx1, 0, none⟩) n1 n1) := (rx1).cell 0
  have dA0 : (w11.alloc (.cells #[.slice Ag mg dg] 30)).cell? ⟨w.heap.size, 0, none⟩ = some (.slice a0 n0 c0) := ((rA0.next bel).alloc _).cell 0
  have dA1 : (w11.alloc (.cells #[.slice Ag mg dg] 30)).cell? ⟨w.heap.size + 1, 0, none⟩ = some (.slice a1 n1 c1) := ((rA1.next bel).alloc _).cell 0
  have dw : (w11.alloc (.cells #[.slice Ag mg dg] 30)).cell? ⟨bw, 0, none⟩ = some (.slice Aw mw dw) := ((rw.next belw).alloc _).cell 0
  have dx0 : (w11.alloc (.cells #[.slice Ag mg dg] 30)).cell? ⟨w7.heap.size, 0, none⟩ = some (.slice (some ⟨gx0, 0, none⟩) n0 n0) := ((rx0).alloc _).cell 0
  have dx1 : (w11.alloc (.cells #[.slice Ag mg dg] 30)).cell? ⟨w9.heap.size, 0, none⟩ = some (.slice (some ⟨gx1, 0, none⟩) n1 n1) := ((rx1).alloc _).cell 0
  go_wp2_with fail
  obtain ⟨w12, hw⟩ : ∃ W, W = w11.alloc (.cells #[.slice Ag mg dg] 30) := ⟨_, rfl⟩
  rw [← hw]
  have rg : Row w12 w11.heap.size 30 #[.slice Ag mg dg] := by rw [hw]; exact Row.new _ _ _
  have bb : Below w11.heap.size w11 w12 := by rw [hw]; exact (Below.refl _ _).alloc (Nat.le_refl _) _
  have yrg : w11.heap.size < w12.heap.size := by rw [hw]; simp
  clear hw
  replace ox0 := ox0.next bb
  replace rx0 := rx0.next bb
  replace ox1 := ox1.next bb
  replace rx1 := rx1.next bb
  replace og := og.next bb
  replace bel := next_trans bel bb
  replace belw := next_trans belw bb
  have zw12 := bb.size
  clear bb
  clear dA0 dA1 dw dx0 dx1
  clear cA0 cA1 cw cx0 cx1
  have cA0 : w12.cell? ⟨w.heap.size, 0, none⟩ = some (.slice a0 n0 c0) := (rA0.next bel).cell 0
  have cA1 : w12.cell? ⟨w.heap.size + 1, 0, none⟩ = some (.slice a1 n1 c1) := (rA1.next bel).cell 0
  have cw : w12.cell? ⟨bw, 0, none⟩ = some (.slice Aw mw dw) := (rw.next belw).cell 0
  have cx0 : w12.cell? ⟨w7.heap.size, 0, none⟩ = some (.slice (some ⟨gx0, 0, none⟩) n0 n0) := (rx0).cell 0
  have cx1 : w12.cell? ⟨w9.heap.size, 0, none⟩ = some (.slice (some ⟨gx1, 0, none⟩) n1 n1) := (rx1).cell 0
  have cg : w12.cell? ⟨w11.heap.size, 0, none⟩ = some (.slice Ag mg dg) := (rg).cell 0
  have hlenn : mg ≤ 1048576 := tot_len og.len hlen.out
  have hmg : sumL ys mg ≤ 1048576 := by have q := hlen.out; unfold tot at q; rw [og.len] at q; omega
  obtain ⟨zg, hzg⟩ : ∃ z, sumL ys mg = z := ⟨_, rfl⟩
  rw [hzg] at hmg
  have HZg := hid hzg
  clear hzg
  refine (substEq _ _ _ _ _ _ ys _ og.rd (sw.next belw) hlen.out).mono ?_
  rintro e w13 ⟨rfl, bb⟩
  replace ox0 := ox0.next bb
  replace rx0 := rx0.next bb
  replace ox1 := ox1.next bb
  replace rx1 := rx1.next bb
  replace og := og.next bb
  replace rg := rg.next bb
  replace bel := next_trans bel bb
  replace belw := next_trans belw bb
  have zw13 := bb.size
  clear bb
  clear cA0 cA1 cw cx0 cx1 cg
  have cA0 : w13.cell? ⟨w.heap.size, 0, none⟩ = some (.slice a0 n0 c0) := (rA0.next bel).cell 0
  have cA1 : w13.cell? ⟨w.heap.size + 1, 0, none⟩ = some (.slice a1 n1 c1) := (rA1.next bel).cell 0
  have cw : w13.cell? ⟨bw, 0, none⟩ = some (.slice Aw mw dw) := (rw.next belw).cell 0
  have cx0 : w13.cell? ⟨w7.heap.size, 0, none⟩ = some (.slice (some ⟨gx0, 0, none⟩) n0 n0) := (rx0).cell 0
  have cx1 : w13.cell? ⟨w9.heap.size, 0, none⟩ = some (.slice (some ⟨gx1, 0, none⟩) n1 n1) := (rx1).cell 0
  have cg : w13.cell? ⟨w11.heap.size, 0, none⟩ = some (.slice Ag mg dg) := (rg).cell 0
  go_wp2_with fail
  replace ox0 := ox0.drew
  replace rx0 := rx0.drew
  replace ox1 := ox1.drew
  replace rx1 := rx1.drew
  replace og := og.drew
  replace rg := rg.drew
  replace bel := bel.drew
  replace belw := belw.drew
  have zdw13 := (drew_below w13).size
  go_region_held3 (fun w' => w'.cell? ⟨w7.heap.size, 0, none⟩ = some (.slice (some ⟨gx0, 0, none⟩) n0 n0) ∧ w'.cell? ⟨w.heap.size, 0, none⟩ = some (.slice a0 n0 c0))
   (go_keep)
   (first
    | (go_at_call 14; refine (sigTo _ _ _ xs0 _ (s0.next bel) h0).mono ?_; rintro e w14 ⟨gt0, rfl, ot, yt0, bb⟩; replace ox0 := ox0.next bb; replace rx0 := rx0.next bb; replace ox1 := ox1.next bb; replace rx1 := rx1.next bb; replace og := og.next bb; replace rg := rg.next bb; replace bel := next_trans bel bb; replace belw := next_trans belw bb; have k0w14 : w14.cell? ⟨w.heap.size, 0, none⟩ = some (.slice a0 n0 c0) := (rA0.next bel).cell 0; have l0w14 : w14.cell? ⟨w7.heap.size, 0, none⟩ = some (.slice (some ⟨gx0, 0, none⟩) n0 n0) := rx0.cell 0; have zqw14 := bb.size; clear bb)
    | (go_at_call 18; refine (sigEq _ _ _ _ _ _ xs0 _ ox0.rd ot.rd h0).mono ?_; rintro e w15 ⟨rfl, bb⟩; replace ox0 := ox0.next bb; replace rx0 := rx0.next bb; replace ox1 := ox1.next bb; replace rx1 := rx1.next bb; replace og := og.next bb; replace rg := rg.next bb; replace bel := next_trans bel bb; replace belw := next_trans belw bb; have k0w15 : w15.cell? ⟨w.heap.size, 0, none⟩ = some (.slice a0 n0 c0) := (rA0.next bel).cell 0; have l0w15 : w15.cell? ⟨w7.heap.size, 0, none⟩ = some (.slice (some ⟨gx0, 0, none⟩) n0 n0) := rx0.cell 0; have zqw15 := bb.size; clear bb ot))
  clear k0w14 l0w14 k0w15 l0w15
  clear cA0 cA1 cw cx0 cx1 cg
  have cA0 : w15.cell? ⟨w.heap.size, 0, none⟩ = some (.slice a0 n0 c0) := (rA0.next bel).cell 0
  have cA1 : w15.cell? ⟨w.heap.size + 1, 0, none⟩ = some (.slice a1 n1 c1) := (rA1.next bel).cell 0
  have cw : w15.cell? ⟨bw, 0, none⟩ = some (.slice Aw mw dw) := (rw.next belw).cell 0
  have cx0 : w15.cell? ⟨w7.heap.size, 0, none⟩ = some (.slice (some ⟨gx0, 0, none⟩) n0 n0) := (rx0).cell 0
  have cx1 : w15.cell? ⟨w9.heap.size, 0, none⟩ = some (.slice (some ⟨gx1, 0, none⟩) n1 n1) := (rx1).cell 0
  have cg : w15.cell? ⟨w11.heap.size, 0, none⟩ = some (.slice Ag mg dg) := (rg).cell 0
  go_wp2_with fail
  replace ox0 := ox0.drew
  replace rx0 := rx0.drew
  replace ox1 := ox1.drew
  replace rx1 := rx1.drew
  replace og := og.drew
  replace rg := rg.drew
  replace bel := bel.drew
  replace belw := belw.drew
  have zdw15 := (drew_below w15).size
  go_region_held3 (fun w' => w'.cell? ⟨w9.heap.size, 0, none⟩ = some (.slice (some ⟨gx1, 0, none⟩) n1 n1) ∧ w'.cell? ⟨w.heap.size + 1, 0, none⟩ = some (.slice a1 n1 c1))
   (go_keep)
   (first
    | (go_at_call 15; refine (substTo _ _ _ xs1 _ (s1.next bel) h1.out).mono ?_; rintro e w16 ⟨gt1, rfl, ot, yt1, bb⟩; replace ox0 := ox0.next bb; replace rx0 := rx0.next bb; replace ox1 := ox1.next bb; replace rx1 := rx1.next bb; replace og := og.next bb; replace rg := rg.next bb; replace bel := next_trans bel bb; replace belw := next_trans belw bb; have k1w16 : w16.cell? ⟨w.heap.size + 1, 0, none⟩ = some (.slice a1 n1 c1) := (rA1.next bel).cell 0; have l1w16 : w16.cell? ⟨w9.heap.size, 0, none⟩ = some (.slice (some ⟨gx1, 0, none⟩) n1 n1) := rx1.cell 0; have zqw16 := bb.size; clear bb)
    | (go_at_call 17; refine (substEq _ _ _ _ _ _ xs1 _ ox1.rd ot.rd h1.out).mono ?_; rintro e w17 ⟨rfl, bb⟩; replace ox0 := ox0.next bb; replace rx0 := rx0.next bb; replace ox1 := ox1.next bb; replace rx1 := rx1.next bb; replace og := og.next bb; replace rg := rg.next bb; replace bel := next_trans bel bb; replace belw := next_trans belw bb; have k1w17 : w17.cell? ⟨w.heap.size + 1, 0, none⟩ = some (.slice a1 n1 c1) := (rA1.next bel).cell 0; have l1w17 : w17.cell? ⟨w9.heap.size, 0, none⟩ = some (.slice (some ⟨gx1, 0, none⟩) n1 n1) := rx1.cell 0; have zqw17 := bb.size; clear bb ot))
  clear k1w16 l1w16 k1w17 l1w17
  clear cA0 cA1 cw cx0 cx1 cg
  have cA0 : w17.cell? ⟨w.heap.size, 0, none⟩ = some (.slice a0 n0 c0) := (rA0.next bel).cell 0
  have cA1 : w17.cell? ⟨w.heap.size + 1, 0, none⟩ = some (.slice a1 n1 c1) := (rA1.next bel).cell 0
  have cw : w17.cell? ⟨bw, 0, none⟩ = some (.slice Aw mw dw) := (rw.next belw).cell 0
  have cx0 : w17.cell? ⟨w7.heap.size, 0, none⟩ = some (.slice (some ⟨gx0, 0, none⟩) n0 n0) := (rx0).cell 0
  have cx1 : w17.cell? ⟨w9.heap.size, 0, none⟩ = some (.slice (some ⟨gx1, 0, none⟩) n1 n1) := (rx1).cell 0
  have cg : w17.cell? ⟨w11.heap.size, 0, none⟩ = some (.slice Ag mg dg) := (rg).cell 0
  go_wp2_with fail
  refine (sigMark (w6.heap.size) (w7.heap.size) _ _ _ xs0 (1) _ ox0 h0 (by omega) (by omega)).mono ?_
  rintro e w18 ⟨he, -, bt⟩
  subst he
  clear ox0
  replace rx0 := Row.btw rx0 bt (by omega)
  replace ox1 := ox1.btw bt (by omega)
  replace rx1 := Row.btw rx1 bt (by omega)
  replace og := og.btw bt (by omega)
  replace rg := Row.btw rg bt (by omega)
  replace bel := Below.btw bel bt (by omega) bel.size
  replace belw := Below.btw belw bt (by omega) belw.size
  have zw18 := bt.size
  clear bt
  clear cA0 cA1 cw cx0 cx1 cg
  have cA0 : w18.cell? ⟨w.heap.size, 0, none⟩ = some (.slice a0 n0 c0) := (rA0.next bel).cell 0
  have cA1 : w18.cell? ⟨w.heap.size + 1, 0, none⟩ = some (.slice a1 n1 c1) := (rA1.next bel).cell 0
  have cw : w18.cell? ⟨bw, 0, none⟩ = some (.slice Aw mw dw) := (rw.next belw).cell 0
  have cx0 : w18.cell? ⟨w7.heap.size, 0, none⟩ = some (.slice (some ⟨gx0, 0, none⟩) n0 n0) := (rx0).cell 0
  have cx1 : w18.cell? ⟨w9.heap.size, 0, none⟩ = some (.slice (some ⟨gx1, 0, none⟩) n1 n1) := (rx1).cell 0
  have cg : w18.cell? ⟨w11.heap.size, 0, none⟩ = some (.slice Ag mg dg) := (rg).cell 0
  go_wp2_with fail
  refine (substMark (w8.heap.size) (w9.heap.size) _ _ _ xs1 (1 + (n0 : Int)) _ ox1 (by omega) h1.out (by omega) (by omega)).mono ?_
  rintro e w19 ⟨he, -, bt⟩
  rw [HZ1.out] at he
  subst he
  clear ox1
  replace rx0 := Row.btw rx0 bt (by omega)
  replace rx1 := Row.btw rx1 bt (by omega)
  replace og := og.btw bt (by omega)
  replace rg := Row.btw rg bt (by omega)
  replace bel := Below.btw bel bt (by omega) bel.size
  replace belw := Below.btw belw bt (by omega) belw.size
  have zw19 := bt.size
  clear bt
  clear cA0 cA1 cw cx0 cx1 cg
  have cA0 : w19.cell? ⟨w.heap.size, 0, none⟩ = some (.slice a0 n0 c0) := (rA0.next bel).cell 0
  have cA1 : w19.cell? ⟨w.heap.size + 1, 0, none⟩ = some (.slice a1 n1 c1) := (rA1.next bel).cell 0
  have cw : w19.cell? ⟨bw, 0, none⟩ = some (.slice Aw mw dw) := (rw.next belw).cell 0
  have cx0 : w19.cell? ⟨w7.heap.size, 0, none⟩ = some (.slice (some ⟨gx0, 0, none⟩) n0 n0) := (rx0).cell 0
  have cx1 : w19.cell? ⟨w9.heap.size, 0, none⟩ = some (.slice (some ⟨gx1, 0, none⟩) n1 n1) := (rx1).cell 0
  have cg : w19.cell? ⟨w11.heap.size, 0, none⟩ = some (.slice Ag mg dg) := (rg).cell 0
  clear rx0
  clear rx1
  clear cA0 cA1 cw cx0 cx1 cg
  have cA0 : w19.cell? ⟨w.heap.size, 0, none⟩ = some (.slice a0 n0 c0) := (rA0.next bel).cell 0
  have cA1 : w19.cell? ⟨w.heap.size + 1, 0, none⟩ = some (.slice a1 n1 c1) := (rA1.next bel).cell 0
  have cw : w19.cell? ⟨bw, 0, none⟩ = some (.slice Aw mw dw) := (rw.next belw).cell 0
  have cg : w19.cell? ⟨w11.heap.size, 0, none⟩ = some (.slice Ag mg dg) := (rg).cell 0
  go_wp2_with fail
  refine (substEq _ _ _ _ _ _ ys _ og.rd (sw.next belw) hlen.out).mono ?_
  rintro e w20 ⟨rfl, bb⟩
  replace og := og.next bb
  replace rg := rg.next bb
  replace bel := next_trans bel bb
  replace belw := next_trans belw bb
  have zw20 := bb.size
  clear bb
  clear cA0 cA1 cw cg
  have cA0 : w20.cell? ⟨w.heap.size, 0, none⟩ = some (.slice a0 n0 c0) := (rA0.next bel).cell 0
  have cA1 : w20.cell? ⟨w.heap.size + 1, 0, none⟩ = some (.slice a1 n1 c1) := (rA1.next bel).cell 0
  have cw : w20.cell? ⟨bw, 0, none⟩ = some (.slice Aw mw dw) := (rw.next belw).cell 0
  have cg : w20.cell? ⟨w11.heap.size, 0, none⟩ = some (.slice Ag mg dg) := (rg).cell 0
  go_wp2_with fail
  refine (substMark (w10.heap.size) (w11.heap.size) _ _ _ ys 1 _ og (by omega) hlen.out (by omega) (by omega)).mono ?_
  rintro e w21 ⟨he, om, bt⟩
  rw [HZg.out] at he
  subst he
  clear og
  replace rg := Row.btw rg bt (by omega)
  replace bel := Below.btw bel bt (by omega) bel.size
  replace belw := Below.btw belw bt (by omega) belw.size
  have zw21 := bt.size
  clear bt
  clear cA0 cA1 cw cg
  have cA0 : w21.cell? ⟨w.heap.size, 0, none⟩ = some (.slice a0 n0 c0) := (rA0.next bel).cell 0
  have cA1 : w21.cell? ⟨w.heap.size + 1, 0, none⟩ = some (.slice a1 n1 c1) := (rA1.next bel).cell 0
  have cw : w21.cell? ⟨bw, 0, none⟩ = some (.slice Aw mw dw) := (rw.next belw).cell 0
  have cg : w21.cell? ⟨w11.heap.size, 0, none⟩ = some (.slice Ag mg dg) := (rg).cell 0
  go_wp2_with fail
  refine (substHeld _ _ _ ys 1 _ om.rd hlen.out (by omega) (by omega)).mono ?_
  rintro e w22 ⟨he, bb⟩
  rw [HZg.out] at he
  subst he
  replace rg := rg.next bb
  replace om := om.next bb
  replace bel := next_trans bel bb
  replace belw := next_trans belw bb
  have zw22 := bb.size
  clear bb
  clear cA0 cA1 cw cg
  have cA0 : w22.cell? ⟨w.heap.size, 0, none⟩ = some (.slice a0 n0 c0) := (rA0.next bel).cell 0
  have cA1 : w22.cell? ⟨w.heap.size + 1, 0, none⟩ = some (.slice a1 n1 c1) := (rA1.next bel).cell 0
  have cw : w22.cell? ⟨bw, 0, none⟩ = some (.slice Aw mw dw) := (rw.next belw).cell 0
  have cg : w22.cell? ⟨w11.heap.size, 0, none⟩ = some (.slice Ag mg dg) := (rg).cell 0
  go_upto_region 31 with (fail)
  replace rg := rg.drew
  replace om := om.drew
  replace bel := bel.drew
  replace belw := belw.drew
  have zdw22 := (drew_below w22).size
  go_cut [13] (fun s13 wx => Boxed (w22.drew) ys s13 wx)
  case first =>
   have bs := Below.refl (w22.drew).heap.size (w22.drew)
   have bl := bel
   have zst := bl.size
   have c0S := hid (show w22.drew.cell? ⟨w.heap.size, 0, none⟩ = some (.slice a0 n0 c0) ∧ w22.drew.cell? ⟨w.heap.size + 1, 0, none⟩ = some (.slice a1 n1 c1) from ⟨(show w22.drew.cell? ⟨w.heap.size, 0, none⟩ = some (.slice a0 n0 c0) from (rA0.next bl).cell 0), (show w22.drew.cell? ⟨w.heap.size + 1, 0, none⟩ = some (.slice a1 n1 c1) from (rA1.next bl).cell 0)⟩)
   clear bel belw rg om cA0 cA1 cw cg
   refine wp_region_held_drew (S := fun w' => w'.cell? ⟨w.heap.size, 0, none⟩ = some (.slice a0 n0 c0) ∧ w'.cell? ⟨w.heap.size + 1, 0, none⟩ = some (.slice a1 n1 c1)) (by kernel_rfl) c0S.out (fun hHeld => ?_)
   refine wpAnyH_take (i := 0) (v := ?_) rfl (by kernel_rfl) (by kernel_rfl) (by kernel_rfl) (fun _ _ _ h => h) (Or.inl ⟨by rfl, ?_⟩) (by assumption) ?_
   rotate_left 1
   ·(intro w0 hSw; (try dsimp only at hSw); go_simp; try with_reducible rfl)
   try simp only [Act.put, setIfInBounds_toArray, set_cons_zero, set_cons_succ, getElem_toArray, getElem_cons_zero, getElem_cons_succ]
   refine wpAnyH_take (i := 2) (v := ?_) rfl (by kernel_rfl) (by kernel_rfl) (by kernel_rfl) (fun _ _ _ h => h) (Or.inl ⟨by rfl, ?_⟩) (by assumption) ?_
   rotate_left 1
   ·(intro w0 hSw; (try dsimp only at hSw); go_simp; try with_reducible rfl)
   try simp only [Act.put, setIfInBounds_toArray, set_cons_zero, set_cons_succ, getElem_toArray, getElem_cons_zero, getElem_cons_succ]
   refine wpAnyH_ready (rs := [1, 5]) (by kernel_rfl) (by simp) (AllReadyH.cons rfl (fun K hK => ?_) (AllReadyH.cons rfl (fun K hK => ?_) AllReadyH.nil))
   ·skip
    try simp only [Act.put, setIfInBounds_toArray, set_cons_zero, set_cons_succ, getElem_toArray, getElem_cons_zero, getElem_cons_succ]
    rw [if_pos (by rfl)]
    go_simp
    refine (sigTo _ _ _ xs0 _ (s0.next bl) h0).mono ?_
    rintro e v14 ⟨gq0, rfl, oq0, yq0, bb⟩
    replace bl := next_trans bl bb
    replace bs := next_trans bs bb
    have zqv14 := bb.size
    clear bb
    go_wp2_with fail
    refine hK.out _ _ ?_ (fun hHeld => ?_)
    ·exact ⟨(show v14.cell? ⟨w.heap.size, 0, none⟩ = some (.slice a0 n0 c0) from (rA0.next bl).cell 0), (show v14.cell? ⟨w.heap.size + 1, 0, none⟩ = some (.slice a1 n1 c1) from (rA1.next bl).cell 0)⟩
    clear hK K
    try simp only [Act.put, setIfInBounds_toArray, set_cons_zero, set_cons_succ, getElem_toArray, getElem_cons_zero, getElem_cons_succ]
    refine wpAnyH_ready (rs := [3, 5]) (by kernel_rfl) (by simp) (AllReadyH.cons rfl (fun K hK => ?_) (AllReadyH.cons rfl (fun K hK => ?_) AllReadyH.nil))
    ·skip
     try simp only [Act.put, setIfInBounds_toArray, set_cons_zero, set_cons_succ, getElem_toArray, getElem_cons_zero, getElem_cons_succ]
     rw [if_pos (by rfl)]
     go_simp
     refine (substTo _ _ _ xs1 _ (s1.next bl) h1.out).mono ?_
     rintro e v15 ⟨gq1, rfl, oq1, yq1, bb⟩
     replace oq0 := oq0.next bb
     replace bl := next_trans bl bb
     replace bs := next_trans bs bb
     have zqv15 := bb.size
     clear bb
     go_wp2_with fail
     refine hK.out _ _ ?_ (fun hHeld => ?_)
     ·exact ⟨(show v15.cell? ⟨w.heap.size, 0, none⟩ = some (.slice a0 n0 c0) from (rA0.next bl).cell 0), (show v15.cell? ⟨w.heap.size + 1, 0, none⟩ = some (.slice a1 n1 c1) from (rA1.next bl).cell 0)⟩
     clear hK K
     try simp only [Act.put, setIfInBounds_toArray, set_cons_zero, set_cons_succ, getElem_toArray, getElem_cons_zero, getElem_cons_succ]
     refine wpAnyH_ready (rs := [4, 5]) (by kernel_rfl) (by simp) (AllReadyH.cons rfl (fun K hK => ?_) (AllReadyH.cons rfl (fun K hK => ?_) AllReadyH.nil))
     ·skip
      try simp only [Act.put, setIfInBounds_toArray, set_cons_zero, set_cons_succ, getElem_toArray, getElem_cons_zero, getElem_cons_succ]
      rw [if_pos (by rfl)]
      go_simp
      refine (implPlainOf _ _ _ _ _ _ xs0 xs1 _ oq0.rd oq1.rd h0 h1.out).mono ?_
      rintro e v16 ⟨A0, m0, d0, he, o0, bb⟩
      subst he
      rw [HY.out] at o0
      replace oq0 := oq0.next bb
      replace oq1 := oq1.next bb
      replace bl := next_trans bl bb
      replace bs := next_trans bs bb
      have zqv16 := bb.size
      clear bb
      clear oq0 oq1
      go_wp2_with fail
      refine hK.out _ _ ?_ (fun hHeld => ?_)
      ·exact ⟨(show v16.cell? ⟨w.heap.size, 0, none⟩ = some (.slice a0 n0 c0) from (rA0.next bl).cell 0), (show v16.cell? ⟨w.heap.size + 1, 0, none⟩ = some (.slice a1 n1 c1) from (rA1.next bl).cell 0)⟩
      clear hK K
      try simp only [Act.put, setIfInBounds_toArray, set_cons_zero, set_cons_succ, getElem_toArray, getElem_cons_zero, getElem_cons_succ]
      refine wpAnyH_ready (rs := [5]) (by kernel_rfl) (by simp) (AllReadyH.cons rfl (fun K hK => ?_) AllReadyH.nil)
      try simp only [Act.put, setIfInBounds_toArray, set_cons_zero, set_cons_succ, getElem_toArray, getElem_cons_zero, getElem_cons_succ]
      rw [if_pos (by rfl)]
      go_simp
      obtain ⟨v17, hw⟩ : ∃ W, W = (v16.alloc (.cells #[.slice none 0 0] 30)) := ⟨_, rfl⟩
      rw [← hw]
      have rg : Row v17 v16.heap.size 30 #[.slice none 0 0] := by rw [hw]; exact Row.new _ _ _
      have bb : Below v16.heap.size v16 v17 := by rw [hw]; exact (Below.refl _ _).alloc (Nat.le_refl _) _
      have ygg : v16.heap.size < v17.heap.size := rg.lt
      have hgB : w22.drew.heap.size ≤ v16.heap.size := bs.size
      clear hw
      replace o0 := o0.next bb
      replace bl := next_trans bl bb
      replace bs := next_trans bs bb
      have zqv17 := bb.size
      clear bb
      refine hK.out _ _ ?_ (fun hHeld => ?_)
      ·exact ⟨(show v17.cell? ⟨w.heap.size, 0, none⟩ = some (.slice a0 n0 c0) from (rA0.next bl).cell 0), (show v17.cell? ⟨w.heap.size + 1, 0, none⟩ = some (.slice a1 n1 c1) from (rA1.next bl).cell 0)⟩
      clear hK K
      try simp only [Act.put, setIfInBounds_toArray, set_cons_zero, set_cons_succ, getElem_toArray, getElem_cons_zero, getElem_cons_succ]
      have cg : v17.cell? ⟨v16.heap.size, 0, none⟩ = some (.slice none 0 0) := rg.cell 0
      have fg : v17.frozen? ⟨v16.heap.size, 0, none⟩ = false := rg.free 0
      have hne0 : v16.heap.size ≠ w.heap.size := by omega
      have hne1 : v16.heap.size ≠ w.heap.size + 1 := by omega
      refine wpAnyH_ready (rs := [6]) (by kernel_rfl) (by simp) (AllReadyH.cons rfl (fun K hK => ?_) AllReadyH.nil)
      try simp only [Act.put, setIfInBounds_toArray, set_cons_zero, set_cons_succ, getElem_toArray, getElem_cons_zero, getElem_cons_succ]
      rw [if_pos (by rfl)]
      go_simp
      refine hK.out _ _ ?_ (fun hHeld => ?_)
      ·exact ⟨far_cell hne0 (show v17.cell? ⟨w.heap.size, 0, none⟩ = some (.slice a0 n0 c0) from (rA0.next bl).cell 0), far_cell hne1 (show v17.cell? ⟨w.heap.size + 1, 0, none⟩ = some (.slice a1 n1 c1) from (rA1.next bl).cell 0)⟩
      clear hK K
      try simp only [Act.put, setIfInBounds_toArray, set_cons_zero, set_cons_succ, getElem_toArray, getElem_cons_zero, getElem_cons_succ]
      refine wpAnyH_done (by kernel_rfl) ?_ _
      have F := boxed_put (W := w22.drew) o0 rg (by omega) bs hgB
      clear cg fg bl rg o0 bs hne0 hne1
      go_wp2_with fail
      go_meet
      exact F
     ·skip
      try simp only [Act.put, setIfInBounds_toArray, set_cons_zero, set_cons_succ, getElem_toArray, getElem_cons_zero, getElem_cons_succ]
      rw [if_pos (by rfl)]
      go_simp
      obtain ⟨v18, hw⟩ : ∃ W, W = (v15.alloc (.cells #[.slice none 0 0] 30)) := ⟨_, rfl⟩
      rw [← hw]
      have rg : Row v18 v15.heap.size 30 #[.slice none 0 0] := by rw [hw]; exact Row.new _ _ _
      have bb : Below v15.heap.size v15 v18 := by rw [hw]; exact (Below.refl _ _).alloc (Nat.le_refl _) _
      have ygg : v15.heap.size < v18.heap.size := rg.lt
      have hgB : w22.drew.heap.size ≤ v15.heap.size := bs.size
      clear hw
      replace oq0 := oq0.next bb
      replace oq1 := oq1.next bb
      replace bl := next_trans bl bb
      replace bs := next_trans bs bb
      have zqv18 := bb.size
      clear bb
      refine hK.out _ _ ?_ (fun hHeld => ?_)
      ·exact ⟨(show v18.cell? ⟨w.heap.size, 0, none⟩ = some (.slice a0 n0 c0) from (rA0.next bl).cell 0), (show v18.cell? ⟨w.heap.size + 1, 0, none⟩ = some (.slice a1 n1 c1) from (rA1.next bl).cell 0)⟩
      clear hK K
      try simp only [Act.put, setIfInBounds_toArray, set_cons_zero, set_cons_succ, getElem_toArray, getElem_cons_zero, getElem_cons_succ]
      refine wpAnyH_ready (rs := [4]) (by kernel_rfl) (by simp) (AllReadyH.cons rfl (fun K hK => ?_) AllReadyH.nil)
      try simp only [Act.put, setIfInBounds_toArray, set_cons_zero, set_cons_succ, getElem_toArray, getElem_cons_zero, getElem_cons_succ]
      rw [if_pos (by rfl)]
      go_simp
      refine (implPlainOf _ _ _ _ _ _ xs0 xs1 _ oq0.rd oq1.rd h0 h1.out).mono ?_
      rintro e v19 ⟨A0, m0, d0, he, o0, bb⟩
      subst he
      rw [HY.out] at o0
      replace oq0 := oq0.next bb
      replace oq1 := oq1.next bb
      replace rg := rg.next bb
      replace bl := next_trans bl bb
      replace bs := next_trans bs bb
      have zqv19 := bb.size
      clear bb
      clear oq0 oq1
      go_wp2_with fail
      refine hK.out _ _ ?_ (fun hHeld => ?_)
      ·exact ⟨(show v19.cell? ⟨w.heap.size, 0, none⟩ = some (.slice a0 n0 c0) from (rA0.next bl).cell 0), (show v19.cell? ⟨w.heap.size + 1, 0, none⟩ = some (.slice a1 n1 c1) from (rA1.next bl).cell 0)⟩
      clear hK K
      try simp only [Act.put, setIfInBounds_toArray, set_cons_zero, set_cons_succ, getElem_toArray, getElem_cons_zero, getElem_cons_succ]
      have cg : v19.cell? ⟨v15.heap.size, 0, none⟩ = some (.slice none 0 0) := rg.cell 0
      have fg : v19.frozen? ⟨v15.heap.size, 0, none⟩ = false := rg.free 0
      have hne0 : v15.heap.size ≠ w.heap.size := by omega
      have hne1 : v15.heap.size ≠ w.heap.size + 1 := by omega
      refine wpAnyH_ready (rs := [6]) (by kernel_rfl) (by simp) (AllReadyH.cons rfl (fun K hK => ?_) AllReadyH.nil)
      try simp only [Act.put, setIfInBounds_toArray, set_cons_zero, set_cons_succ, getElem_toArray, getElem_cons_zero, getElem_cons_succ]
      rw [if_pos (by rfl)]
      go_simp
      refine hK.out _ _ ?_ (fun hHeld => ?_)
      ·exact ⟨far_cell hne0 (show v19.cell? ⟨w.heap.size, 0, none⟩ = some (.slice a0 n0 c0) from (rA0.next bl).cell 0), far_cell hne1 (show v19.cell? ⟨w.heap.size + 1, 0, none⟩ = some (.slice a1 n1 c1) from (rA1.next bl).cell 0)⟩
      clear hK K
      try simp only [Act.put, setIfInBounds_toArray, set_cons_zero, set_cons_succ, getElem_toArray, getElem_cons_zero, getElem_cons_succ]
      refine wpAnyH_done (by kernel_rfl) ?_ _
      have F := boxed_put (W := w22.drew) o0 rg (by omega) bs hgB
      clear cg fg bl rg o0 bs hne0 hne1
      go_wp2_with fail
      go_meet
      exact F
    ·skip
     try simp only [Act.put, setIfInBounds_toArray, set_cons_zero, set_cons_succ, getElem_toArray, getElem_cons_zero, getElem_cons_succ]
     rw [if_pos (by rfl)]
     go_simp
     obtain ⟨v20, hw⟩ : ∃ W, W = (v14.alloc (.cells #[.slice none 0 0] 30)) := ⟨_, rfl⟩
     rw [← hw]
     have rg : Row v20 v14.heap.size 30 #[.slice none 0 0] := by rw [hw]; exact Row.new _ _ _
     have bb : Below v14.heap.size v14 v20 := by rw [hw]; exact (Below.refl _ _).alloc (Nat.le_refl _) _
     have ygg : v14.heap.size < v20.heap.size := rg.lt
     have hgB : w22.drew.heap.size ≤ v14.heap.size := bs.size
     clear hw
     replace oq0 := oq0.next bb
     replace bl := next_trans bl bb
     replace bs := next_trans bs bb
     have zqv20 := bb.size
     clear bb
     refine hK.out _ _ ?_ (fun hHeld => ?_)
     ·exact ⟨(show v20.cell? ⟨w.heap.size, 0, none⟩ = some (.slice a0 n0 c0) from (rA0.next bl).cell 0), (show v20.cell? ⟨w.heap.size + 1, 0, none⟩ = some (.slice a1 n1 c1) from (rA1.next bl).cell 0)⟩
     clear hK K
     try simp only [Act.put, setIfInBounds_toArray, set_cons_zero, set_cons_succ, getElem_toArray, getElem_cons_zero, getElem_cons_succ]
     refine wpAnyH_ready (rs := [3]) (by kernel_rfl) (by simp) (AllReadyH.cons rfl (fun K hK => ?_) AllReadyH.nil)
     try simp only [Act.put, setIfInBounds_toArray, set_cons_zero, set_cons_succ, getElem_toArray, getElem_cons_zero, getElem_cons_succ]
     rw [if_pos (by rfl)]
     go_simp
     refine (substTo _ _ _ xs1 _ (s1.next bl) h1.out).mono ?_
     rintro e v21 ⟨gq1, rfl, oq1, yq1, bb⟩
     replace oq0 := oq0.next bb
     replace rg := rg.next bb
     replace bl := next_trans bl bb
     replace bs := next_trans bs bb
     have zqv21 := bb.size
     clear bb
     go_wp2_with fail
     refine hK.out _ _ ?_ (fun hHeld => ?_)
     ·exact ⟨(show v21.cell? ⟨w.heap.size, 0, none⟩ = some (.slice a0 n0 c0) from (rA0.next bl).cell 0), (show v21.cell? ⟨w.heap.size + 1, 0, none⟩ = some (.slice a1 n1 c1) from (rA1.next bl).cell 0)⟩
     clear hK K
     try simp only [Act.put, setIfInBounds_toArray, set_cons_zero, set_cons_succ, getElem_toArray, getElem_cons_zero, getElem_cons_succ]
     refine wpAnyH_ready (rs := [4]) (by kernel_rfl) (by simp) (AllReadyH.cons rfl (fun K hK => ?_) AllReadyH.nil)
     try simp only [Act.put, setIfInBounds_toArray, set_cons_zero, set_cons_succ, getElem_toArray, getElem_cons_zero, getElem_cons_succ]
     rw [if_pos (by rfl)]
     go_simp
     refine (implPlainOf _ _ _ _ _ _ xs0 xs1 _ oq0.rd oq1.rd h0 h1.out).mono ?_
     rintro e v22 ⟨A0, m0, d0, he, o0, bb⟩
     subst he
     rw [HY.out] at o0
     replace oq0 := oq0.next bb
     replace rg := rg.next bb
     replace oq1 := oq1.next bb
     replace bl := next_trans bl bb
     replace bs := next_trans bs bb
     have zqv22 := bb.size
     clear bb
     clear oq0 oq1
     go_wp2_with fail
     refine hK.out _ _ ?_ (fun hHeld => ?_)
     ·exact ⟨(show v22.cell? ⟨w.heap.size, 0, none⟩ = some (.slice a0 n0 c0) from (rA0.next bl).cell 0), (show v22.cell? ⟨w.heap.size + 1, 0, none⟩ = some (.slice a1 n1 c1) from (rA1.next bl).cell 0)⟩
     clear hK K
     try simp only [Act.put, setIfInBounds_toArray, set_cons_zero, set_cons_succ, getElem_toArray, getElem_cons_zero, getElem_cons_succ]
     have cg : v22.cell? ⟨v14.heap.size, 0, none⟩ = some (.slice none 0 0) := rg.cell 0
     have fg : v22.frozen? ⟨v14.heap.size, 0, none⟩ = false := rg.free 0
     have hne0 : v14.heap.size ≠ w.heap.size := by omega
     have hne1 : v14.heap.size ≠ w.heap.size + 1 := by omega
     refine wpAnyH_ready (rs := [6]) (by kernel_rfl) (by simp) (AllReadyH.cons rfl (fun K hK => ?_) AllReadyH.nil)
     try simp only [Act.put, setIfInBounds_toArray, set_cons_zero, set_cons_succ, getElem_toArray, getElem_cons_zero, getElem_cons_succ]
     rw [if_pos (by rfl)]
     go_simp
     refine hK.out _ _ ?_ (fun hHeld => ?_)
     ·exact ⟨far_cell hne0 (show v22.cell? ⟨w.heap.size, 0, none⟩ = some (.slice a0 n0 c0) from (rA0.next bl).cell 0), far_cell hne1 (show v22.cell? ⟨w.heap.size + 1, 0, none⟩ = some (.slice a1 n1 c1) from (rA1.next bl).cell 0)⟩
     clear hK K
     try simp only [Act.put, setIfInBounds_toArray, set_cons_zero, set_cons_succ, getElem_toArray, getElem_cons_zero, getElem_cons_succ]
     refine wpAnyH_done (by kernel_rfl) ?_ _
     have F := boxed_put (W := w22.drew) o0 rg (by omega) bs hgB
     clear cg fg bl rg o0 bs hne0 hne1
     go_wp2_with fail
     go_meet
     exact F
   ·skip
    try simp only [Act.put, setIfInBounds_toArray, set_cons_zero, set_cons_succ, getElem_toArray, getElem_cons_zero, getElem_cons_succ]
    rw [if_pos (by rfl)]
    go_simp
    obtain ⟨v23, hw⟩ : ∃ W, W = (w22.alloc (.cells #[.slice none 0 0] 30)).drew := ⟨_, rfl⟩
    rw [← hw]
    have rg : Row v23 w22.heap.size 30 #[.slice none 0 0] := by rw [hw]; exact Row.new _ _ _
    have bb : Below w22.drew.heap.size w22.drew v23 := by rw [hw]; exact (Below.refl _ _).alloc (Nat.le_refl _) _
    have ygg : w22.heap.size < v23.heap.size := rg.lt
    have hgB : w22.drew.heap.size ≤ w22.heap.size := bs.size
    clear hw
    replace bl := next_trans bl bb
    replace bs := next_trans bs bb
    have zqv23 := bb.size
    clear bb
    refine hK.out _ _ ?_ (fun hHeld => ?_)
    ·exact ⟨(show v23.cell? ⟨w.heap.size, 0, none⟩ = some (.slice a0 n0 c0) from (rA0.next bl).cell 0), (show v23.cell? ⟨w.heap.size + 1, 0, none⟩ = some (.slice a1 n1 c1) from (rA1.next bl).cell 0)⟩
    clear hK K
    try simp only [Act.put, setIfInBounds_toArray, set_cons_zero, set_cons_succ, getElem_toArray, getElem_cons_zero, getElem_cons_succ]
    refine wpAnyH_ready (rs := [1]) (by kernel_rfl) (by simp) (AllReadyH.cons rfl (fun K hK => ?_) AllReadyH.nil)
    try simp only [Act.put, setIfInBounds_toArray, set_cons_zero, set_cons_succ, getElem_toArray, getElem_cons_zero, getElem_cons_succ]
    rw [if_pos (by rfl)]
    go_simp
    refine (sigTo _ _ _ xs0 _ (s0.next bl) h0).mono ?_
    rintro e v24 ⟨gq0, rfl, oq0, yq0, bb⟩
    replace rg := rg.next bb
    replace bl := next_trans bl bb
    replace bs := next_trans bs bb
    have zqv24 := bb.size
    clear bb
    go_wp2_with fail
    refine hK.out _ _ ?_ (fun hHeld => ?_)
    ·exact ⟨(show v24.cell? ⟨w.heap.size, 0, none⟩ = some (.slice a0 n0 c0) from (rA0.next bl).cell 0), (show v24.cell? ⟨w.heap.size + 1, 0, none⟩ = some (.slice a1 n1 c1) from (rA1.next bl).cell 0)⟩
    clear hK K
    try simp only [Act.put, setIfInBounds_toArray, set_cons_zero, set_cons_succ, getElem_toArray, getElem_cons_zero, getElem_cons_succ]
    refine wpAnyH_ready (rs := [3]) (by kernel_rfl) (by simp) (AllReadyH.cons rfl (fun K hK => ?_) AllReadyH.nil)
    try simp only [Act.put, setIfInBounds_toArray, set_cons_zero, set_cons_succ, getElem_toArray, getElem_cons_zero, getElem_cons_succ]
    rw [if_pos (by rfl)]
    go_simp
    refine (substTo _ _ _ xs1 _ (s1.next bl) h1.out).mono ?_
    rintro e v25 ⟨gq1, rfl, oq1, yq1, bb⟩
    replace rg := rg.next bb
    replace oq0 := oq0.next bb
    replace bl := next_trans bl bb
    replace bs := next_trans bs bb
    have zqv25 := bb.size
    clear bb
    go_wp2_with fail
    refine hK.out _ _ ?_ (fun hHeld => ?_)
    ·exact ⟨(show v25.cell? ⟨w.heap.size, 0, none⟩ = some (.slice a0 n0 c0) from (rA0.next bl).cell 0), (show v25.cell? ⟨w.heap.size + 1, 0, none⟩ = some (.slice a1 n1 c1) from (rA1.next bl).cell 0)⟩
    clear hK K
    try simp only [Act.put, setIfInBounds_toArray, set_cons_zero, set_cons_succ, getElem_toArray, getElem_cons_zero, getElem_cons_succ]
    refine wpAnyH_ready (rs := [4]) (by kernel_rfl) (by simp) (AllReadyH.cons rfl (fun K hK => ?_) AllReadyH.nil)
    try simp only [Act.put, setIfInBounds_toArray, set_cons_zero, set_cons_succ, getElem_toArray, getElem_cons_zero, getElem_cons_succ]
    rw [if_pos (by rfl)]
    go_simp
    refine (implPlainOf _ _ _ _ _ _ xs0 xs1 _ oq0.rd oq1.rd h0 h1.out).mono ?_
    rintro e v26 ⟨A0, m0, d0, he, o0, bb⟩
    subst he
    rw [HY.out] at o0
    replace rg := rg.next bb
    replace oq0 := oq0.next bb
    replace oq1 := oq1.next bb
    replace bl := next_trans bl bb
    replace bs := next_trans bs bb
    have zqv26 := bb.size
    clear bb
    clear oq0 oq1
    go_wp2_with fail
    refine hK.out _ _ ?_ (fun hHeld => ?_)
    ·exact ⟨(show v26.cell? ⟨w.heap.size, 0, none⟩ = some (.slice a0 n0 c0) from (rA0.next bl).cell 0), (show v26.cell? ⟨w.heap.size + 1, 0, none⟩ = some (.slice a1 n1 c1) from (rA1.next bl).cell 0)⟩
    clear hK K
    try simp only [Act.put, setIfInBounds_toArray, set_cons_zero, set_cons_succ, getElem_toArray, getElem_cons_zero, getElem_cons_succ]
    have cg : v26.cell? ⟨w22.heap.size, 0, none⟩ = some (.slice none 0 0) := rg.cell 0
    have fg : v26.frozen? ⟨w22.heap.size, 0, none⟩ = false := rg.free 0
    have hne0 : w22.heap.size ≠ w.heap.size := by omega
    have hne1 : w22.heap.size ≠ w.heap.size + 1 := by omega
    refine wpAnyH_ready (rs := [6]) (by kernel_rfl) (by simp) (AllReadyH.cons rfl (fun K hK => ?_) AllReadyH.nil)
    try simp only [Act.put, setIfInBounds_toArray, set_cons_zero, set_cons_succ, getElem_toArray, getElem_cons_zero, getElem_cons_succ]
    rw [if_pos (by rfl)]
    go_simp
    refine hK.out _ _ ?_ (fun hHeld => ?_)
    ·exact ⟨far_cell hne0 (show v26.cell? ⟨w.heap.size, 0, none⟩ = some (.slice a0 n0 c0) from (rA0.next bl).cell 0), far_cell hne1 (show v26.cell? ⟨w.heap.size + 1, 0, none⟩ = some (.slice a1 n1 c1) from (rA1.next bl).cell 0)⟩
    clear hK K
    try simp only [Act.put, setIfInBounds_toArray, set_cons_zero, set_cons_succ, getElem_toArray, getElem_cons_zero, getElem_cons_succ]
    refine wpAnyH_done (by kernel_rfl) ?_ _
    have F := boxed_put (W := w22.drew) o0 rg (by omega) bs hgB
    clear cg fg bl rg o0 bs hne0 hne1
    go_wp2_with fail
    go_meet
    exact F
  case rest =>
   rename World => w26
   obtain ⟨bh, Ah, mh, dh, rfl, rh, sh, bb⟩ := hcut
   replace rg := rg.next bb
   replace om := om.next bb
   replace bel := next_trans bel bb
   replace belw := next_trans belw bb
   have zw26 := bb.size
   clear bb
   have belh := Below.refl w26.heap.size w26
   have cA0 : w26.cell? ⟨w.heap.size, 0, none⟩ = some (.slice a0 n0 c0) := (rA0.next bel).cell 0
   have cA1 : w26.cell? ⟨w.heap.size + 1, 0, none⟩ = some (.slice a1 n1 c1) := (rA1.next bel).cell 0
   have cw : w26.cell? ⟨bw, 0, none⟩ = some (.slice Aw mw dw) := (rw.next belw).cell 0
   have cg : w26.cell? ⟨w11.heap.size, 0, none⟩ = some (.slice Ag mg dg) := (rg).cell 0
   have ch : w26.cell? ⟨bh, 0, none⟩ = some (.slice Ah mh dh) := (rh.next belh).cell 0
   go_wp2_with fail
   refine (substEq _ _ _ _ _ _ ys _ (sh.next belh) (sw.next belw) hlen.out).mono ?_
   rintro e w27 ⟨rfl, bb⟩
   replace rg := rg.next bb
   replace om := om.next bb
   replace bel := next_trans bel bb
   replace belw := next_trans belw bb
   replace belh := next_trans belh bb
   have zw27 := bb.size
   clear bb
   clear cA0 cA1 cw cg ch
   have cA0 : w27.cell? ⟨w.heap.size, 0, none⟩ = some (.slice a0 n0 c0) := (rA0.next bel).cell 0
   have cA1 : w27.cell? ⟨w.heap.size + 1, 0, none⟩ = some (.slice a1 n1 c1) := (rA1.next bel).cell 0
   have cw : w27.cell? ⟨bw, 0, none⟩ = some (.slice Aw mw dw) := (rw.next belw).cell 0
   have cg : w27.cell? ⟨w11.heap.size, 0, none⟩ = some (.slice Ag mg dg) := (rg).cell 0
   have ch : w27.cell? ⟨bh, 0, none⟩ = some (.slice Ah mh dh) := (rh.next belh).cell 0
   go_wp2_with fail
   refine (substHeld _ _ _ ys 1 _ om.rd hlen.out (by omega) (by omega)).mono ?_
   rintro e w28 ⟨he, bb⟩
   rw [HZg.out] at he
   subst he
   replace rg := rg.next bb
   replace om := om.next bb
   replace bel := next_trans bel bb
   replace belw := next_trans belw bb
   replace belh := next_trans belh bb
   have zw28 := bb.size
   clear bb
   clear cA0 cA1 cw cg ch
   have cA0 : w28.cell? ⟨w.heap.size, 0, none⟩ = some (.slice a0 n0 c0) := (rA0.next bel).cell 0
   have cA1 : w28.cell? ⟨w.heap.size + 1, 0, none⟩ = some (.slice a1 n1 c1) := (rA1.next bel).cell 0
   have cw : w28.cell? ⟨bw, 0, none⟩ = some (.slice Aw mw dw) := (rw.next belw).cell 0
   have cg : w28.cell? ⟨w11.heap.size, 0, none⟩ = some (.slice Ag mg dg) := (rg).cell 0
   have ch : w28.cell? ⟨bh, 0, none⟩ = some (.slice Ah mh dh) := (rh.next belh).cell 0
   have F := hid (bW.trans (bel.mono bW.size))
   clear bel belw belh rg om bW cA0 cA1 cw cg ch
   go_wp2
   go_ret
   exact ⟨rfl, F.out⟩
end wPlainOf
end
end Go.Proofs.Ytghgnondlgdjdaa
