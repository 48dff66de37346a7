/-
  MERGED: my texts WComposed, one behind the other, as they are. By an AI agent.
-/
import Derived.Test.YtghgnondlgdjdaaMFnExactComposed3
import Derived.Deep.RegionHeld3
import Derived.Deep.DeepCutAuto
namespace Go.Proofs.Ytghgnondlgdjdaa
section
open Go.Lib (hid)
open List (setIfInBounds_toArray set_cons_zero set_cons_succ getElem_toArray getElem_cons_zero getElem_cons_succ)
namespace wComposed
open Go.RowKit base ints sig cursor marks app sym appAt segs segsHelp segsMark kinds term termOk varsOf substOk gives plain plainOf compMath compSpec compImpl
set_option maxRecDepth 100000
def Boxed (W : World) (F : List (List Int)) (p : Value) (wx : World) : Prop := ∃ b A n c, p = .pointer (some ⟨b, 0, none⟩) ∧ Row wx b 30 #[.slice A n c] ∧ Segs wx wx.heap.size A n F ∧ Below W.heap.size W wx
theorem boxed_put {W w : World} {F : List (List Int)} {A : Option Addr} {n c g lo hi : Nat} (h : Owns w lo hi A n c F) (hr : Row w g 30 #[.slice none 0 0]) (hg : g < lo ∨ hi ≤ g) (hb : Below W.heap.size W w) (hB : W.heap.size ≤ g) :
  Boxed W F (.pointer (some ⟨g, 0, none⟩)) (w.setCell ⟨g, 0, none⟩ (.slice A n c)) := by
 have h1 : Btw g (g + 1) w (w.setCell ⟨g, 0, none⟩ (.slice A n c)) := Btw.of_grown (grown_put (World.grownBy.refl _ _) _ _) (fun k hk => by injection hk; omega)
 exact ⟨g, A, n, c, rfl, hr.put 0 _, (h.btw h1 (by omega)).rd, hb.setCell hB _⟩
theorem far_cell {w : World} {p a : Addr} {u v : Value} (hne : p.block ≠ a.block) (h : w.cell? a = some v) : (w.setCell p u).cell? a = some v := (World.cell?_setCell_far w p a u hne).trans h
set_option maxHeartbeats 8000000 in
theorem law (a0 : Option Addr) (n0 c0 : Nat) (xs0 : List Int) (a1 : Option Addr) (n1 c1 : Nat) (xs1 : List (List Int)) (a2 : Option Addr) (n2 c2 : Nat) (xs2 : List (List Int)) (w : World) (s0 : Seg w w.heap.size a0 n0 xs0) (hN0 : n0 ≤ 9223372036854775807) (s1 : Segs w w.heap.size a1 n1 xs1) (hN1 : n1 ≤ 9223372036854775807) (s2 : Segs w w.heap.size a2 n2 xs2) (hN2 : n2 ≤ 9223372036854775807) :
  Calls Try.prog 4 #[.agg #[.slice a0 n0 c0], .agg #[.slice a1 n1 c1], .agg #[.slice a2 n2 c2]] w (Fine w) := by
 obtain ⟨W, hW⟩ : ∃ W, W = ((w.alloc (.cells #[.slice a0 n0 c0] 24)).alloc (.cells #[.slice a1 n1 c1] 27)).alloc (.cells #[.slice a2 n2 c2] 27) := ⟨_, rfl⟩
 have rA0 : Row W (w.heap.size) 24 #[.slice a0 n0 c0] := by rw [hW]; have := ((Row.new (w) 24 #[.slice a0 n0 c0]).alloc (.cells #[.slice a1 n1 c1] 27)).alloc (.cells #[.slice a2 n2 c2] 27); simpa using this
 have rA1 : Row W (w.heap.size + 1) 27 #[.slice a1 n1 c1] := by rw [hW]; have := (Row.new (w.alloc (.cells #[.slice a0 n0 c0] 24)) 27 #[.slice a1 n1 c1]).alloc (.cells #[.slice a2 n2 c2] 27); simpa using this
 have rA2 : Row W (w.heap.size + 1 + 1) 27 #[.slice a2 n2 c2] := by rw [hW]; have := Row.new ((w.alloc (.cells #[.slice a0 n0 c0] 24)).alloc (.cells #[.slice a1 n1 c1] 27)) 27 #[.slice a2 n2 c2]; simpa using this
 have bW : Below w.heap.size w W := by rw [hW]; exact (((Below.refl w.heap.size w).alloc (by simp) (.cells #[.slice a0 n0 c0] 24)).alloc (by simp) (.cells #[.slice a1 n1 c1] 27)).alloc (by simp; omega) (.cells #[.slice a2 n2 c2] 27)
 have zA0 := rA0.lt
 have zA1 := rA1.lt
 have zA2 := rA2.lt
 replace s0 := s0.next bW
 have Hl0 := hid s0.1
 replace s1 := s1.next bW
 have Hl1 := hid s1.1
 replace s2 := s2.next bW
 have Hl2 := hid s2.1
 have HW := hid hW
 clear hW
 obtain ⟨t1, ht1⟩ : ∃ z, tot xs1 = z := ⟨_, rfl⟩
 have HT1 := hid ht1
 clear ht1
 obtain ⟨t2, ht2⟩ : ∃ z, tot xs2 = z := ⟨_, rfl⟩
 have HT2 := hid ht2
 clear ht2
 obtain ⟨v, hv⟩ : ∃ v, composedB xs0 xs1 xs2 = v := ⟨_, rfl⟩
 have HV := hid hv
 clear hv
 have ev : (v != v) = false := by simp
 go_enter Try.func4, Try.ntmps4
 go_wp2_with fail
 rw [← HW.out]
 clear HW
 have bel := Below.refl W.heap.size W
 have cA0 : W.cell? ⟨w.heap.size, 0, none⟩ = some (.slice a0 n0 c0) := (rA0.next bel).cell 0
 have cA1 : W.cell? ⟨w.heap.size + 1, 0, none⟩ = some (.slice a1 n1 c1) := (rA1.next bel).cell 0
 have cA2 : W.cell? ⟨w.heap.size + 1 + 1, 0, none⟩ = some (.slice a2 n2 c2) := (rA2.next bel).cell 0
 refine (szSig _ _ _ (1048576) _ hN0 (by omega) (by omega)).mono ?_
 rintro e w1 ⟨he, bb⟩
 replace bel := next_trans bel bb
 have zw1 := bb.size
 clear bb
 by_cases q0 : n0 ≤ 1048576
 case neg =>
  rw [if_pos (by omega)] at he
  subst he
  have F := hid (bW.trans (bel.mono bW.size))
  clear bel bW cA0 cA1 cA2
  go_wp2
  go_ret
  exact ⟨rfl, F.out⟩
 rw [if_neg (by omega)] at he
 subst he
 have h0 : n0 ≤ 1048576 := by omega
 clear cA0 cA1 cA2
 have cA0 : w1.cell? ⟨w.heap.size, 0, none⟩ = some (.slice a0 n0 c0) := (rA0.next bel).cell 0
 have cA1 : w1.cell? ⟨w.heap.size + 1, 0, none⟩ = some (.slice a1 n1 c1) := (rA1.next bel).cell 0
 have cA2 : w1.cell? ⟨w.heap.size + 1 + 1, 0, none⟩ = some (.slice a2 n2 c2) := (rA2.next bel).cell 0
 go_wp2_with fail
 refine (substSz _ _ _ xs1 (1048576 - (n0 : Int)) _ (s1.next bel) hN1 (by omega) (by omega)).mono ?_
 rintro e w2 ⟨he, bb⟩
 rw [HT1.out] at he
 replace bel := next_trans bel bb
 have zw2 := bb.size
 clear bb
 by_cases q1 : n0 + t1 ≤ 1048576
 case neg =>
  rw [if_pos (by omega)] at he
  subst he
  have F := hid (bW.trans (bel.mono bW.size))
  clear bel bW cA0 cA1 cA2
  go_wp2
  go_ret
  exact ⟨rfl, F.out⟩
 rw [if_neg (by omega)] at he
 subst he
 have h1 : tot xs1 ≤ 1048576 := by rw [HT1.out]; omega
 replace h1 := hid h1
 have hn1 : n1 ≤ 1048576 := tot_len Hl1.out h1.out
 have hm1 : sumL xs1 n1 ≤ 1048576 := by have q := h1.out; unfold tot at q; rw [Hl1.out] at q; omega
 obtain ⟨z1, hz1⟩ : ∃ z, sumL xs1 n1 = z := ⟨_, rfl⟩
 rw [hz1] at hm1
 have HZ1 := hid hz1
 clear hz1
 clear cA0 cA1 cA2
 have cA0 : w2.cell? ⟨w.heap.size, 0, none⟩ = some (.slice a0 n0 c0) := (rA0.next bel).cell 0
 have cA1 : w2.cell? ⟨w.heap.size + 1, 0, none⟩ = some (.slice a1 n1 c1) := (rA1.next bel).cell 0
 have cA2 : w2.cell? ⟨w.heap.size + 1 + 1, 0, none⟩ = some (.slice a2 n2 c2) := (rA2.next bel).cell 0
 go_wp2_with fail
 refine (substSz _ _ _ xs2 (1048576 - (n0 : Int) - (t1 : Int)) _ (s2.next bel) hN2 (by omega) (by omega)).mono ?_
 rintro e w3 ⟨he, bb⟩
 rw [HT2.out] at he
 replace bel := next_trans bel bb
 have zw3 := bb.size
 clear bb
 by_cases q2 : n0 + t1 + t2 ≤ 1048576
 case neg =>
  rw [if_pos (by omega)] at he
  subst he
  have F := hid (bW.trans (bel.mono bW.size))
  clear bel bW cA0 cA1 cA2
  go_wp2
  go_ret
  exact ⟨rfl, F.out⟩
 rw [if_neg (by omega)] at he
 subst he
 have h2 : tot xs2 ≤ 1048576 := by rw [HT2.out]; omega
 replace h2 := hid h2
 have hn2 : n2 ≤ 1048576 := tot_len Hl2.out h2.out
 have hm2 : sumL xs2 n2 ≤ 1048576 := by have q := h2.out; unfold tot at q; rw [Hl2.out] at q; omega
 obtain ⟨z2, hz2⟩ : ∃ z, sumL xs2 n2 = z := ⟨_, rfl⟩
 rw [hz2] at hm2
 have HZ2 := hid hz2
 clear hz2
 clear cA0 cA1 cA2
 have cA0 : w3.cell? ⟨w.heap.size, 0, none⟩ = some (.slice a0 n0 c0) := (rA0.next bel).cell 0
 have cA1 : w3.cell? ⟨w.heap.size + 1, 0, none⟩ = some (.slice a1 n1 c1) := (rA1.next bel).cell 0
 have cA2 : w3.cell? ⟨w.heap.size + 1 + 1, 0, none⟩ = some (.slice a2 n2 c2) := (rA2.next bel).cell 0
 have hlen : tot (composedI xs0 xs1 xs2) ≤ 1048576 := composed_tot
 obtain ⟨ys, hys⟩ : ∃ ys, composedI xs0 xs1 xs2 = ys := ⟨_, rfl⟩
 rw [hys] at hlen
 have HY := hid hys
 clear hys
 replace hlen := hid hlen
 go_upto_region 11 with (fail)
 replace bel := bel.drew
 have zdw3 := (drew_below w3).size
 go_cut [8, 9] (fun s8 s9 wx => Boxed (w3.drew) ys s8 wx ∧ s9 = .bool v)
 case first =>
  have bs := Below.refl (w3.drew).heap.size (w3.drew)
  have bl := bel
  have zst := bl.size
  have c0S := hid (show w3.drew.cell? ⟨w.heap.size, 0, none⟩ = some (.slice a0 n0 c0) ∧ w3.drew.cell? ⟨w.heap.size + 1, 0, none⟩ = some (.slice a1 n1 c1) ∧ w3.drew.cell? ⟨w.heap.size + 1 + 1, 0, none⟩ = some (.slice a2 n2 c2) from ⟨(show w3.drew.cell? ⟨w.heap.size, 0, none⟩ = some (.slice a0 n0 c0) from (rA0.next bl).cell 0), (show w3.drew.cell? ⟨w.heap.size + 1, 0, none⟩ = some (.slice a1 n1 c1) from (rA1.next bl).cell 0), (show w3.drew.cell? ⟨w.heap.size + 1 + 1, 0, none⟩ = some (.slice a2 n2 c2) from (rA2.next bl).cell 0)⟩)
  clear bel cA0 cA1 cA2
  refine wp_region_held_drew (S := fun w' => w'.cell? ⟨w.heap.size, 0, none⟩ = some (.slice a0 n0 c0) ∧ w'.cell? ⟨w.heap.size + 1, 0, none⟩ = some (.slice a1 n1 c1) ∧ w'.cell? ⟨w.heap.size + 1 + 1, 0, none⟩ = some (.slice a2 n2 c2)) (by kernel_rfl) c0S.out (fun hHeld => ?_)
  refine wpAnyH_take (i := 0) (v := ?_) rfl (by kernel_rfl) (by kernel_rfl) (by kernel_rfl) (fun _ _ _ h => h) (Or.inl ⟨by rfl, ?_⟩) (by assumption) ?_
  rotate_left 1
  ·(intro w0 hSw; (try dsimp only at hSw); go_simp; try with_reducible rfl)
  try simp only [Act.put, setIfInBounds_toArray, set_cons_zero, set_cons_succ, getElem_toArray, getElem_cons_zero, getElem_cons_succ]
  refine wpAnyH_take (i := 2) (v := ?_) rfl (by kernel_rfl) (by kernel_rfl) (by kernel_rfl) (fun _ _ _ h => h) (Or.inl ⟨by rfl, ?_⟩) (by assumption) ?_
  rotate_left 1
  ·(intro w0 hSw; (try dsimp only at hSw); go_simp; try with_reducible rfl)
  try simp only [Act.put, setIfInBounds_toArray, set_cons_zero, set_cons_succ, getElem_toArray, getElem_cons_zero, getElem_cons_succ]
  refine wpAnyH_take (i := 4) (v := ?_) rfl (by kernel_rfl) (by kernel_rfl) (by kernel_rfl) (fun _ _ _ h => h) (Or.inl ⟨by rfl, ?_⟩) (by assumption) ?_
  rotate_left 1
  ·(intro w0 hSw; (try dsimp only at hSw); go_simp; try with_reducible rfl)
  try simp only [Act.put, setIfInBounds_toArray, set_cons_zero, set_cons_succ, getElem_toArray, getElem_cons_zero, getElem_cons_succ]
  refine wpAnyH_ready (rs := [1, 10]) (by kernel_rfl) (by simp) (AllReadyH.cons rfl (fun K hK => ?_) (AllReadyH.cons rfl (fun K hK => ?_) AllReadyH.nil))
  ·skip
   try simp only [Act.put, setIfInBounds_toArray, set_cons_zero, set_cons_succ, getElem_toArray, getElem_cons_zero, getElem_cons_succ]
   rw [if_pos (by rfl)]
   go_simp
   refine (sigTo _ _ _ xs0 _ (s0.next bl) h0).mono ?_
   rintro e v1 ⟨gq0, rfl, oq0, yq0, bb⟩
   replace bl := next_trans bl bb
   replace bs := next_trans bs bb
   have zqv1 := bb.size
   clear bb
   go_wp2_with fail
   refine hK.out _ _ ?_ (fun hHeld => ?_)
   ·exact ⟨(show v1.cell? ⟨w.heap.size, 0, none⟩ = some (.slice a0 n0 c0) from (rA0.next bl).cell 0), (show v1.cell? ⟨w.heap.size + 1, 0, none⟩ = some (.slice a1 n1 c1) from (rA1.next bl).cell 0), (show v1.cell? ⟨w.heap.size + 1 + 1, 0, none⟩ = some (.slice a2 n2 c2) from (rA2.next bl).cell 0)⟩
   clear hK K
   try simp only [Act.put, setIfInBounds_toArray, set_cons_zero, set_cons_succ, getElem_toArray, getElem_cons_zero, getElem_cons_succ]
   refine wpAnyH_ready (rs := [3, 10]) (by kernel_rfl) (by simp) (AllReadyH.cons rfl (fun K hK => ?_) (AllReadyH.cons rfl (fun K hK => ?_) AllReadyH.nil))
   ·skip
    try simp only [Act.put, setIfInBounds_toArray, set_cons_zero, set_cons_succ, getElem_toArray, getElem_cons_zero, getElem_cons_succ]
    rw [if_pos (by rfl)]
    go_simp
    refine (substTo _ _ _ xs1 _ (s1.next bl) h1.out).mono ?_
    rintro e v2 ⟨gq1, rfl, oq1, yq1, bb⟩
    replace oq0 := oq0.next bb
    replace bl := next_trans bl bb
    replace bs := next_trans bs bb
    have zqv2 := bb.size
    clear bb
    go_wp2_with fail
    refine hK.out _ _ ?_ (fun hHeld => ?_)
    ·exact ⟨(show v2.cell? ⟨w.heap.size, 0, none⟩ = some (.slice a0 n0 c0) from (rA0.next bl).cell 0), (show v2.cell? ⟨w.heap.size + 1, 0, none⟩ = some (.slice a1 n1 c1) from (rA1.next bl).cell 0), (show v2.cell? ⟨w.heap.size + 1 + 1, 0, none⟩ = some (.slice a2 n2 c2) from (rA2.next bl).cell 0)⟩
    clear hK K
    try simp only [Act.put, setIfInBounds_toArray, set_cons_zero, set_cons_succ, getElem_toArray, getElem_cons_zero, getElem_cons_succ]
    refine wpAnyH_ready (rs := [5, 10]) (by kernel_rfl) (by simp) (AllReadyH.cons rfl (fun K hK => ?_) (AllReadyH.cons rfl (fun K hK => ?_) AllReadyH.nil))
    ·skip
     try simp only [Act.put, setIfInBounds_toArray, set_cons_zero, set_cons_succ, getElem_toArray, getElem_cons_zero, getElem_cons_succ]
     rw [if_pos (by rfl)]
     go_simp
     refine (substTo _ _ _ xs2 _ (s2.next bl) h2.out).mono ?_
     rintro e v3 ⟨gq2, rfl, oq2, yq2, bb⟩
     replace oq0 := oq0.next bb
     replace oq1 := oq1.next bb
     replace bl := next_trans bl bb
     replace bs := next_trans bs bb
     have zqv3 := bb.size
     clear bb
     go_wp2_with fail
     refine hK.out _ _ ?_ (fun hHeld => ?_)
     ·exact ⟨(show v3.cell? ⟨w.heap.size, 0, none⟩ = some (.slice a0 n0 c0) from (rA0.next bl).cell 0), (show v3.cell? ⟨w.heap.size + 1, 0, none⟩ = some (.slice a1 n1 c1) from (rA1.next bl).cell 0), (show v3.cell? ⟨w.heap.size + 1 + 1, 0, none⟩ = some (.slice a2 n2 c2) from (rA2.next bl).cell 0)⟩
     clear hK K
     try simp only [Act.put, setIfInBounds_toArray, set_cons_zero, set_cons_succ, getElem_toArray, getElem_cons_zero, getElem_cons_succ]
     refine wpAnyH_ready (rs := [6, 10]) (by kernel_rfl) (by simp) (AllReadyH.cons rfl (fun K hK => ?_) (AllReadyH.cons rfl (fun K hK => ?_) AllReadyH.nil))
     ·skip
      try simp only [Act.put, setIfInBounds_toArray, set_cons_zero, set_cons_succ, getElem_toArray, getElem_cons_zero, getElem_cons_succ]
      rw [if_pos (by rfl)]
      go_simp
      refine (specComposed _ _ _ _ _ _ _ _ _ xs0 xs1 xs2 _ oq0.rd oq1.rd oq2.rd h0 h1.out h2.out).mono ?_
      rintro e v4 ⟨A0, m0, d0, he, o0, bb⟩
      rw [HV.out] at he
      subst he
      rw [HY.out] at o0
      replace oq0 := oq0.next bb
      replace oq1 := oq1.next bb
      replace oq2 := oq2.next bb
      replace bl := next_trans bl bb
      replace bs := next_trans bs bb
      have zqv4 := bb.size
      clear bb
      clear oq0 oq1 oq2
      go_wp2_with fail
      refine hK.out _ _ ?_ (fun hHeld => ?_)
      ·exact ⟨(show v4.cell? ⟨w.heap.size, 0, none⟩ = some (.slice a0 n0 c0) from (rA0.next bl).cell 0), (show v4.cell? ⟨w.heap.size + 1, 0, none⟩ = some (.slice a1 n1 c1) from (rA1.next bl).cell 0), (show v4.cell? ⟨w.heap.size + 1 + 1, 0, none⟩ = some (.slice a2 n2 c2) from (rA2.next bl).cell 0)⟩
      clear hK K
      try simp only [Act.put, setIfInBounds_toArray, set_cons_zero, set_cons_succ, getElem_toArray, getElem_cons_zero, getElem_cons_succ]
      refine wpAnyH_take (i := 7) (v := ?_) rfl (by kernel_rfl) (by kernel_rfl) (by kernel_rfl) (fun _ _ _ h => h) (Or.inl ⟨by rfl, ?_⟩) (by assumption) ?_
      rotate_left 1
      ·(intro w0 hSw; (try dsimp only at hSw); go_simp; try with_reducible rfl)
      try simp only [Act.put, setIfInBounds_toArray, set_cons_zero, set_cons_succ, getElem_toArray, getElem_cons_zero, getElem_cons_succ]
      refine wpAnyH_take (i := 8) (v := ?_) rfl (by kernel_rfl) (by kernel_rfl) (by kernel_rfl) (fun _ _ _ h => h) (Or.inl ⟨by rfl, ?_⟩) (by assumption) ?_
      rotate_left 1
      ·(intro w0 hSw; (try dsimp only at hSw); go_simp; try with_reducible rfl)
      try simp only [Act.put, setIfInBounds_toArray, set_cons_zero, set_cons_succ, getElem_toArray, getElem_cons_zero, getElem_cons_succ]
      refine wpAnyH_take (i := 9) (v := ?_) rfl (by kernel_rfl) (by kernel_rfl) (by kernel_rfl) (fun _ _ _ h => h) (Or.inl ⟨by rfl, ?_⟩) (by assumption) ?_
      rotate_left 1
      ·(intro w0 hSw; (try dsimp only at hSw); go_simp; try with_reducible rfl)
      try simp only [Act.put, setIfInBounds_toArray, set_cons_zero, set_cons_succ, getElem_toArray, getElem_cons_zero, getElem_cons_succ]
      refine wpAnyH_ready (rs := [10]) (by kernel_rfl) (by simp) (AllReadyH.cons rfl (fun K hK => ?_) AllReadyH.nil)
      try simp only [Act.put, setIfInBounds_toArray, set_cons_zero, set_cons_succ, getElem_toArray, getElem_cons_zero, getElem_cons_succ]
      rw [if_pos (by rfl)]
      go_simp
      obtain ⟨v5, hw⟩ : ∃ W, W = (v4.alloc (.cells #[.slice none 0 0] 30)) := ⟨_, rfl⟩
      rw [← hw]
      have rg : Row v5 v4.heap.size 30 #[.slice none 0 0] := by rw [hw]; exact Row.new _ _ _
      have bb : Below v4.heap.size v4 v5 := by rw [hw]; exact (Below.refl _ _).alloc (Nat.le_refl _) _
      have ygg : v4.heap.size < v5.heap.size := rg.lt
      have hgB : w3.drew.heap.size ≤ v4.heap.size := bs.size
      clear hw
      replace o0 := o0.next bb
      replace bl := next_trans bl bb
      replace bs := next_trans bs bb
      have zqv5 := bb.size
      clear bb
      refine hK.out _ _ ?_ (fun hHeld => ?_)
      ·exact ⟨(show v5.cell? ⟨w.heap.size, 0, none⟩ = some (.slice a0 n0 c0) from (rA0.next bl).cell 0), (show v5.cell? ⟨w.heap.size + 1, 0, none⟩ = some (.slice a1 n1 c1) from (rA1.next bl).cell 0), (show v5.cell? ⟨w.heap.size + 1 + 1, 0, none⟩ = some (.slice a2 n2 c2) from (rA2.next bl).cell 0)⟩
      clear hK K
      try simp only [Act.put, setIfInBounds_toArray, set_cons_zero, set_cons_succ, getElem_toArray, getElem_cons_zero, getElem_cons_succ]
      have cg : v5.cell? ⟨v4.heap.size, 0, none⟩ = some (.slice none 0 0) := rg.cell 0
      have fg : v5.frozen? ⟨v4.heap.size, 0, none⟩ = false := rg.free 0
      have hne0 : v4.heap.size ≠ w.heap.size := by omega
      have hne1 : v4.heap.size ≠ w.heap.size + 1 := by omega
      have hne2 : v4.heap.size ≠ w.heap.size + 1 + 1 := by omega
      refine wpAnyH_ready (rs := [11]) (by kernel_rfl) (by simp) (AllReadyH.cons rfl (fun K hK => ?_) AllReadyH.nil)
      try simp only [Act.put, setIfInBounds_toArray, set_cons_zero, set_cons_succ, getElem_toArray, getElem_cons_zero, getElem_cons_succ]
      rw [if_pos (by rfl)]
      go_simp
      refine hK.out _ _ ?_ (fun hHeld => ?_)
      ·exact ⟨far_cell hne0 (show v5.cell? ⟨w.heap.size, 0, none⟩ = some (.slice a0 n0 c0) from (rA0.next bl).cell 0), far_cell hne1 (show v5.cell? ⟨w.heap.size + 1, 0, none⟩ = some (.slice a1 n1 c1) from (rA1.next bl).cell 0), far_cell hne2 (show v5.cell? ⟨w.heap.size + 1 + 1, 0, none⟩ = some (.slice a2 n2 c2) from (rA2.next bl).cell 0)⟩
      clear hK K
      try simp only [Act.put, setIfInBounds_toArray, set_cons_zero, set_cons_succ, getElem_toArray, getElem_cons_zero, getElem_cons_succ]
      refine wpAnyH_take (i := 12) (v := ?_) rfl (by kernel_rfl) (by kernel_rfl) (by kernel_rfl) (fun _ _ _ h => h) (Or.inl ⟨by rfl, ?_⟩) (by assumption) ?_
      rotate_left 1
      ·(intro w0 hSw; (try dsimp only at hSw); go_simp; try with_reducible rfl)
      try simp only [Act.put, setIfInBounds_toArray, set_cons_zero, set_cons_succ, getElem_toArray, getElem_cons_zero, getElem_cons_succ]
      refine wpAnyH_done (by kernel_rfl) ?_ _
      have F := boxed_put (W := w3.drew) o0 rg (by omega) bs hgB
      clear cg fg bl rg o0 bs hne0 hne1 hne2
      go_wp2_with fail
      go_meet
      exact ⟨F, rfl⟩
     ·skip
      try simp only [Act.put, setIfInBounds_toArray, set_cons_zero, set_cons_succ, getElem_toArray, getElem_cons_zero, getElem_cons_succ]
      rw [if_pos (by rfl)]
      go_simp
      obtain ⟨v6, hw⟩ : ∃ W, W = (v3.alloc (.cells #[.slice none 0 0] 30)) := ⟨_, rfl⟩
      rw [← hw]
      have rg : Row v6 v3.heap.size 30 #[.slice none 0 0] := by rw [hw]; exact Row.new _ _ _
      have bb : Below v3.heap.size v3 v6 := by rw [hw]; exact (Below.refl _ _).alloc (Nat.le_refl _) _
      have ygg : v3.heap.size < v6.heap.size := rg.lt
      have hgB : w3.drew.heap.size ≤ v3.heap.size := bs.size
      clear hw
      replace oq0 := oq0.next bb
      replace oq1 := oq1.next bb
      replace oq2 := oq2.next bb
      replace bl := next_trans bl bb
      replace bs := next_trans bs bb
      have zqv6 := bb.size
      clear bb
      refine hK.out _ _ ?_ (fun hHeld => ?_)
      ·exact ⟨(show v6.cell? ⟨w.heap.size, 0, none⟩ = some (.slice a0 n0 c0) from (rA0.next bl).cell 0), (show v6.cell? ⟨w.heap.size + 1, 0, none⟩ = some (.slice a1 n1 c1) from (rA1.next bl).cell 0), (show v6.cell? ⟨w.heap.size + 1 + 1, 0, none⟩ = some (.slice a2 n2 c2) from (rA2.next bl).cell 0)⟩
      clear hK K
      try simp only [Act.put, setIfInBounds_toArray, set_cons_zero, set_cons_succ, getElem_toArray, getElem_cons_zero, getElem_cons_succ]
      refine wpAnyH_ready (rs := [6]) (by kernel_rfl) (by simp) (AllReadyH.cons rfl (fun K hK => ?_) AllReadyH.nil)
      try simp only [Act.put, setIfInBounds_toArray, set_cons_zero, set_cons_succ, getElem_toArray, getElem_cons_zero, getElem_cons_succ]
      rw [if_pos (by rfl)]
      go_simp
      refine (specComposed _ _ _ _ _ _ _ _ _ xs0 xs1 xs2 _ oq0.rd oq1.rd oq2.rd h0 h1.out h2.out).mono ?_
      rintro e v7 ⟨A0, m0, d0, he, o0, bb⟩
      rw [HV.out] at he
      subst he
      rw [HY.out] at o0
      replace oq0 := oq0.next bb
      replace oq1 := oq1.next bb
      replace oq2 := oq2.next bb
      replace rg := rg.next bb
      replace bl := next_trans bl bb
      replace bs := next_trans bs bb
      have zqv7 := bb.size
      clear bb
      clear oq0 oq1 oq2
      go_wp2_with fail
      refine hK.out _ _ ?_ (fun hHeld => ?_)
      ·exact ⟨(show v7.cell? ⟨w.heap.size, 0, none⟩ = some (.slice a0 n0 c0) from (rA0.next bl).cell 0), (show v7.cell? ⟨w.heap.size + 1, 0, none⟩ = some (.slice a1 n1 c1) from (rA1.next bl).cell 0), (show v7.cell? ⟨w.heap.size + 1 + 1, 0, none⟩ = some (.slice a2 n2 c2) from (rA2.next bl).cell 0)⟩
      clear hK K
      try simp only [Act.put, setIfInBounds_toArray, set_cons_zero, set_cons_succ, getElem_toArray, getElem_cons_zero, getElem_cons_succ]
      refine wpAnyH_take (i := 7) (v := ?_) rfl (by kernel_rfl) (by kernel_rfl) (by kernel_rfl) (fun _ _ _ h => h) (Or.inl ⟨by rfl, ?_⟩) (by assumption) ?_
      rotate_left 1
      ·(intro w0 hSw; (try dsimp only at hSw); go_simp; try with_reducible rfl)
      try simp only [Act.put, setIfInBounds_toArray, set_cons_zero, set_cons_succ, getElem_toArray, getElem_cons_zero, getElem_cons_succ]
      refine wpAnyH_take (i := 8) (v := ?_) rfl (by kernel_rfl) (by kernel_rfl) (by kernel_rfl) (fun _ _ _ h => h) (Or.inl ⟨by rfl, ?_⟩) (by assumption) ?_
      rotate_left 1
      ·(intro w0 hSw; (try dsimp only at hSw); go_simp; try with_reducible rfl)
      try simp only [Act.put, setIfInBounds_toArray, set_cons_zero, set_cons_succ, getElem_toArray, getElem_cons_zero, getElem_cons_succ]
      refine wpAnyH_take (i := 9) (v := ?_) rfl (by kernel_rfl) (by kernel_rfl) (by kernel_rfl) (fun _ _ _ h => h) (Or.inl ⟨by rfl, ?_⟩) (by assumption) ?_
      rotate_left 1
      ·(intro w0 hSw; (try dsimp only at hSw); go_simp; try with_reducible rfl)
      try simp only [Act.put, setIfInBounds_toArray, set_cons_zero, set_cons_succ, getElem_toArray, getElem_cons_zero, getElem_cons_succ]
      have cg : v7.cell? ⟨v3.heap.size, 0, none⟩ = some (.slice none 0 0) := rg.cell 0
      have fg : v7.frozen? ⟨v3.heap.size, 0, none⟩ = false := rg.free 0
      have hne0 : v3.heap.size ≠ w.heap.size := by omega
      have hne1 : v3.heap.size ≠ w.heap.size + 1 := by omega
      have hne2 : v3.heap.size ≠ w.heap.size + 1 + 1 := by omega
      refine wpAnyH_ready (rs := [11]) (by kernel_rfl) (by simp) (AllReadyH.cons rfl (fun K hK => ?_) AllReadyH.nil)
      try simp only [Act.put, setIfInBounds_toArray, set_cons_zero, set_cons_succ, getElem_toArray, getElem_cons_zero, getElem_cons_succ]
      rw [if_pos (by rfl)]
      go_simp
      refine hK.out _ _ ?_ (fun hHeld => ?_)
      ·exact ⟨far_cell hne0 (show v7.cell? ⟨w.heap.size, 0, none⟩ = some (.slice a0 n0 c0) from (rA0.next bl).cell 0), far_cell hne1 (show v7.cell? ⟨w.heap.size + 1, 0, none⟩ = some (.slice a1 n1 c1) from (rA1.next bl).cell 0), far_cell hne2 (show v7.cell? ⟨w.heap.size + 1 + 1, 0, none⟩ = some (.slice a2 n2 c2) from (rA2.next bl).cell 0)⟩
      clear hK K
      try simp only [Act.put, setIfInBounds_toArray, set_cons_zero, set_cons_succ, getElem_toArray, getElem_cons_zero, getElem_cons_succ]
      refine wpAnyH_take (i := 12) (v := ?_) rfl (by kernel_rfl) (by kernel_rfl) (by kernel_rfl) (fun _ _ _ h => h) (Or.inl ⟨by rfl, ?_⟩) (by assumption) ?_
      rotate_left 1
      ·(intro w0 hSw; (try dsimp only at hSw); go_simp; try with_reducible rfl)
      try simp only [Act.put, setIfInBounds_toArray, set_cons_zero, set_cons_succ, getElem_toArray, getElem_cons_zero, getElem_cons_succ]
      refine wpAnyH_done (by kernel_rfl) ?_ _
      have F := boxed_put (W := w3.drew) o0 rg (by omega) bs hgB
      clear cg fg bl rg o0 bs hne0 hne1 hne2
      go_wp2_with fail
      go_meet
      exact ⟨F, rfl⟩
    ·skip
     try simp only [Act.put, setIfInBounds_toArray, set_cons_zero, set_cons_succ, getElem_toArray, getElem_cons_zero, getElem_cons_succ]
     rw [if_pos (by rfl)]
     go_simp
     obtain ⟨v8, hw⟩ : ∃ W, W = (v2.alloc (.cells #[.slice none 0 0] 30)) := ⟨_, rfl⟩
     rw [← hw]
     have rg : Row v8 v2.heap.size 30 #[.slice none 0 0] := by rw [hw]; exact Row.new _ _ _
     have bb : Below v2.heap.size v2 v8 := by rw [hw]; exact (Below.refl _ _).alloc (Nat.le_refl _) _
     have ygg : v2.heap.size < v8.heap.size := rg.lt
     have hgB : w3.drew.heap.size ≤ v2.heap.size := bs.size
     clear hw
     replace oq0 := oq0.next bb
     replace oq1 := oq1.next bb
     replace bl := next_trans bl bb
     replace bs := next_trans bs bb
     have zqv8 := bb.size
     clear bb
     refine hK.out _ _ ?_ (fun hHeld => ?_)
     ·exact ⟨(show v8.cell? ⟨w.heap.size, 0, none⟩ = some (.slice a0 n0 c0) from (rA0.next bl).cell 0), (show v8.cell? ⟨w.heap.size + 1, 0, none⟩ = some (.slice a1 n1 c1) from (rA1.next bl).cell 0), (show v8.cell? ⟨w.heap.size + 1 + 1, 0, none⟩ = some (.slice a2 n2 c2) from (rA2.next bl).cell 0)⟩
     clear hK K
     try simp only [Act.put, setIfInBounds_toArray, set_cons_zero, set_cons_succ, getElem_toArray, getElem_cons_zero, getElem_cons_succ]
     refine wpAnyH_ready (rs := [5]) (by kernel_rfl) (by simp) (AllReadyH.cons rfl (fun K hK => ?_) AllReadyH.nil)
     try simp only [Act.put, setIfInBounds_toArray, set_cons_zero, set_cons_succ, getElem_toArray, getElem_cons_zero, getElem_cons_succ]
     rw [if_pos (by rfl)]
     go_simp
     refine (substTo _ _ _ xs2 _ (s2.next bl) h2.out).mono ?_
     rintro e v9 ⟨gq2, rfl, oq2, yq2, bb⟩
     replace oq0 := oq0.next bb
     replace oq1 := oq1.next bb
     replace rg := rg.next bb
     replace bl := next_trans bl bb
     replace bs := next_trans bs bb
     have zqv9 := bb.size
     clear bb
     go_wp2_with fail
     refine hK.out _ _ ?_ (fun hHeld => ?_)
     ·exact ⟨(show v9.cell? ⟨w.heap.size, 0, none⟩ = some (.slice a0 n0 c0) from (rA0.next bl).cell 0), (show v9.cell? ⟨w.heap.size + 1, 0, none⟩ = some (.slice a1 n1 c1) from (rA1.next bl).cell 0), (show v9.cell? ⟨w.heap.size + 1 + 1, 0, none⟩ = some (.slice a2 n2 c2) from (rA2.next bl).cell 0)⟩
     clear hK K
     try simp only [Act.put, setIfInBounds_toArray, set_cons_zero, set_cons_succ, getElem_toArray, getElem_cons_zero, getElem_cons_succ]
     refine wpAnyH_ready (rs := [6]) (by kernel_rfl) (by simp) (AllReadyH.cons rfl (fun K hK => ?_) AllReadyH.nil)
     try simp only [Act.put, setIfInBounds_toArray, set_cons_zero, set_cons_succ, getElem_toArray, getElem_cons_zero, getElem_cons_succ]
     rw [if_pos (by rfl)]
     go_simp
     refine (specComposed _ _ _ _ _ _ _ _ _ xs0 xs1 xs2 _ oq0.rd oq1.rd oq2.rd h0 h1.out h2.out).mono ?_
     rintro e v10 ⟨A0, m0, d0, he, o0, bb⟩
     rw [HV.out] at he
     subst he
     rw [HY.out] at o0
     replace oq0 := oq0.next bb
     replace oq1 := oq1.next bb
     replace rg := rg.next bb
     replace oq2 := oq2.next bb
     replace bl := next_trans bl bb
     replace bs := next_trans bs bb
     have zqv10 := bb.size
     clear bb
     clear oq0 oq1 oq2
     go_wp2_with fail
     refine hK.out _ _ ?_ (fun hHeld => ?_)
     ·exact ⟨(show v10.cell? ⟨w.heap.size, 0, none⟩ = some (.slice a0 n0 c0) from (rA0.next bl).cell 0), (show v10.cell? ⟨w.heap.size + 1, 0, none⟩ = some (.slice a1 n1 c1) from (rA1.next bl).cell 0), (show v10.cell? ⟨w.heap.size + 1 + 1, 0, none⟩ = some (.slice a2 n2 c2) from (rA2.next bl).cell 0)⟩
     clear hK K
     try simp only [Act.put, setIfInBounds_toArray, set_cons_zero, set_cons_succ, getElem_toArray, getElem_cons_zero, getElem_cons_succ]
     refine wpAnyH_take (i := 7) (v := ?_) rfl (by kernel_rfl) (by kernel_rfl) (by kernel_rfl) (fun _ _ _ h => h) (Or.inl ⟨by rfl, ?_⟩) (by assumption) ?_
     rotate_left 1
     ·(intro w0 hSw; (try dsimp only at hSw); go_simp; try with_reducible rfl)
     try simp only [Act.put, setIfInBounds_toArray, set_cons_zero, set_cons_succ, getElem_toArray, getElem_cons_zero, getElem_cons_succ]
     refine wpAnyH_take (i := 8) (v := ?_) rfl (by kernel_rfl) (by kernel_rfl) (by kernel_rfl) (fun _ _ _ h => h) (Or.inl ⟨by rfl, ?_⟩) (by assumption) ?_
     rotate_left 1
     ·(intro w0 hSw; (try dsimp only at hSw); go_simp; try with_reducible rfl)
     try simp only [Act.put, setIfInBounds_toArray, set_cons_zero, set_cons_succ, getElem_toArray, getElem_cons_zero, getElem_cons_succ]
     refine wpAnyH_take (i := 9) (v := ?_) rfl (by kernel_rfl) (by kernel_rfl) (by kernel_rfl) (fun _ _ _ h => h) (Or.inl ⟨by rfl, ?_⟩) (by assumption) ?_
     rotate_left 1
     ·(intro w0 hSw; (try dsimp only at hSw); go_simp; try with_reducible rfl)
     try simp only [Act.put, setIfInBounds_toArray, set_cons_zero, set_cons_succ, getElem_toArray, getElem_cons_zero, getElem_cons_succ]
     have cg : v10.cell? ⟨v2.heap.size, 0, none⟩ = some (.slice none 0 0) := rg.cell 0
     have fg : v10.frozen? ⟨v2.heap.size, 0, none⟩ = false := rg.free 0
     have hne0 : v2.heap.size ≠ w.heap.size := by omega
     have hne1 : v2.heap.size ≠ w.heap.size + 1 := by omega
     have hne2 : v2.heap.size ≠ w.heap.size + 1 + 1 := by omega
     refine wpAnyH_ready (rs := [11]) (by kernel_rfl) (by simp) (AllReadyH.cons rfl (fun K hK => ?_) AllReadyH.nil)
     try simp only [Act.put, setIfInBounds_toArray, set_cons_zero, set_cons_succ, getElem_toArray, getElem_cons_zero, getElem_cons_succ]
     rw [if_pos (by rfl)]
     go_simp
     refine hK.out _ _ ?_ (fun hHeld => ?_)
     ·exact ⟨far_cell hne0 (show v10.cell? ⟨w.heap.size, 0, none⟩ = some (.slice a0 n0 c0) from (rA0.next bl).cell 0), far_cell hne1 (show v10.cell? ⟨w.heap.size + 1, 0, none⟩ = some (.slice a1 n1 c1) from (rA1.next bl).cell 0), far_cell hne2 (show v10.cell? ⟨w.heap.size + 1 + 1, 0, none⟩ = some (.slice a2 n2 c2) from (rA2.next bl).cell 0)⟩
     clear hK K
     try simp only [Act.put, setIfInBounds_toArray, set_cons_zero, set_cons_succ, getElem_toArray, getElem_cons_zero, getElem_cons_succ]
     refine wpAnyH_take (i := 12) (v := ?_) rfl (by kernel_rfl) (by kernel_rfl) (by kernel_rfl) (fun _ _ _ h => h) (Or.inl ⟨by rfl, ?_⟩) (by assumption) ?_
     rotate_left 1
     ·(intro w0 hSw; (try dsimp only at hSw); go_simp; try with_reducible rfl)
     try simp only [Act.put, setIfInBounds_toArray, set_cons_zero, set_cons_succ, getElem_toArray, getElem_cons_zero, getElem_cons_succ]
     refine wpAnyH_done (by kernel_rfl) ?_ _
     have F := boxed_put (W := w3.drew) o0 rg (by omega) bs hgB
     clear cg fg bl rg o0 bs hne0 hne1 hne2
     go_wp2_with fail
     go_meet
     exact ⟨F, rfl⟩
   ·skip
    try simp only [Act.put, setIfInBounds_toArray, set_cons_zero, set_cons_succ, getElem_toArray, getElem_cons_zero, getElem_cons_succ]
    rw [if_pos (by rfl)]
    go_simp
    obtain ⟨v11, hw⟩ : ∃ W, W = (v1.alloc (.cells #[.slice none 0 0] 30)) := ⟨_, rfl⟩
    rw [← hw]
    have rg : Row v11 v1.heap.size 30 #[.slice none 0 0] := by rw [hw]; exact Row.new _ _ _
    have bb : Below v1.heap.size v1 v11 := by rw [hw]; exact (Below.refl _ _).alloc (Nat.le_refl _) _
    have ygg : v1.heap.size < v11.heap.size := rg.lt
    have hgB : w3.drew.heap.size ≤ v1.heap.size := bs.size
    clear hw
    replace oq0 := oq0.next bb
    replace bl := next_trans bl bb
    replace bs := next_trans bs bb
    have zqv11 := bb.size
    clear bb
    refine hK.out _ _ ?_ (fun hHeld => ?_)
    ·exact ⟨(show v11.cell? ⟨w.heap.size, 0, none⟩ = some (.slice a0 n0 c0) from (rA0.next bl).cell 0), (show v11.cell? ⟨w.heap.size + 1, 0, none⟩ = some (.slice a1 n1 c1) from (rA1.next bl).cell 0), (show v11.cell? ⟨w.heap.size + 1 + 1, 0, none⟩ = some (.slice a2 n2 c2) from (rA2.next bl).cell 0)⟩
    clear hK K
    try simp only [Act.put, setIfInBounds_toArray, set_cons_zero, set_cons_succ, getElem_toArray, getElem_cons_zero, getElem_cons_succ]
    refine wpAnyH_ready (rs := [3]) (by kernel_rfl) (by simp) (AllReadyH.cons rfl (fun K hK => ?_) AllReadyH.nil)
    try simp only [Act.put, setIfInBounds_toArray, set_cons_zero, set_cons_succ, getElem_toArray, getElem_cons_zero, getElem_cons_succ]
    rw [if_pos (by rfl)]
    go_simp
    refine (substTo _ _ _ xs1 _ (s1.next bl) h1.out).mono ?_
    rintro e v12 ⟨gq1, rfl, oq1, yq1, bb⟩
    replace oq0 := oq0.next bb
    replace rg := rg.next bb
    replace bl := next_trans bl bb
    replace bs := next_trans bs bb
    have zqv12 := bb.size
    clear bb
    go_wp2_with fail
    refine hK.out _ _ ?_ (fun hHeld => ?_)
    ·exact ⟨(show v12.cell? ⟨w.heap.size, 0, none⟩ = some (.slice a0 n0 c0) from (rA0.next bl).cell 0), (show v12.cell? ⟨w.heap.size + 1, 0, none⟩ = some (.slice a1 n1 c1) from (rA1.next bl).cell 0), (show v12.cell? ⟨w.heap.size + 1 + 1, 0, none⟩ = some (.slice a2 n2 c2) from (rA2.next bl).cell 0)⟩
    clear hK K
    try simp only [Act.put, setIfInBounds_toArray, set_cons_zero, set_cons_succ, getElem_toArray, getElem_cons_zero, getElem_cons_succ]
    refine wpAnyH_ready (rs := [5]) (by kernel_rfl) (by simp) (AllReadyH.cons rfl (fun K hK => ?_) AllReadyH.nil)
    try simp only [Act.put, setIfInBounds_toArray, set_cons_zero, set_cons_succ, getElem_toArray, getElem_cons_zero, getElem_cons_succ]
    rw [if_pos (by rfl)]
    go_simp
    refine (substTo _ _ _ xs2 _ (s2.next bl) h2.out).mono ?_
    rintro e v13 ⟨gq2, rfl, oq2, yq2, bb⟩
    replace oq0 := oq0.next bb
    replace rg := rg.next bb
    replace oq1 := oq1.next bb
    replace bl := next_trans bl bb
    replace bs := next_trans bs bb
    have zqv13 := bb.size
    clear bb
    go_wp2_with fail
    refine hK.out _ _ ?_ (fun hHeld => ?_)
    ·exact ⟨(show v13.cell? ⟨w.heap.size, 0, none⟩ = some (.slice a0 n0 c0) from (rA0.next bl).cell 0), (show v13.cell? ⟨w.heap.size + 1, 0, none⟩ = some (.slice a1 n1 c1) from (rA1.next bl).cell 0), (show v13.cell? ⟨w.heap.size + 1 + 1, 0, none⟩ = some (.slice a2 n2 c2) from (rA2.next bl).cell 0)⟩
    clear hK K
    try simp only [Act.put, setIfInBounds_toArray, set_cons_zero, set_cons_succ, getElem_toArray, getElem_cons_zero, getElem_cons_succ]
    refine wpAnyH_ready (rs := [6]) (by kernel_rfl) (by simp) (AllReadyH.cons rfl (fun K hK => ?_) AllReadyH.nil)
    try simp only [Act.put, setIfInBounds_toArray, set_cons_zero, set_cons_succ, getElem_toArray, getElem_cons_zero, getElem_cons_succ]
    rw [if_pos (by rfl)]
    go_simp
    refine (specComposed _ _ _ _ _ _ _ _ _ xs0 xs1 xs2 _ oq0.rd oq1.rd oq2.rd h0 h1.out h2.out).mono ?_
    rintro e v14 ⟨A0, m0, d0, he, o0, bb⟩
    rw [HV.out] at he
    subst he
    rw [HY.out] at o0
    replace oq0 := oq0.next bb
    replace rg := rg.next bb
    replace oq1 := oq1.next bb
    replace oq2 := oq2.next bb
    replace bl := next_trans bl bb
    replace bs := next_trans bs bb
    have zqv14 := bb.size
    clear bb
    clear oq0 oq1 oq2
    go_wp2_with fail
    refine hK.out _ _ ?_ (fun hHeld => ?_)
    ·exact ⟨(show v14.cell? ⟨w.heap.size, 0, none⟩ = some (.slice a0 n0 c0) from (rA0.next bl).cell 0), (show v14.cell? ⟨w.heap.size + 1, 0, none⟩ = some (.slice a1 n1 c1) from (rA1.next bl).cell 0), (show v14.cell? ⟨w.heap.size + 1 + 1, 0, none⟩ = some (.slice a2 n2 c2) from (rA2.next bl).cell 0)⟩
    clear hK K
    try simp only [Act.put, setIfInBounds_toArray, set_cons_zero, set_cons_succ, getElem_toArray, getElem_cons_zero, getElem_cons_succ]
    refine wpAnyH_take (i := 7) (v := ?_) rfl (by kernel_rfl) (by kernel_rfl) (by kernel_rfl) (fun _ _ _ h => h) (Or.inl ⟨by rfl, ?_⟩) (by assumption) ?_
    rotate_left 1
    ·(intro w0 hSw; (try dsimp only at hSw); go_simp; try with_reducible rfl)
    try simp only [Act.put, setIfInBounds_toArray, set_cons_zero, set_cons_succ, getElem_toArray, getElem_cons_zero, getElem_cons_succ]
    refine wpAnyH_take (i := 8) (v := ?_) rfl (by kernel_rfl) (by kernel_rfl) (by kernel_rfl) (fun _ _ _ h => h) (Or.inl ⟨by rfl, ?_⟩) (by assumption) ?_
    rotate_left 1
    ·(intro w0 hSw; (try dsimp only at hSw); go_simp; try with_reducible rfl)
    try simp only [Act.put, setIfInBounds_toArray, set_cons_zero, set_cons_succ, getElem_toArray, getElem_cons_zero, getElem_cons_succ]
    refine wpAnyH_take (i := 9) (v := ?_) rfl (by kernel_rfl) (by kernel_rfl) (by kernel_rfl) (fun _ _ _ h => h) (Or.inl ⟨by rfl, ?_⟩) (by assumption) ?_
    rotate_left 1
    ·(intro w0 hSw; (try dsimp only at hSw); go_simp; try with_reducible rfl)
    try simp only [Act.put, setIfInBounds_toArray, set_cons_zero, set_cons_succ, getElem_toArray, getElem_cons_zero, getElem_cons_succ]
    have cg : v14.cell? ⟨v1.heap.size, 0, none⟩ = some (.slice none 0 0) := rg.cell 0
    have fg : v14.frozen? ⟨v1.heap.size, 0, none⟩ = false := rg.free 0
    have hne0 : v1.heap.size ≠ w.heap.size := by omega
    have hne1 : v1.heap.size ≠ w.heap.size + 1 := by omega
    have hne2 : v1.heap.size ≠ w.heap.size + 1 + 1 := by omega
    refine wpAnyH_ready (rs := [11]) (by kernel_rfl) (by simp) (AllReadyH.cons rfl (fun K hK => ?_) AllReadyH.nil)
    try simp only [Act.put, setIfInBounds_toArray, set_cons_zero, set_cons_succ, getElem_toArray, getElem_cons_zero, getElem_cons_succ]
    rw [if_pos (by rfl)]
    go_simp
    refine hK.out _ _ ?_ (fun hHeld => ?_)
    ·exact ⟨far_cell hne0 (show v14.cell? ⟨w.heap.size, 0, none⟩ = some (.slice a0 n0 c0) from (rA0.next bl).cell 0), far_cell hne1 (show v14.cell? ⟨w.heap.size + 1, 0, none⟩ = some (.slice a1 n1 c1) from (rA1.next bl).cell 0), far_cell hne2 (show v14.cell? ⟨w.heap.size + 1 + 1, 0, none⟩ = some (.slice a2 n2 c2) from (rA2.next bl).cell 0)⟩
    clear hK K
    try simp only [Act.put, setIfInBounds_toArray, set_cons_zero, set_cons_succ, getElem_toArray, getElem_cons_zero, getElem_cons_succ]
    refine wpAnyH_take (i := 12) (v := ?_) rfl (by kernel_rfl) (by kernel_rfl) (by kernel_rfl) (fun _ _ _ h => h) (Or.inl ⟨by rfl, ?_⟩) (by assumption) ?_
    rotate_left 1
    ·(intro w0 hSw; (try dsimp only at hSw); go_simp; try with_reducible rfl)
    try simp only [Act.put, setIfInBounds_toArray, set_cons_zero, set_cons_succ, getElem_toArray, getElem_cons_zero, getElem_cons_succ]
    refine wpAnyH_done (by kernel_rfl) ?_ _
    have F := boxed_put (W := w3.drew) o0 rg (by omega) bs hgB
    clear cg fg bl rg o0 bs hne0 hne1 hne2
    go_wp2_with fail
    go_meet
    exact ⟨F, rfl⟩
  ·skip
   try simp only [Act.put, setIfInBounds_toArray, set_cons_zero, set_cons_succ, getElem_toArray, getElem_cons_zero, getElem_cons_succ]
   rw [if_pos (by rfl)]
   go_simp
   obtain ⟨v15, hw⟩ : ∃ W, W = (w3.alloc (.cells #[.slice none 0 0] 30)).drew := ⟨_, rfl⟩
   rw [← hw]
   have rg : Row v15 w3.heap.size 30 #[.slice none 0 0] := by rw [hw]; exact Row.new _ _ _
   have bb : Below w3.drew.heap.size w3.drew v15 := by rw [hw]; exact (Below.refl _ _).alloc (Nat.le_refl _) _
   have ygg : w3.heap.size < v15.heap.size := rg.lt
   have hgB : w3.drew.heap.size ≤ w3.heap.size := bs.size
   clear hw
   replace bl := next_trans bl bb
   replace bs := next_trans bs bb
   have zqv15 := bb.size
   clear bb
   refine hK.out _ _ ?_ (fun hHeld => ?_)
   ·exact ⟨(show v15.cell? ⟨w.heap.size, 0, none⟩ = some (.slice a0 n0 c0) from (rA0.next bl).cell 0), (show v15.cell? ⟨w.heap.size + 1, 0, none⟩ = some (.slice a1 n1 c1) from (rA1.next bl).cell 0), (show v15.cell? ⟨w.heap.size + 1 + 1, 0, none⟩ = some (.slice a2 n2 c2) from (rA2.next bl).cell 0)⟩
   clear hK K
   try simp only [Act.put, setIfInBounds_toArray, set_cons_zero, set_cons_succ, getElem_toArray, getElem_cons_zero, getElem_cons_succ]
   refine wpAnyH_ready (rs := [1]) (by kernel_rfl) (by simp) (AllReadyH.cons rfl (fun K hK => ?_) AllReadyH.nil)
   try simp only [Act.put, setIfInBounds_toArray, set_cons_zero, set_cons_succ, getElem_toArray, getElem_cons_zero, getElem_cons_succ]
   rw [if_pos (by rfl)]
   go_simp
   refine (sigTo _ _ _ xs0 _ (s0.next bl) h0).mono ?_
   rintro e v16 ⟨gq0, rfl, oq0, yq0, bb⟩
   replace rg := rg.next bb
   replace bl := next_trans bl bb
   replace bs := next_trans bs bb
   have zqv16 := bb.size
   clear bb
   go_wp2_with fail
   refine hK.out _ _ ?_ (fun hHeld => ?_)
   ·exact ⟨(show v16.cell? ⟨w.heap.size, 0, none⟩ = some (.slice a0 n0 c0) from (rA0.next bl).cell 0), (show v16.cell? ⟨w.heap.size + 1, 0, none⟩ = some (.slice a1 n1 c1) from (rA1.next bl).cell 0), (show v16.cell? ⟨w.heap.size + 1 + 1, 0, none⟩ = some (.slice a2 n2 c2) from (rA2.next bl).cell 0)⟩
   clear hK K
   try simp only [Act.put, setIfInBounds_toArray, set_cons_zero, set_cons_succ, getElem_toArray, getElem_cons_zero, getElem_cons_succ]
   refine wpAnyH_ready (rs := [3]) (by kernel_rfl) (by simp) (AllReadyH.cons rfl (fun K hK => ?_) AllReadyH.nil)
   try simp only [Act.put, setIfInBounds_toArray, set_cons_zero, set_cons_succ, getElem_toArray, getElem_cons_zero, getElem_cons_succ]
   rw [if_pos (by rfl)]
   go_simp
   refine (substTo _ _ _ xs1 _ (s1.next bl) h1.out).mono ?_
   rintro e v17 ⟨gq1, rfl, oq1, yq1, bb⟩
   replace rg := rg.next bb
   replace oq0 := oq0.next bb
   replace bl := next_trans bl bb
   replace bs := next_trans bs bb
   have zqv17 := bb.size
   clear bb
   go_wp2_with fail
   refine hK.out _ _ ?_ (fun hHeld => ?_)
   ·exact ⟨(show v17.cell? ⟨w.heap.size, 0, none⟩ = some (.slice a0 n0 c0) from (rA0.next bl).cell 0), (show v17.cell? ⟨w.heap.size + 1, 0, none⟩ = some (.slice a1 n1 c1) from (rA1.next bl).cell 0), (show v17.cell? ⟨w.heap.size + 1 + 1, 0, none⟩ = some (.slice a2 n2 c2) from (rA2.next bl).cell 0)⟩
   clear hK K
   try simp only [Act.put, setIfInBounds_toArray, set_cons_zero, set_cons_succ, getElem_toArray, getElem_cons_zero, getElem_cons_succ]
   refine wpAnyH_ready (rs := [5]) (by kernel_rfl) (by simp) (AllReadyH.cons rfl (fun K hK => ?_) AllReadyH.nil)
   try simp only [Act.put, setIfInBounds_toArray, set_cons_zero, set_cons_succ, getElem_toArray, getElem_cons_zero, getElem_cons_succ]
   rw [if_pos (by rfl)]
   go_simp
   refine (substTo _ _ _ xs2 _ (s2.next bl) h2.out).mono ?_
   rintro e v18 ⟨gq2, rfl, oq2, yq2, bb⟩
   replace rg := rg.next bb
   replace oq0 := oq0.next bb
   replace oq1 := oq1.next bb
   replace bl := next_trans bl bb
   replace bs := next_trans bs bb
   have zqv18 := bb.size
   clear bb
   go_wp2_with fail
   refine hK.out _ _ ?_ (fun hHeld => ?_)
   ·exact ⟨(show v18.cell? ⟨w.heap.size, 0, none⟩ = some (.slice a0 n0 c0) from (rA0.next bl).cell 0), (show v18.cell? ⟨w.heap.size + 1, 0, none⟩ = some (.slice a1 n1 c1) from (rA1.next bl).cell 0), (show v18.cell? ⟨w.heap.size + 1 + 1, 0, none⟩ = some (.slice a2 n2 c2) from (rA2.next bl).cell 0)⟩
   clear hK K
   try simp only [Act.put, setIfInBounds_toArray, set_cons_zero, set_cons_succ, getElem_toArray, getElem_cons_zero, getElem_cons_succ]
   refine wpAnyH_ready (rs := [6]) (by kernel_rfl) (by simp) (AllReadyH.cons rfl (fun K hK => ?_) AllReadyH.nil)
   try simp only [Act.put, setIfInBounds_toArray, set_cons_zero, set_cons_succ, getElem_toArray, getElem_cons_zero, getElem_cons_succ]
   rw [if_pos (by rfl)]
   go_simp
   refine (specComposed _ _ _ _ _ _ _ _ _ xs0 xs1 xs2 _ oq0.rd oq1.rd oq2.rd h0 h1.out h2.out).mono ?_
   rintro e v19 ⟨A0, m0, d0, he, o0, bb⟩
   rw [HV.out] at he
   subst he
   rw [HY.out] at o0
   replace rg := rg.next bb
   replace oq0 := oq0.next bb
   replace oq1 := oq1.next bb
   replace oq2 := oq2.next bb
   replace bl := next_trans bl bb
   replace bs := next_trans bs bb
   have zqv19 := bb.size
   clear bb
   clear oq0 oq1 oq2
   go_wp2_with fail
   refine hK.out _ _ ?_ (fun hHeld => ?_)
   ·exact ⟨(show v19.cell? ⟨w.heap.size, 0, none⟩ = some (.slice a0 n0 c0) from (rA0.next bl).cell 0), (show v19.cell? ⟨w.heap.size + 1, 0, none⟩ = some (.slice a1 n1 c1) from (rA1.next bl).cell 0), (show v19.cell? ⟨w.heap.size + 1 + 1, 0, none⟩ = some (.slice a2 n2 c2) from (rA2.next bl).cell 0)⟩
   clear hK K
   try simp only [Act.put, setIfInBounds_toArray, set_cons_zero, set_cons_succ, getElem_toArray, getElem_cons_zero, getElem_cons_succ]
   refine wpAnyH_take (i := 7) (v := ?_) rfl (by kernel_rfl) (by kernel_rfl) (by kernel_rfl) (fun _ _ _ h => h) (Or.inl ⟨by rfl, ?_⟩) (by assumption) ?_
   rotate_left 1
   ·(intro w0 hSw; (try dsimp only at hSw); go_simp; try with_reducible rfl)
   try simp only [Act.put, setIfInBounds_toArray, set_cons_zero, set_cons_succ, getElem_toArray, getElem_cons_zero, getElem_cons_succ]
   refine wpAnyH_take (i := 8) (v := ?_) rfl (by kernel_rfl) (by kernel_rfl) (by kernel_rfl) (fun _ _ _ h => h) (Or.inl ⟨by rfl, ?_⟩) (by assumption) ?_
   rotate_left 1
   ·(intro w0 hSw; (try dsimp only at hSw); go_simp; try with_reducible rfl)
   try simp only [Act.put, setIfInBounds_toArray, set_cons_zero, set_cons_succ, getElem_toArray, getElem_cons_zero, getElem_cons_succ]
   refine wpAnyH_take (i := 9) (v := ?_) rfl (by kernel_rfl) (by kernel_rfl) (by kernel_rfl) (fun _ _ _ h => h) (Or.inl ⟨by rfl, ?_⟩) (by assumption) ?_
   rotate_left 1
   ·(intro w0 hSw; (try dsimp only at hSw); go_simp; try with_reducible rfl)
   try simp only [Act.put, setIfInBounds_toArray, set_cons_zero, set_cons_succ, getElem_toArray, getElem_cons_zero, getElem_cons_succ]
   have cg : v19.cell? ⟨w3.heap.size, 0, none⟩ = some (.slice none 0 0) := rg.cell 0
   have fg : v19.frozen? ⟨w3.heap.size, 0, none⟩ = false := rg.free 0
   have hne0 : w3.heap.size ≠ w.heap.size := by omega
   have hne1 : w3.heap.size ≠ w.heap.size + 1 := by omega
   have hne2 : w3.heap.size ≠ w.heap.size + 1 + 1 := by omega
   refine wpAnyH_ready (rs := [11]) (by kernel_rfl) (by simp) (AllReadyH.cons rfl (fun K hK => ?_) AllReadyH.nil)
   try simp only [Act.put, setIfInBounds_toArray, set_cons_zero, set_cons_succ, getElem_toArray, getElem_cons_zero, getElem_cons_succ]
   rw [if_pos (by rfl)]
   go_simp
   refine hK.out _ _ ?_ (fun hHeld => ?_)
   ·exact ⟨far_cell hne0 (show v19.cell? ⟨w.heap.size, 0, none⟩ = some (.slice a0 n0 c0) from (rA0.next bl).cell 0), far_cell hne1 (show v19.cell? ⟨w.heap.size + 1, 0, none⟩ = some (.slice a1 n1 c1) from (rA1.next bl).cell 0), far_cell hne2 (show v19.cell? ⟨w.heap.size + 1 + 1, 0, none⟩ = some (.slice a2 n2 c2) from (rA2.next bl).cell 0)⟩
   clear hK K
   try simp only [Act.put, setIfInBounds_toArray, set_cons_zero, set_cons_succ, getElem_toArray, getElem_cons_zero, getElem_cons_succ]
   refine wpAnyH_take (i := 12) (v := ?_) rfl (by kernel_rfl) (by kernel_rfl) (by kernel_rfl) (fun _ _ _ h => h) (Or.inl ⟨by rfl, ?_⟩) (by assumption) ?_
   rotate_left 1
   ·(intro w0 hSw; (try dsimp only at hSw); go_simp; try with_reducible rfl)
   try simp only [Act.put, setIfInBounds_toArray, set_cons_zero, set_cons_succ, getElem_toArray, getElem_cons_zero, getElem_cons_succ]
   refine wpAnyH_done (by kernel_rfl) ?_ _
   have F := boxed_put (W := w3.drew) o0 rg (by omega) bs hgB
   clear cg fg bl rg o0 bs hne0 hne1 hne2
   go_wp2_with fail
   go_meet
   exact ⟨F, rfl⟩
 case rest =>
  rename World => w8
  obtain ⟨⟨bw, Aw, mw, dw, rfl, rw, sw, bb⟩, rfl⟩ := hcut
  replace bel := next_trans bel bb
  have zw8 := bb.size
  clear bb
  have belw := Below.refl w8.heap.size w8
  have cA0 : w8.cell? ⟨w.heap.size, 0, none⟩ = some (.slice a0 n0 c0) := (rA0.next bel).cell 0
  have cA1 : w8.cell? ⟨w.heap.size + 1, 0, none⟩ = some (.slice a1 n1 c1) := (rA1.next bel).cell 0
  have cA2 : w8.cell? ⟨w.heap.size + 1 + 1, 0, none⟩ = some (.slice a2 n2 c2) := (rA2.next bel).cell 0
  have cw : w8.cell? ⟨bw, 0, none⟩ = some (.slice Aw mw dw) := (rw.next belw).cell 0
  go_wp2_with fail
  refine (sigTo _ _ _ xs0 _ (s0.next bel) h0).mono ?_
  rintro e w9 ⟨gx0, rfl, ox0, yx0, bb⟩
  replace bel := next_trans bel bb
  replace belw := next_trans belw bb
  have zw9 := bb.size
  clear bb
  clear cA0 cA1 cA2 cw
  have cA0 : w9.cell? ⟨w.heap.size, 0, none⟩ = some (.slice a0 n0 c0) := (rA0.next bel).cell 0
  have cA1 : w9.cell? ⟨w.heap.size + 1, 0, none⟩ = some (.slice a1 n1 c1) := (rA1.next bel).cell 0
  have cA2 : w9.cell? ⟨w.heap.size + 1 + 1, 0, none⟩ = some (.slice a2 n2 c2) := (rA2.next bel).cell 0
  have cw : w9.cell? ⟨bw, 0, none⟩ = some (.slice Aw mw dw) := (rw.next belw).cell 0
  have dA0 : (w9.alloc (.cells #[.slice (some ⟨gx0, 0, none⟩) n0 n0] 32)).cell? ⟨w.heap.size, 0, none⟩ = some (.slice a0 n0 c0) := ((rA0.next bel).alloc _).cell 0
  have dA1 : (w9.alloc (.cells #[.slice (some ⟨gx0, 0, none⟩) n0 n0] 32)).cell? ⟨w.heap.size + 1, 0, none⟩ = some (.slice a1 n1 c1) := ((rA1.next bel).alloc _).cell 0
  have dA2 : (w9.alloc (.cells #[.slice (some ⟨gx0, 0, none⟩) n0 n0] 32)).cell? ⟨w.heap.size + 1 + 1, 0, none⟩ = some (.slice a2 n2 c2) := ((rA2.next bel).alloc _).cell 0
  have dw : (w9.alloc (.cells #[.slice (some ⟨gx0, 0, none⟩) n0 n0] 32)).cell? ⟨bw, 0, none⟩ = some (.slice Aw mw dw) := ((rw.next belw).alloc _).cell 0
  go_wp2_with fail
  obtain ⟨w10, hw⟩ : ∃ W, W = w9.alloc (.cells #[.slice (some ⟨gx0, 0, none⟩) n0 n0] 32) := ⟨_, rfl⟩
  rw [← hw]
  have rx0 : Row w10 w9.heap.size 32 #[.slice (some ⟨gx0, 0, none⟩) n0 n0] := by rw [hw]; exact Row.new _ _ _
  have bb : Below w9.heap.size w9 w10 := by rw [hw]; exact (Below.refl _ _).alloc (Nat.le_refl _) _
  have yrx0 : w9.heap.size < w10.heap.size := by rw [hw]; simp
  clear hw
  replace ox0 := ox0.next bb
  replace bel := next_trans bel bb
  replace belw := next_trans belw bb
  have zw10 := bb.size
  clear bb
  clear dA0 dA1 dA2 dw
  clear cA0 cA1 cA2 cw
  have cA0 : w10.cell? ⟨w.heap.size, 0, none⟩ = some (.slice a0 n0 c0) := (rA0.next bel).cell 0
  have cA1 : w10.cell? ⟨w.heap.size + 1, 0, none⟩ = some (.slice a1 n1 c1) := (rA1.next bel).cell 0
  have cA2 : w10.cell? ⟨w.heap.size + 1 + 1, 0, none⟩ = some (.slice a2 n2 c2) := (rA2.next bel).cell 0
  have cw : w10.cell? ⟨bw, 0, none⟩ = some (.slice Aw mw dw) := (rw.next belw).cell 0
  have cx0 : w10.cell? ⟨w9.heap.size, 0, none⟩ = some (.slice (some ⟨gx0, 0, none⟩) n0 n0) := (rx0).cell 0
  refine (substTo _ _ _ xs1 _ (s1.next bel) h1.out).mono ?_
  rintro e w11 ⟨gx1, rfl, ox1, yx1, bb⟩
  replace ox0 := ox0.next bb
  replace rx0 := rx0.next bb
  replace bel := next_trans bel bb
  replace belw := next_trans belw bb
  have zw11 := bb.size
  clear bb
  clear cA0 cA1 cA2 cw cx0
  have cA0 : w11.cell? ⟨w.heap.size, 0, none⟩ = some (.slice a0 n0 c0) := (rA0.next bel).cell 0
  have cA1 : w11.cell? ⟨w.heap.size + 1, 0, none⟩ = some (.slice a1 n1 c1) := (rA1.next bel).cell 0
  have cA2 : w11.cell? ⟨w.heap.size + 1 + 1, 0, none⟩ = some (.slice a2 n2 c2) := (rA2.next bel).cell 0
  have cw : w11.cell? ⟨bw, 0, none⟩ = some (.slice Aw mw dw) := (rw.next belw).cell 0
  have cx0 : w11.cell? ⟨w9.heap.size, 0, none⟩ = some (.slice (some ⟨gx0, 0, none⟩) n0 n0) := (rx0).cell 0
  have dA0 : (w11.alloc (.cells #[.slice (some ⟨gx1, 0, none⟩) n1 n1] 30)).cell? ⟨w.heap.size, 0, none⟩ = some (.slice a0 n0 c0) := ((rA0.next bel).alloc _).cell 0
  have dA1 : (w11.alloc (.cells #[.slice (some ⟨gx1, 0, none⟩) n1 n1] 30)).cell? ⟨w.heap.size + 1, 0, none⟩ = some (.slice a1 n1 c1) := ((rA1.next bel).alloc _).cell 0
  have dA2 : (w11.alloc (.cells #[.slice (some ⟨gx1, 0, none⟩) n1 n1] 30)).cell? ⟨w.heap.size + 1 + 1, 0, none⟩ = some (.slice a2 n2 c2) := ((rA2.next bel).alloc _).cell 0
  have dw : (w11.alloc (.cells #[.slice (some ⟨gx1, 0, none⟩) n1 n1] 30)).cell? ⟨bw, 0, none⟩ = some (.slice Aw mw dw) := ((rw.next belw).alloc _).cell 0
  have dx0 : (w11.alloc (.cells #[.slice (some ⟨gx1, 0, none⟩) n1 n1] 30)).cell? ⟨w9.heap.size, 0, none⟩ = some (.slice (some ⟨gx0, 0, none⟩) n0 n0) := ((rx0).alloc _).cell 0
  go_wp2_with fail
  obtain ⟨w12, hw⟩ : ∃ W, W = w11.alloc (.cells #[.slice (some ⟨gx1, 0, none⟩) n1 n1] 30) := ⟨_, rfl⟩
  rw [← hw]
  have rx1 : Row w12 w11.heap.size 30 #[.slice (some ⟨gx1, 0, none⟩) n1 n1] := by rw [hw]; exact Row.new _ _ _
  have bb : Below w11.heap.size w11 w12 := by rw [hw]; exact (Below.refl _ _).alloc (Nat.le_refl _) _
  have yrx1 : w11.heap.size < w12.heap.size := by rw [hw]; simp
  clear hw
  replace ox0 := ox0.next bb
  replace rx0 := rx0.next bb
  replace ox1 := ox1.next bb
  replace bel := next_trans bel bb
  replace belw := next_trans belw bb
  have zw12 := bb.size
  clear bb
  clear dA0 dA1 dA2 dw dx0
  clear cA0 cA1 cA2 cw cx0
  have cA0 : w12.cell? ⟨w.heap.size, 0, none⟩ = some (.slice a0 n0 c0) := (rA0.next bel).cell 0
  have cA1 : w12.cell? ⟨w.heap.size + 1, 0, none⟩ = some (.slice a1 n1 c1) := (rA1.next bel).cell 0
  have cA2 : w12.cell? ⟨w.heap.size + 1 + 1, 0, none⟩ = some (.slice a2 n2 c2) := (rA2.next bel).cell 0
  have cw : w12.cell? ⟨bw, 0, none⟩ = some (.slice Aw mw dw) := (rw.next belw).cell 0
  have cx0 : w12.cell? ⟨w9.heap.size, 0, none⟩ = some (.slice (some ⟨gx0, 0, none⟩) n0 n0) := (rx0).cell 0
  have cx1 : w12.cell? ⟨w11.heap.size, 0, none⟩ = some (.slice (some ⟨gx1, 0, none⟩) n1 n1) := (rx1).cell 0
  refine (substTo _ _ _ xs2 _ (s2.next bel) h2.out).mono ?_
  rintro e w13 ⟨gx2, rfl, ox2, yx2, bb⟩
  replace ox0 := ox0.next bb
  replace rx0 := rx0.next bb
  replace ox1 := ox1.next bb
  replace rx1 := rx1.next bb
  replace bel := next_trans bel bb
  replace belw := next_trans belw bb
  have zw13 := bb.size
  clear bb
  clear cA0 cA1 cA2 cw cx0 cx1
  have cA0 : w13.cell? ⟨w.heap.size, 0, none⟩ = some (.slice a0 n0 c0) := (rA0.next bel).cell 0
  have cA1 : w13.cell? ⟨w.heap.size + 1, 0, none⟩ = some (.slice a1 n1 c1) := (rA1.next bel).cell 0
  have cA2 : w13.cell? ⟨w.heap.size + 1 + 1, 0, none⟩ = some (.slice a2 n2 c2) := (rA2.next bel).cell 0
  have cw : w13.cell? ⟨bw, 0, none⟩ = some (.slice Aw mw dw) := (rw.next belw).cell 0
  have cx0 : w13.cell? ⟨w9.heap.size, 0, none⟩ = some (.slice (some ⟨gx0, 0, none⟩) n0 n0) := (rx0).cell 0
  have cx1 : w13.cell? ⟨w11.heap.size, 0, none⟩ = some (.slice (some ⟨gx1, 0, none⟩) n1 n1) := (rx1).cell 0
  have dA0 : (w13.alloc (.cells #[.slice (some ⟨gx2, 0, none⟩) n2 n2] 30)).cell? ⟨w.heap.size, 0, none⟩ = some (.slice a0 n0 c0) := ((rA0.next bel).alloc _).cell 0
  have dA1 : (w13.alloc (.cells #[.slice (some ⟨gx2, 0, none⟩) n2 n2] 30)).cell? ⟨w.heap.size + 1, 0, none⟩ = some (.slice a1 n1 c1) := ((rA1.next bel).alloc _).cell 0
  have dA2 : (w13.alloc (.cells #[.slice (some ⟨gx2, 0, none⟩) n2 n2] 30)).cell? ⟨w.heap.size + 1 + 1, 0, none⟩ = some (.slice a2 n2 c2) := ((rA2.next bel).alloc _).cell 0
  have dw : (w13.alloc (.cells #[.slice (some ⟨gx2, 0, none⟩) n2 n2] 30)).cell? ⟨bw, 0, none⟩ = some (.slice Aw mw dw) := ((rw.next belw).alloc _).cell 0
  have dx0 : (w13.alloc (.cells #[.slice (some ⟨gx2, 0, none⟩) n2 n2] 30)).cell? ⟨w9.heap.size, 0, none⟩ = some (.slice (some ⟨gx0, 0, none⟩) n0 n0) := ((rx0).alloc _).cell 0
  have dx1 : (w13.alloc (.cells #[.slice (some ⟨gx2, 0, none⟩) n2 n2] 30)).cell? ⟨w11.heap.size, 0, none⟩ = some (.slice (some ⟨gx1, 0, none⟩) n1 n1) := ((rx1).alloc _).cell 0
  go_wp2_with fail
  obtain ⟨w14, hw⟩ : ∃ W, W = w13.alloc (.cells #[.slice (some ⟨gx2, 0, none⟩) n2 n2] 30) := ⟨_, rfl⟩
  rw [← hw]
  have rx2 : Row w14 w13.heap.size 30 #[.slice (some ⟨gx2, 0, none⟩) n2 n2] := by rw [hw]; exact Row.new _ _ _
  have bb : Below w13.heap.size w13 w14 := by rw [hw]; exact (Below.refl _ _).alloc (Nat.le_refl _) _
  have yrx2 : w13.heap.size < w14.heap.size := by rw [hw]; simp
  clear hw
  replace ox0 := ox0.next bb
  replace rx0 := rx0.next bb
  replace ox1 := ox1.next bb
  replace rx1 := rx1.next bb
  replace ox2 := ox2.next bb
  replace bel := next_trans bel bb
  replace belw := next_trans belw bb
  have zw14 := bb.size
  clear bb
  clear dA0 dA1 dA2 dw dx0 dx1
  clear cA0 cA1 cA2 cw cx0 cx1
  have cA0 : w14.cell? ⟨w.heap.size, 0, none⟩ = some (.slice a0 n0 c0) := (rA0.next bel).cell 0
  have cA1 : w14.cell? ⟨w.heap.size + 1, 0, none⟩ = some (.slice a1 n1 c1) := (rA1.next bel).cell 0
  have cA2 : w14.cell? ⟨w.heap.size + 1 + 1, 0, none⟩ = some (.slice a2 n2 c2) := (rA2.next bel).cell 0
  have cw : w14.cell? ⟨bw, 0, none⟩ = some (.slice Aw mw dw) := (rw.next belw).cell 0
  have cx0 : w14.cell? ⟨w9.heap.size, 0, none⟩ = some (.slice (some ⟨gx0, 0, none⟩) n0 n0) := (rx0).cell 0
  have cx1 : w14.cell? ⟨w11.heap.size, 0, none⟩ = some (.slice (some ⟨gx1, 0, none⟩) n1 n1) := (rx1).cell 0
  have cx2 : w14.cell? ⟨w13.heap.size, 0, none⟩ = some (.slice (some ⟨gx2, 0, none⟩) n2 n2) := (rx2).cell 0
  refine (implComposed _ _ _ _ _ _ _ _ _ xs0 xs1 xs2 _ ox0.rd ox1.rd ox2.rd h0 h1.out h2.out).mono ?_
  rintro e w15 ⟨A0, m0, d0, he, o0, bb⟩
  rw [HV.out] at he
  subst he
  replace ox0 := ox0.next bb
  replace rx0 := rx0.next bb
  replace ox1 := ox1.next bb
  replace rx1 := rx1.next bb
  replace ox2 := ox2.next bb
  replace rx2 := rx2.next bb
  replace bel := next_trans bel bb
  replace belw := next_trans belw bb
  have zw15 := bb.size
  clear bb
  rw [HY.out] at o0
  have og := o0
  clear o0
  obtain ⟨Ag, mg, dg, eA, em, ed⟩ : ∃ A m d, A = A0 ∧ m = m0 ∧ d = d0 := ⟨_, _, _, rfl, rfl, rfl⟩
  subst eA em ed
  clear cA0 cA1 cA2 cw cx0 cx1 cx2
  have cA0 : w15.cell? ⟨w.heap.size, 0, none⟩ = some (.slice a0 n0 c0) := (rA0.next bel).cell 0
  have cA1 : w15.cell? ⟨w.heap.size + 1, 0, none⟩ = some (.slice a1 n1 c1) := (rA1.next bel).cell 0
  have cA2 : w15.cell? ⟨w.heap.size + 1 + 1, 0, none⟩ = some (.slice a2 n2 c2) := (rA2.next bel).cell 0
  have cw : w15.cell? ⟨bw, 0, none⟩ = some (.slice Aw mw dw) := (rw.next belw).cell 0
  have cx0 : w15.cell? ⟨w9.heap.size, 0, none⟩ = some (.slice (some ⟨gx0, 0, none⟩) n0 n0) := (rx0).cell 0
  have cx1 : w15.cell? ⟨w11.heap.size, 0, none⟩ = some (.slice (some ⟨gx1, 0, none⟩) n1 n1) := (rx1).cell 0
  have cx2 : w15.cell? ⟨w13.heap.size, 0, none⟩ = some (.slice (some ⟨gx2, 0, none⟩) n2 n2) := (rx2).cell 0
  have dA0 : (w15.alloc (.cells #[.slice Ag mg dg] 30)).cell? ⟨w.heap.size, 0, none⟩ = some (.slice a0 n0 c0) := ((rA0.next bel).alloc _).cell 0
  have dA1 : (w15.alloc (.cells #[.slice Ag mg dg] 30)).cell? ⟨w.heap.size + 1, 0, none⟩ = some (.slice a1 n1 c1) := ((rA1.next bel).alloc _).cell 0
  have dA2 : (w15.alloc (.cells #[.slice Ag mg dg] 30)).cell? ⟨w.heap.size + 1 + 1, 0, none⟩ = some (.slice a2 n2 c2) := ((rA2.next bel).alloc _).cell 0
  have dw : (w15.alloc (.cells #[.slice Ag mg dg] 30)).cell? ⟨bw, 0, none⟩ = some (.slice Aw mw dw) := ((rw.next belw).alloc _).cell 0
  have dx0 : (w15.alloc (.cells #[.slice Ag mg dg] 30)).cell? ⟨w9.heap.size, 0, none⟩ = some (.slice (some ⟨gx0, 0, none⟩) n0 n0) := ((rx0).alloc _).cell 0
  have dx1 : (w15.alloc (.cells #[.slice Ag mg dg] 30)).cell? ⟨w11.heap.size, 0, none⟩ = some (.slice (some ⟨gx1, 0, none⟩) n1 n1) := ((rx1).alloc _).cell 0
  have dx2 : (w15.alloc (.cells #[.slice Ag mg dg] 30)).cell? ⟨w13.heap.size, 0, none⟩ = some (.slice (some ⟨gx2, 0, none⟩) n2 n2) := ((rx2).alloc _).cell 0
  go_wp2_with fail
  obtain ⟨w16, hw⟩ : ∃ W, W = w15.alloc (.cells #[.slice Ag mg dg] 30) := ⟨_, rfl⟩
  rw [← hw]
  have rg : Row w16 w15.heap.size 30 #[.slice Ag mg dg] := by rw [hw]; exact Row.new _ _ _
  have bb : Below w15.heap.size w15 w16 := by rw [hw]; exact (Below.refl _ _).alloc (Nat.le_refl _) _
  have yrg : w15.heap.size < w16.heap.size := by rw [hw]; simp
  clear hw
  replace ox0 := ox0.next bb
  replace rx0 := rx0.next bb
  replace ox1 := ox1.next bb
  replace rx1 := rx1.next bb
  replace ox2 := ox2.next bb
  replace rx2 := rx2.next bb
  replace og := og.next bb
  replace bel := next_trans bel bb
  replace belw := next_trans belw bb
  have zw16 := bb.size
  clear bb
  clear dA0 dA1 dA2 dw dx0 dx1 dx2
  clear cA0 cA1 cA2 cw cx0 cx1 cx2
  have cA0 : w16.cell? ⟨w.heap.size, 0, none⟩ = some (.slice a0 n0 c0) := (rA0.next bel).cell 0
  have cA1 : w16.cell? ⟨w.heap.size + 1, 0, none⟩ = some (.slice a1 n1 c1) := (rA1.next bel).cell 0
  have cA2 : w16.cell? ⟨w.heap.size + 1 + 1, 0, none⟩ = some (.slice a2 n2 c2) := (rA2.next bel).cell 0
  have cw : w16.cell? ⟨bw, 0, none⟩ = some (.slice Aw mw dw) := (rw.next belw).cell 0
  have cx0 : w16.cell? ⟨w9.heap.size, 0, none⟩ = some (.slice (some ⟨gx0, 0, none⟩) n0 n0) := (rx0).cell 0
  have cx1 : w16.cell? ⟨w11.heap.size, 0, none⟩ = some (.slice (some ⟨gx1, 0, none⟩) n1 n1) := (rx1).cell 0
  have cx2 : w16.cell? ⟨w13.heap.size, 0, none⟩ = some (.slice (some ⟨gx2, 0, none⟩) n2 n2) := (rx2).cell 0
  have cg : w16.cell? ⟨w15.heap.size, 0, none⟩ = some (.slice Ag mg dg) := (rg).cell 0
  have hlenn : mg ≤ 1048576 := tot_len og.len hlen.out
  have hmg : sumL ys mg ≤ 1048576 := by have q := hlen.out; unfold tot at q; rw [og.len] at q; omega
  obtain ⟨zg, hzg⟩ : ∃ z, sumL ys mg = z := ⟨_, rfl⟩
  rw [hzg] at hmg
  have HZg := hid hzg
  clear hzg
  refine (substEq _ _ _ _ _ _ ys _ og.rd (sw.next belw) hlen.out).mono ?_
  rintro e w17 ⟨rfl, bb⟩
  replace ox0 := ox0.next bb
  replace rx0 := rx0.next bb
  replace ox1 := ox1.next bb
  replace rx1 := rx1.next bb
  replace ox2 := ox2.next bb
  replace rx2 := rx2.next bb
  replace og := og.next bb
  replace rg := rg.next bb
  replace bel := next_trans bel bb
  replace belw := next_trans belw bb
  have zw17 := bb.size
  clear bb
  clear cA0 cA1 cA2 cw cx0 cx1 cx2 cg
  have cA0 : w17.cell? ⟨w.heap.size, 0, none⟩ = some (.slice a0 n0 c0) := (rA0.next bel).cell 0
  have cA1 : w17.cell? ⟨w.heap.size + 1, 0, none⟩ = some (.slice a1 n1 c1) := (rA1.next bel).cell 0
  have cA2 : w17.cell? ⟨w.heap.size + 1 + 1, 0, none⟩ = some (.slice a2 n2 c2) := (rA2.next bel).cell 0
  have cw : w17.cell? ⟨bw, 0, none⟩ = some (.slice Aw mw dw) := (rw.next belw).cell 0
  have cx0 : w17.cell? ⟨w9.heap.size, 0, none⟩ = some (.slice (some ⟨gx0, 0, none⟩) n0 n0) := (rx0).cell 0
  have cx1 : w17.cell? ⟨w11.heap.size, 0, none⟩ = some (.slice (some ⟨gx1, 0, none⟩) n1 n1) := (rx1).cell 0
  have cx2 : w17.cell? ⟨w13.heap.size, 0, none⟩ = some (.slice (some ⟨gx2, 0, none⟩) n2 n2) := (rx2).cell 0
  have cg : w17.cell? ⟨w15.heap.size, 0, none⟩ = some (.slice Ag mg dg) := (rg).cell 0
  go_wp2_with fail
  replace ox0 := ox0.drew
  replace rx0 := rx0.drew
  replace ox1 := ox1.drew
  replace rx1 := rx1.drew
  replace ox2 := ox2.drew
  replace rx2 := rx2.drew
  replace og := og.drew
  replace rg := rg.drew
  replace bel := bel.drew
  replace belw := belw.drew
  have zdw17 := (drew_below w17).size
  go_region_held3 (fun w' => w'.cell? ⟨w9.heap.size, 0, none⟩ = some (.slice (some ⟨gx0, 0, none⟩) n0 n0) ∧ w'.cell? ⟨w.heap.size, 0, none⟩ = some (.slice a0 n0 c0))
   (go_keep)
   (first
    | (go_at_call 14; refine (sigTo _ _ _ xs0 _ (s0.next bel) h0).mono ?_; rintro e w18 ⟨gt0, rfl, ot, yt0, bb⟩; replace ox0 := ox0.next bb; replace rx0 := rx0.next bb; replace ox1 := ox1.next bb; replace rx1 := rx1.next bb; replace ox2 := ox2.next bb; replace rx2 := rx2.next bb; replace og := og.next bb; replace rg := rg.next bb; replace bel := next_trans bel bb; replace belw := next_trans belw bb; have k0w18 : w18.cell? ⟨w.heap.size, 0, none⟩ = some (.slice a0 n0 c0) := (rA0.next bel).cell 0; have l0w18 : w18.cell? ⟨w9.heap.size, 0, none⟩ = some (.slice (some ⟨gx0, 0, none⟩) n0 n0) := rx0.cell 0; have zqw18 := bb.size; clear bb)
    | (go_at_call 18; refine (sigEq _ _ _ _ _ _ xs0 _ ox0.rd ot.rd h0).mono ?_; rintro e w19 ⟨rfl, bb⟩; replace ox0 := ox0.next bb; replace rx0 := rx0.next bb; replace ox1 := ox1.next bb; replace rx1 := rx1.next bb; replace ox2 := ox2.next bb; replace rx2 := rx2.next bb; replace og := og.next bb; replace rg := rg.next bb; replace bel := next_trans bel bb; replace belw := next_trans belw bb; have k0w19 : w19.cell? ⟨w.heap.size, 0, none⟩ = some (.slice a0 n0 c0) := (rA0.next bel).cell 0; have l0w19 : w19.cell? ⟨w9.heap.size, 0, none⟩ = some (.slice (some ⟨gx0, 0, none⟩) n0 n0) := rx0.cell 0; have zqw19 := bb.size; clear bb ot))
  clear k0w18 l0w18 k0w19 l0w19
  clear cA0 cA1 cA2 cw cx0 cx1 cx2 cg
  have cA0 : w19.cell? ⟨w.heap.size, 0, none⟩ = some (.slice a0 n0 c0) := (rA0.next bel).cell 0
  have cA1 : w19.cell? ⟨w.heap.size + 1, 0, none⟩ = some (.slice a1 n1 c1) := (rA1.next bel).cell 0
  have cA2 : w19.cell? ⟨w.heap.size + 1 + 1, 0, none⟩ = some (.slice a2 n2 c2) := (rA2.next bel).cell 0
  have cw : w19.cell? ⟨bw, 0, none⟩ = some (.slice Aw mw dw) := (rw.next belw).cell 0
  have cx0 : w19.cell? ⟨w9.heap.size, 0, none⟩ = some (.slice (some ⟨gx0, 0, none⟩) n0 n0) := (rx0).cell 0
  have cx1 : w19.cell? ⟨w11.heap.size, 0, none⟩ = some (.slice (some ⟨gx1, 0, none⟩) n1 n1) := (rx1).cell 0
  have cx2 : w19.cell? ⟨w13.heap.size, 0, none⟩ = some (.slice (some ⟨gx2, 0, none⟩) n2 n2) := (rx2).cell 0
  have cg : w19.cell? ⟨w15.heap.size, 0, none⟩ = some (.slice Ag mg dg) := (rg).cell 0
  go_wp2_with fail
  replace ox0 := ox0.drew
  replace rx0 := rx0.drew
  replace ox1 := ox1.drew
  replace rx1 := rx1.drew
  replace ox2 := ox2.drew
  replace rx2 := rx2.drew
  replace og := og.drew
  replace rg := rg.drew
  replace bel := bel.drew
  replace belw := belw.drew
  have zdw19 := (drew_below w19).size
  go_region_held3 (fun w' => w'.cell? ⟨w11.heap.size, 0, none⟩ = some (.slice (some ⟨gx1, 0, none⟩) n1 n1) ∧ w'.cell? ⟨w.heap.size + 1, 0, none⟩ = some (.slice a1 n1 c1))
   (go_keep)
   (first
    | (go_at_call 15; refine (substTo _ _ _ xs1 _ (s1.next bel) h1.out).mono ?_; rintro e w20 ⟨gt1, rfl, ot, yt1, bb⟩; replace ox0 := ox0.next bb; replace rx0 := rx0.next bb; replace ox1 := ox1.next bb; replace rx1 := rx1.next bb; replace ox2 := ox2.next bb; replace rx2 := rx2.next bb; replace og := og.next bb; replace rg := rg.next bb; replace bel := next_trans bel bb; replace belw := next_trans belw bb; have k1w20 : w20.cell? ⟨w.heap.size + 1, 0, none⟩ = some (.slice a1 n1 c1) := (rA1.next bel).cell 0; have l1w20 : w20.cell? ⟨w11.heap.size, 0, none⟩ = some (.slice (some ⟨gx1, 0, none⟩) n1 n1) := rx1.cell 0; have zqw20 := bb.size; clear bb)
    | (go_at_call 17; refine (substEq _ _ _ _ _ _ xs1 _ ox1.rd ot.rd h1.out).mono ?_; rintro e w21 ⟨rfl, bb⟩; replace ox0 := ox0.next bb; replace rx0 := rx0.next bb; replace ox1 := ox1.next bb; replace rx1 := rx1.next bb; replace ox2 := ox2.next bb; replace rx2 := rx2.next bb; replace og := og.next bb; replace rg := rg.next bb; replace bel := next_trans bel bb; replace belw := next_trans belw bb; have k1w21 : w21.cell? ⟨w.heap.size + 1, 0, none⟩ = some (.slice a1 n1 c1) := (rA1.next bel).cell 0; have l1w21 : w21.cell? ⟨w11.heap.size, 0, none⟩ = some (.slice (some ⟨gx1, 0, none⟩) n1 n1) := rx1.cell 0; have zqw21 := bb.size; clear bb ot))
  clear k1w20 l1w20 k1w21 l1w21
  clear cA0 cA1 cA2 cw cx0 cx1 cx2 cg
  have cA0 : w21.cell? ⟨w.heap.size, 0, none⟩ = some (.slice a0 n0 c0) := (rA0.next bel).cell 0
  have cA1 : w21.cell? ⟨w.heap.size + 1, 0, none⟩ = some (.slice a1 n1 c1) := (rA1.next bel).cell 0
  have cA2 : w21.cell? ⟨w.heap.size + 1 + 1, 0, none⟩ = some (.slice a2 n2 c2) := (rA2.next bel).cell 0
  have cw : w21.cell? ⟨bw, 0, none⟩ = some (.slice Aw mw dw) := (rw.next belw).cell 0
  have cx0 : w21.cell? ⟨w9.heap.size, 0, none⟩ = some (.slice (some ⟨gx0, 0, none⟩) n0 n0) := (rx0).cell 0
  have cx1 : w21.cell? ⟨w11.heap.size, 0, none⟩ = some (.slice (some ⟨gx1, 0, none⟩) n1 n1) := (rx1).cell 0
  have cx2 : w21.cell? ⟨w13.heap.size, 0, none⟩ = some (.slice (some ⟨gx2, 0, none⟩) n2 n2) := (rx2).cell 0
  have cg : w21.cell? ⟨w15.heap.size, 0, none⟩ = some (.slice Ag mg dg) := (rg).cell 0
  go_wp2_with fail
  replace ox0 := ox0.drew
  replace rx0 := rx0.drew
  replace ox1 := ox1.drew
  replace rx1 := rx1.drew
  replace ox2 := ox2.drew
  replace rx2 := rx2.drew
  replace og := og.drew
  replace rg := rg.drew
  replace bel := bel.drew
  replace belw := belw.drew
  have zdw21 := (drew_below w21).size
  go_region_held3 (fun w' => w'.cell? ⟨w13.heap.size, 0, none⟩ = some (.slice (some ⟨gx2, 0, none⟩) n2 n2) ∧ w'.cell? ⟨w.heap.size + 1 + 1, 0, none⟩ = some (.slice a2 n2 c2))
   (go_keep)
   (first
    | (go_at_call 15; refine (substTo _ _ _ xs2 _ (s2.next bel) h2.out).mono ?_; rintro e w22 ⟨gt2, rfl, ot, yt2, bb⟩; replace ox0 := ox0.next bb; replace rx0 := rx0.next bb; replace ox1 := ox1.next bb; replace rx1 := rx1.next bb; replace ox2 := ox2.next bb; replace rx2 := rx2.next bb; replace og := og.next bb; replace rg := rg.next bb; replace bel := next_trans bel bb; replace belw := next_trans belw bb; have k2w22 : w22.cell? ⟨w.heap.size + 1 + 1, 0, none⟩ = some (.slice a2 n2 c2) := (rA2.next bel).cell 0; have l2w22 : w22.cell? ⟨w13.heap.size, 0, none⟩ = some (.slice (some ⟨gx2, 0, none⟩) n2 n2) := rx2.cell 0; have zqw22 := bb.size; clear bb)
    | (go_at_call 17; refine (substEq _ _ _ _ _ _ xs2 _ ox2.rd ot.rd h2.out).mono ?_; rintro e w23 ⟨rfl, bb⟩; replace ox0 := ox0.next bb; replace rx0 := rx0.next bb; replace ox1 := ox1.next bb; replace rx1 := rx1.next bb; replace ox2 := ox2.next bb; replace rx2 := rx2.next bb; replace og := og.next bb; replace rg := rg.next bb; replace bel := next_trans bel bb; replace belw := next_trans belw bb; have k2w23 : w23.cell? ⟨w.heap.size + 1 + 1, 0, none⟩ = some (.slice a2 n2 c2) := (rA2.next bel).cell 0; have l2w23 : w23.cell? ⟨w13.heap.size, 0, none⟩ = some (.slice (some ⟨gx2, 0, none⟩) n2 n2) := rx2.cell 0; have zqw23 := bb.size; clear bb ot))
  clear k2w22 l2w22 k2w23 l2w23
  clear cA0 cA1 cA2 cw cx0 cx1 cx2 cg
  have cA0 : w23.cell? ⟨w.heap.size, 0, none⟩ = some (.slice a0 n0 c0) := (rA0.next bel).cell 0
  have cA1 : w23.cell? ⟨w.heap.size + 1, 0, none⟩ = some (.slice a1 n1 c1) := (rA1.next bel).cell 0
  have cA2 : w23.cell? ⟨w.heap.size + 1 + 1, 0, none⟩ = some (.slice a2 n2 c2) := (rA2.next bel).cell 0
  have cw : w23.cell? ⟨bw, 0, none⟩ = some (.slice Aw mw dw) := (rw.next belw).cell 0
  have cx0 : w23.cell? ⟨w9.heap.size, 0, none⟩ = some (.slice (some ⟨gx0, 0, none⟩) n0 n0) := (rx0).cell 0
  have cx1 : w23.cell? ⟨w11.heap.size, 0, none⟩ = some (.slice (some ⟨gx1, 0, none⟩) n1 n1) := (rx1).cell 0
  have cx2 : w23.cell? ⟨w13.heap.size, 0, none⟩ = some (.slice (some ⟨gx2, 0, none⟩) n2 n2) := (rx2).cell 0
  have cg : w23.cell? ⟨w15.heap.size, 0, none⟩ = some (.slice Ag mg dg) := (rg).cell 0
  go_wp2_with fail
  refine (sigMark (w8.heap.size) (w9.heap.size) _ _ _ xs0 (1) _ ox0 h0 (by omega) (by omega)).mono ?_
  rintro e w24 ⟨he, -, bt⟩
  subst he
  clear ox0
  replace rx0 := Row.btw rx0 bt (by omega)
  replace ox1 := ox1.btw bt (by omega)
  replace rx1 := Row.btw rx1 bt (by omega)
  replace ox2 := ox2.btw bt (by omega)
  replace rx2 := Row.btw rx2 bt (by omega)
  replace og := og.btw bt (by omega)
  replace rg := Row.btw rg bt (by omega)
  replace bel := Below.btw bel bt (by omega) bel.size
  replace belw := Below.btw belw bt (by omega) belw.size
  have zw24 := bt.size
  clear bt
  clear cA0 cA1 cA2 cw cx0 cx1 cx2 cg
  have cA0 : w24.cell? ⟨w.heap.size, 0, none⟩ = some (.slice a0 n0 c0) := (rA0.next bel).cell 0
  have cA1 : w24.cell? ⟨w.heap.size + 1, 0, none⟩ = some (.slice a1 n1 c1) := (rA1.next bel).cell 0
  have cA2 : w24.cell? ⟨w.heap.size + 1 + 1, 0, none⟩ = some (.slice a2 n2 c2) := (rA2.next bel).cell 0
  have cw : w24.cell? ⟨bw, 0, none⟩ = some (.slice Aw mw dw) := (rw.next belw).cell 0
  have cx0 : w24.cell? ⟨w9.heap.size, 0, none⟩ = some (.slice (some ⟨gx0, 0, none⟩) n0 n0) := (rx0).cell 0
  have cx1 : w24.cell? ⟨w11.heap.size, 0, none⟩ = some (.slice (some ⟨gx1, 0, none⟩) n1 n1) := (rx1).cell 0
  have cx2 : w24.cell? ⟨w13.heap.size, 0, none⟩ = some (.slice (some ⟨gx2, 0, none⟩) n2 n2) := (rx2).cell 0
  have cg : w24.cell? ⟨w15.heap.size, 0, none⟩ = some (.slice Ag mg dg) := (rg).cell 0
  go_wp2_with fail
  refine (substMark (w10.heap.size) (w11.heap.size) _ _ _ xs1 (1 + (n0 : Int)) _ ox1 (by omega) h1.out (by omega) (by omega)).mono ?_
  rintro e w25 ⟨he, -, bt⟩
  rw [HZ1.out] at he
  subst he
  clear ox1
  replace rx0 := Row.btw rx0 bt (by omega)
  replace rx1 := Row.btw rx1 bt (by omega)
  replace ox2 := ox2.btw bt (by omega)
  replace rx2 := Row.btw rx2 bt (by omega)
  replace og := og.btw bt (by omega)
  replace rg := Row.btw rg bt (by omega)
  replace bel := Below.btw bel bt (by omega) bel.size
  replace belw := Below.btw belw bt (by omega) belw.size
  have zw25 := bt.size
  clear bt
  clear cA0 cA1 cA2 cw cx0 cx1 cx2 cg
  have cA0 : w25.cell? ⟨w.heap.size, 0, none⟩ = some (.slice a0 n0 c0) := (rA0.next bel).cell 0
  have cA1 : w25.cell? ⟨w.heap.size + 1, 0, none⟩ = some (.slice a1 n1 c1) := (rA1.next bel).cell 0
  have cA2 : w25.cell? ⟨w.heap.size + 1 + 1, 0, none⟩ = some (.slice a2 n2 c2) := (rA2.next bel).cell 0
  have cw : w25.cell? ⟨bw, 0, none⟩ = some (.slice Aw mw dw) := (rw.next belw).cell 0
  have cx0 : w25.cell? ⟨w9.heap.size, 0, none⟩ = some (.slice (some ⟨gx0, 0, none⟩) n0 n0) := (rx0).cell 0
  have cx1 : w25.cell? ⟨w11.heap.size, 0, none⟩ = some (.slice (some ⟨gx1, 0, none⟩) n1 n1) := (rx1).cell 0
  have cx2 : w25.cell? ⟨w13.heap.size, 0, none⟩ = some (.slice (some ⟨gx2, 0, none⟩) n2 n2) := (rx2).cell 0
  have cg : w25.cell? ⟨w15.heap.size, 0, none⟩ = some (.slice Ag mg dg) := (rg).cell 0
  go_wp2_with fail
  refine (substMark (w12.heap.size) (w13.heap.size) _ _ _ xs2 (1 + (n0 : Int) + (z1 : Int)) _ ox2 (by omega) h2.out (by omega) (by omega)).mono ?_
  rintro e w26 ⟨he, -, bt⟩
  rw [HZ2.out] at he
  subst he
  clear ox2
  replace rx0 := Row.btw rx0 bt (by omega)
  replace rx1 := Row.btw rx1 bt (by omega)
  replace rx2 := Row.btw rx2 bt (by omega)
  replace og := og.btw bt (by omega)
  replace rg := Row.btw rg bt (by omega)
  replace bel := Below.btw bel bt (by omega) bel.size
  replace belw := Below.btw belw bt (by omega) belw.size
  have zw26 := bt.size
  clear bt
  clear cA0 cA1 cA2 cw cx0 cx1 cx2 cg
  have cA0 : w26.cell? ⟨w.heap.size, 0, none⟩ = some (.slice a0 n0 c0) := (rA0.next bel).cell 0
  have cA1 : w26.cell? ⟨w.heap.size + 1, 0, none⟩ = some (.slice a1 n1 c1) := (rA1.next bel).cell 0
  have cA2 : w26.cell? ⟨w.heap.size + 1 + 1, 0, none⟩ = some (.slice a2 n2 c2) := (rA2.next bel).cell 0
  have cw : w26.cell? ⟨bw, 0, none⟩ = some (.slice Aw mw dw) := (rw.next belw).cell 0
  have cx0 : w26.cell? ⟨w9.heap.size, 0, none⟩ = some (.slice (some ⟨gx0, 0, none⟩) n0 n0) := (rx0).cell 0
  have cx1 : w26.cell? ⟨w11.heap.size, 0, none⟩ = some (.slice (some ⟨gx1, 0, none⟩) n1 n1) := (rx1).cell 0
  have cx2 : w26.cell? ⟨w13.heap.size, 0, none⟩ = some (.slice (some ⟨gx2, 0, none⟩) n2 n2) := (rx2).cell 0
  have cg : w26.cell? ⟨w15.heap.size, 0, none⟩ = some (.slice Ag mg dg) := (rg).cell 0
  clear rx0
  clear rx1
  clear rx2
  clear cA0 cA1 cA2 cw cx0 cx1 cx2 cg
  have cA0 : w26.cell? ⟨w.heap.size, 0, none⟩ = some (.slice a0 n0 c0) := (rA0.next bel).cell 0
  have cA1 : w26.cell? ⟨w.heap.size + 1, 0, none⟩ = some (.slice a1 n1 c1) := (rA1.next bel).cell 0
  have cA2 : w26.cell? ⟨w.heap.size + 1 + 1, 0, none⟩ = some (.slice a2 n2 c2) := (rA2.next bel).cell 0
  have cw : w26.cell? ⟨bw, 0, none⟩ = some (.slice Aw mw dw) := (rw.next belw).cell 0
  have cg : w26.cell? ⟨w15.heap.size, 0, none⟩ = some (.slice Ag mg dg) := (rg).cell 0
  go_wp2_with fail
  refine (substEq _ _ _ _ _ _ ys _ og.rd (sw.next belw) hlen.out).mono ?_
  rintro e w27 ⟨rfl, bb⟩
  replace og := og.next bb
  replace rg := rg.next bb
  replace bel := next_trans bel bb
  replace belw := next_trans belw bb
  have zw27 := bb.size
  clear bb
  clear cA0 cA1 cA2 cw cg
  have cA0 : w27.cell? ⟨w.heap.size, 0, none⟩ = some (.slice a0 n0 c0) := (rA0.next bel).cell 0
  have cA1 : w27.cell? ⟨w.heap.size + 1, 0, none⟩ = some (.slice a1 n1 c1) := (rA1.next bel).cell 0
  have cA2 : w27.cell? ⟨w.heap.size + 1 + 1, 0, none⟩ = some (.slice a2 n2 c2) := (rA2.next bel).cell 0
  have cw : w27.cell? ⟨bw, 0, none⟩ = some (.slice Aw mw dw) := (rw.next belw).cell 0
  have cg : w27.cell? ⟨w15.heap.size, 0, none⟩ = some (.slice Ag mg dg) := (rg).cell 0
  go_wp2_with fail
  refine (substMark (w14.heap.size) (w15.heap.size) _ _ _ ys 1 _ og (by omega) hlen.out (by omega) (by omega)).mono ?_
  rintro e w28 ⟨he, om, bt⟩
  rw [HZg.out] at he
  subst he
  clear og
  replace rg := Row.btw rg bt (by omega)
  replace bel := Below.btw bel bt (by omega) bel.size
  replace belw := Below.btw belw bt (by omega) belw.size
  have zw28 := bt.size
  clear bt
  clear cA0 cA1 cA2 cw cg
  have cA0 : w28.cell? ⟨w.heap.size, 0, none⟩ = some (.slice a0 n0 c0) := (rA0.next bel).cell 0
  have cA1 : w28.cell? ⟨w.heap.size + 1, 0, none⟩ = some (.slice a1 n1 c1) := (rA1.next bel).cell 0
  have cA2 : w28.cell? ⟨w.heap.size + 1 + 1, 0, none⟩ = some (.slice a2 n2 c2) := (rA2.next bel).cell 0
  have cw : w28.cell? ⟨bw, 0, none⟩ = some (.slice Aw mw dw) := (rw.next belw).cell 0
  have cg : w28.cell? ⟨w15.heap.size, 0, none⟩ = some (.slice Ag mg dg) := (rg).cell 0
  go_wp2_with fail
  refine (substHeld _ _ _ ys 1 _ om.rd hlen.out (by omega) (by omega)).mono ?_
  rintro e w29 ⟨he, bb⟩
  rw [HZg.out] at he
  subst he
  replace rg := rg.next bb
  replace om := om.next bb
  replace bel := next_trans bel bb
  replace belw := next_trans belw bb
  have zw29 := bb.size
  clear bb
  clear cA0 cA1 cA2 cw cg
  have cA0 : w29.cell? ⟨w.heap.size, 0, none⟩ = some (.slice a0 n0 c0) := (rA0.next bel).cell 0
  have cA1 : w29.cell? ⟨w.heap.size + 1, 0, none⟩ = some (.slice a1 n1 c1) := (rA1.next bel).cell 0
  have cA2 : w29.cell? ⟨w.heap.size + 1 + 1, 0, none⟩ = some (.slice a2 n2 c2) := (rA2.next bel).cell 0
  have cw : w29.cell? ⟨bw, 0, none⟩ = some (.slice Aw mw dw) := (rw.next belw).cell 0
  have cg : w29.cell? ⟨w15.heap.size, 0, none⟩ = some (.slice Ag mg dg) := (rg).cell 0
  go_upto_region 38 with (fail)
  replace rg := rg.drew
  replace om := om.drew
  replace bel := bel.drew
  replace belw := belw.drew
  have zdw29 := (drew_below w29).size
  go_cut [18, 19] (fun s18 s19 wx => Boxed (w29.drew) ys s18 wx ∧ s19 = .bool v)
  case first =>
   have bs := Below.refl (w29.drew).heap.size (w29.drew)
   have bl := bel
   have zst := bl.size
   have c0S := hid (show w29.drew.cell? ⟨w.heap.size, 0, none⟩ = some (.slice a0 n0 c0) ∧ w29.drew.cell? ⟨w.heap.size + 1, 0, none⟩ = some (.slice a1 n1 c1) ∧ w29.drew.cell? ⟨w.heap.size + 1 + 1, 0, none⟩ = some (.slice a2 n2 c2) from ⟨(show w29.drew.cell? ⟨w.heap.size, 0, none⟩ = some (.slice a0 n0 c0) from (rA0.next bl).cell 0), (show w29.drew.cell? ⟨w.heap.size + 1, 0, none⟩ = some (.slice a1 n1 c1) from (rA1.next bl).cell 0), (show w29.drew.cell? ⟨w.heap.size + 1 + 1, 0, none⟩ = some (.slice a2 n2 c2) from (rA2.next bl).cell 0)⟩)
   clear bel belw rg om cA0 cA1 cA2 cw cg
   refine wp_region_held_drew (S := fun w' => w'.cell? ⟨w.heap.size, 0, none⟩ = some (.slice a0 n0 c0) ∧ w'.cell? ⟨w.heap.size + 1, 0, none⟩ = some (.slice a1 n1 c1) ∧ w'.cell? ⟨w.heap.size + 1 + 1, 0, none⟩ = some (.slice a2 n2 c2)) (by kernel_rfl) c0S.out (fun hHeld => ?_)
   refine wpAnyH_take (i := 0) (v := ?_) rfl (by kernel_rfl) (by kernel_rfl) (by kernel_rfl) (fun _ _ _ h => h) (Or.inl ⟨by rfl, ?_⟩) (by assumption) ?_
   rotate_left 1
   ·(intro w0 hSw; (try dsimp only at hSw); go_simp; try with_reducible rfl)
   try simp only [Act.put, setIfInBounds_toArray, set_cons_zero, set_cons_succ, getElem_toArray, getElem_cons_zero, getElem_cons_succ]
   refine wpAnyH_take (i := 2) (v := ?_) rfl (by kernel_rfl) (by kernel_rfl) (by kernel_rfl) (fun _ _ _ h => h) (Or.inl ⟨by rfl, ?_⟩) (by assumption) ?_
   rotate_left 1
   ·(intro w0 hSw; (try dsimp only at hSw); go_simp; try with_reducible rfl)
   try simp only [Act.put, setIfInBounds_toArray, set_cons_zero, set_cons_succ, getElem_toArray, getElem_cons_zero, getElem_cons_succ]
   refine wpAnyH_take (i := 4) (v := ?_) rfl (by kernel_rfl) (by kernel_rfl) (by kernel_rfl) (fun _ _ _ h => h) (Or.inl ⟨by rfl, ?_⟩) (by assumption) ?_
   rotate_left 1
   ·(intro w0 hSw; (try dsimp only at hSw); go_simp; try with_reducible rfl)
   try simp only [Act.put, setIfInBounds_toArray, set_cons_zero, set_cons_succ, getElem_toArray, getElem_cons_zero, getElem_cons_succ]
   refine wpAnyH_ready (rs := [1, 10]) (by kernel_rfl) (by simp) (AllReadyH.cons rfl (fun K hK => ?_) (AllReadyH.cons rfl (fun K hK => ?_) AllReadyH.nil))
   ·skip
    try simp only [Act.put, setIfInBounds_toArray, set_cons_zero, set_cons_succ, getElem_toArray, getElem_cons_zero, getElem_cons_succ]
    rw [if_pos (by rfl)]
    go_simp
    refine (sigTo _ _ _ xs0 _ (s0.next bl) h0).mono ?_
    rintro e v20 ⟨gq0, rfl, oq0, yq0, bb⟩
    replace bl := next_trans bl bb
    replace bs := next_trans bs bb
    have zqv20 := bb.size
    clear bb
    go_wp2_with fail
    refine hK.out _ _ ?_ (fun hHeld => ?_)
    ·exact ⟨(show v20.cell? ⟨w.heap.size, 0, none⟩ = some (.slice a0 n0 c0) from (rA0.next bl).cell 0), (show v20.cell? ⟨w.heap.size + 1, 0, none⟩ = some (.slice a1 n1 c1) from (rA1.next bl).cell 0), (show v20.cell? ⟨w.heap.size + 1 + 1, 0, none⟩ = some (.slice a2 n2 c2) from (rA2.next bl).cell 0)⟩
    clear hK K
    try simp only [Act.put, setIfInBounds_toArray, set_cons_zero, set_cons_succ, getElem_toArray, getElem_cons_zero, getElem_cons_succ]
    refine wpAnyH_ready (rs := [3, 10]) (by kernel_rfl) (by simp) (AllReadyH.cons rfl (fun K hK => ?_) (AllReadyH.cons rfl (fun K hK => ?_) AllReadyH.nil))
    ·skip
     try simp only [Act.put, setIfInBounds_toArray, set_cons_zero, set_cons_succ, getElem_toArray, getElem_cons_zero, getElem_cons_succ]
     rw [if_pos (by rfl)]
     go_simp
     refine (substTo _ _ _ xs1 _ (s1.next bl) h1.out).mono ?_
     rintro e v21 ⟨gq1, rfl, oq1, yq1, bb⟩
     replace oq0 := oq0.next bb
     replace bl := next_trans bl bb
     replace bs := next_trans bs bb
     have zqv21 := bb.size
     clear bb
     go_wp2_with fail
     refine hK.out _ _ ?_ (fun hHeld => ?_)
     ·exact ⟨(show v21.cell? ⟨w.heap.size, 0, none⟩ = some (.slice a0 n0 c0) from (rA0.next bl).cell 0), (show v21.cell? ⟨w.heap.size + 1, 0, none⟩ = some (.slice a1 n1 c1) from (rA1.next bl).cell 0), (show v21.cell? ⟨w.heap.size + 1 + 1, 0, none⟩ = some (.slice a2 n2 c2) from (rA2.next bl).cell 0)⟩
     clear hK K
     try simp only [Act.put, setIfInBounds_toArray, set_cons_zero, set_cons_succ, getElem_toArray, getElem_cons_zero, getElem_cons_succ]
     refine wpAnyH_ready (rs := [5, 10]) (by kernel_rfl) (by simp) (AllReadyH.cons rfl (fun K hK => ?_) (AllReadyH.cons rfl (fun K hK => ?_) AllReadyH.nil))
     ·skip
      try simp only [Act.put, setIfInBounds_toArray, set_cons_zero, set_cons_succ, getElem_toArray, getElem_cons_zero, getElem_cons_succ]
      rw [if_pos (by rfl)]
      go_simp
      refine (substTo _ _ _ xs2 _ (s2.next bl) h2.out).mono ?_
      rintro e v22 ⟨gq2, rfl, oq2, yq2, bb⟩
      replace oq0 := oq0.next bb
      replace oq1 := oq1.next bb
      replace bl := next_trans bl bb
      replace bs := next_trans bs bb
      have zqv22 := bb.size
      clear bb
      go_wp2_with fail
      refine hK.out _ _ ?_ (fun hHeld => ?_)
      ·exact ⟨(show v22.cell? ⟨w.heap.size, 0, none⟩ = some (.slice a0 n0 c0) from (rA0.next bl).cell 0), (show v22.cell? ⟨w.heap.size + 1, 0, none⟩ = some (.slice a1 n1 c1) from (rA1.next bl).cell 0), (show v22.cell? ⟨w.heap.size + 1 + 1, 0, none⟩ = some (.slice a2 n2 c2) from (rA2.next bl).cell 0)⟩
      clear hK K
      try simp only [Act.put, setIfInBounds_toArray, set_cons_zero, set_cons_succ, getElem_toArray, getElem_cons_zero, getElem_cons_succ]
      refine wpAnyH_ready (rs := [6, 10]) (by kernel_rfl) (by simp) (AllReadyH.cons rfl (fun K hK => ?_) (AllReadyH.cons rfl (fun K hK => ?_) AllReadyH.nil))
      ·skip
       try simp only [Act.put, setIfInBounds_toArray, set_cons_zero, set_cons_succ, getElem_toArray, getElem_cons_zero, getElem_cons_succ]
       rw [if_pos (by rfl)]
       go_simp
       refine (implComposed _ _ _ _ _ _ _ _ _ xs0 xs1 xs2 _ oq0.rd oq1.rd oq2.rd h0 h1.out h2.out).mono ?_
       rintro e v23 ⟨A0, m0, d0, he, o0, bb⟩
       rw [HV.out] at he
       subst he
       rw [HY.out] at o0
       replace oq0 := oq0.next bb
       replace oq1 := oq1.next bb
       replace oq2 := oq2.next bb
       replace bl := next_trans bl bb
       replace bs := next_trans bs bb
       have zqv23 := bb.size
       clear bb
       clear oq0 oq1 oq2
       go_wp2_with fail
       refine hK.out _ _ ?_ (fun hHeld => ?_)
       ·exact ⟨(show v23.cell? ⟨w.heap.size, 0, none⟩ = some (.slice a0 n0 c0) from (rA0.next bl).cell 0), (show v23.cell? ⟨w.heap.size + 1, 0, none⟩ = some (.slice a1 n1 c1) from (rA1.next bl).cell 0), (show v23.cell? ⟨w.heap.size + 1 + 1, 0, none⟩ = some (.slice a2 n2 c2) from (rA2.next bl).cell 0)⟩
       clear hK K
       try simp only [Act.put, setIfInBounds_toArray, set_cons_zero, set_cons_succ, getElem_toArray, getElem_cons_zero, getElem_cons_succ]
       refine wpAnyH_take (i := 7) (v := ?_) rfl (by kernel_rfl) (by kernel_rfl) (by kernel_rfl) (fun _ _ _ h => h) (Or.inl ⟨by rfl, ?_⟩) (by assumption) ?_
       rotate_left 1
       ·(intro w0 hSw; (try dsimp only at hSw); go_simp; try with_reducible rfl)
       try simp only [Act.put, setIfInBounds_toArray, set_cons_zero, set_cons_succ, getElem_toArray, getElem_cons_zero, getElem_cons_succ]
       refine wpAnyH_take (i := 8) (v := ?_) rfl (by kernel_rfl) (by kernel_rfl) (by kernel_rfl) (fun _ _ _ h => h) (Or.inl ⟨by rfl, ?_⟩) (by assumption) ?_
       rotate_left 1
       ·(intro w0 hSw; (try dsimp only at hSw); go_simp; try with_reducible rfl)
       try simp only [Act.put, setIfInBounds_toArray, set_cons_zero, set_cons_succ, getElem_toArray, getElem_cons_zero, getElem_cons_succ]
       refine wpAnyH_take (i := 9) (v := ?_) rfl (by kernel_rfl) (by kernel_rfl) (by kernel_rfl) (fun _ _ _ h => h) (Or.inl ⟨by rfl, ?_⟩) (by assumption) ?_
       rotate_left 1
       ·(intro w0 hSw; (try dsimp only at hSw); go_simp; try with_reducible rfl)
       try simp only [Act.put, setIfInBounds_toArray, set_cons_zero, set_cons_succ, getElem_toArray, getElem_cons_zero, getElem_cons_succ]
       refine wpAnyH_ready (rs := [10]) (by kernel_rfl) (by simp) (AllReadyH.cons rfl (fun K hK => ?_) AllReadyH.nil)
       try simp only [Act.put, setIfInBounds_toArray, set_cons_zero, set_cons_succ, getElem_toArray, getElem_cons_zero, getElem_cons_succ]
       rw [if_pos (by rfl)]
       go_simp
       obtain ⟨v24, hw⟩ : ∃ W, W = (v23.alloc (.cells #[.slice none 0 0] 30)) := ⟨_, rfl⟩
       rw [← hw]
       have rg : Row v24 v23.heap.size 30 #[.slice none 0 0] := by rw [hw]; exact Row.new _ _ _
       have bb : Below v23.heap.size v23 v24 := by rw [hw]; exact (Below.refl _ _).alloc (Nat.le_refl _) _
       have ygg : v23.heap.size < v24.heap.size := rg.lt
       have hgB : w29.drew.heap.size ≤ v23.heap.size := bs.size
       clear hw
       replace o0 := o0.next bb
       replace bl := next_trans bl bb
       replace bs := next_trans bs bb
       have zqv24 := bb.size
       clear bb
       refine hK.out _ _ ?_ (fun hHeld => ?_)
       ·exact ⟨(show v24.cell? ⟨w.heap.size, 0, none⟩ = some (.slice a0 n0 c0) from (rA0.next bl).cell 0), (show v24.cell? ⟨w.heap.size + 1, 0, none⟩ = some (.slice a1 n1 c1) from (rA1.next bl).cell 0), (show v24.cell? ⟨w.heap.size + 1 + 1, 0, none⟩ = some (.slice a2 n2 c2) from (rA2.next bl).cell 0)⟩
       clear hK K
       try simp only [Act.put, setIfInBounds_toArray, set_cons_zero, set_cons_succ, getElem_toArray, getElem_cons_zero, getElem_cons_succ]
       have cg : v24.cell? ⟨v23.heap.size, 0, none⟩ = some (.slice none 0 0) := rg.cell 0
       have fg : v24.frozen? ⟨v23.heap.size, 0, none⟩ = false := rg.free 0
       have hne0 : v23.heap.size ≠ w.heap.size := by omega
       have hne1 : v23.heap.size ≠ w.heap.size + 1 := by omega
       have hne2 : v23.heap.size ≠ w.heap.size + 1 + 1 := by omega
       refine wpAnyH_ready (rs := [11]) (by kernel_rfl) (by simp) (AllReadyH.cons rfl (fun K hK => ?_) AllReadyH.nil)
       try simp only [Act.put, setIfInBounds_toArray, set_cons_zero, set_cons_succ, getElem_toArray, getElem_cons_zero, getElem_cons_succ]
       rw [if_pos (by rfl)]
       go_simp
       refine hK.out _ _ ?_ (fun hHeld => ?_)
       ·exact ⟨far_cell hne0 (show v24.cell? ⟨w.heap.size, 0, none⟩ = some (.slice a0 n0 c0) from (rA0.next bl).cell 0), far_cell hne1 (show v24.cell? ⟨w.heap.size + 1, 0, none⟩ = some (.slice a1 n1 c1) from (rA1.next bl).cell 0), far_cell hne2 (show v24.cell? ⟨w.heap.size + 1 + 1, 0, none⟩ = some (.slice a2 n2 c2) from (rA2.next bl).cell 0)⟩
       clear hK K
       try simp only [Act.put, setIfInBounds_toArray, set_cons_zero, set_cons_succ, getElem_toArray, getElem_cons_zero, getElem_cons_succ]
       refine wpAnyH_take (i := 12) (v := ?_) rfl (by kernel_rfl) (by kernel_rfl) (by kernel_rfl) (fun _ _ _ h => h) (Or.inl ⟨by rfl, ?_⟩) (by assumption) ?_
       rotate_left 1
       ·(intro w0 hSw; (try dsimp only at hSw); go_simp; try with_reducible rfl)
       try simp only [Act.put, setIfInBounds_toArray, set_cons_zero, set_cons_succ, getElem_toArray, getElem_cons_zero, getElem_cons_succ]
       refine wpAnyH_done (by kernel_rfl) ?_ _
       have F := boxed_put (W := w29.drew) o0 rg (by omega) bs hgB
       clear cg fg bl rg o0 bs hne0 hne1 hne2
       go_wp2_with fail
       go_meet
       exact ⟨F, rfl⟩
      ·skip
       try simp only [Act.put, setIfInBounds_toArray, set_cons_zero, set_cons_succ, getElem_toArray, getElem_cons_zero, getElem_cons_succ]
       rw [if_pos (by rfl)]
       go_simp
       obtain ⟨v25, hw⟩ : ∃ W, W = (v22.alloc (.cells #[.slice none 0 0] 30)) := ⟨_, rfl⟩
       rw [← hw]
       have rg : Row v25 v22.heap.size 30 #[.slice none 0 0] := by rw [hw]; exact Row.new _ _ _
       have bb : Below v22.heap.size v22 v25 := by rw [hw]; exact (Below.refl _ _).alloc (Nat.le_refl _) _
       have ygg : v22.heap.size < v25.heap.size := rg.lt
       have hgB : w29.drew.heap.size ≤ v22.heap.size := bs.size
       clear hw
       replace oq0 := oq0.next bb
       replace oq1 := oq1.next bb
       replace oq2 := oq2.next bb
       replace bl := next_trans bl bb
       replace bs := next_trans bs bb
       have zqv25 := bb.size
       clear bb
       refine hK.out _ _ ?_ (fun hHeld => ?_)
       ·exact ⟨(show v25.cell? ⟨w.heap.size, 0, none⟩ = some (.slice a0 n0 c0) from (rA0.next bl).cell 0), (show v25.cell? ⟨w.heap.size + 1, 0, none⟩ = some (.slice a1 n1 c1) from (rA1.next bl).cell 0), (show v25.cell? ⟨w.heap.size + 1 + 1, 0, none⟩ = some (.slice a2 n2 c2) from (rA2.next bl).cell 0)⟩
       clear hK K
       try simp only [Act.put, setIfInBounds_toArray, set_cons_zero, set_cons_succ, getElem_toArray, getElem_cons_zero, getElem_cons_succ]
       refine wpAnyH_ready (rs := [6]) (by kernel_rfl) (by simp) (AllReadyH.cons rfl (fun K hK => ?_) AllReadyH.nil)
       try simp only [Act.put, setIfInBounds_toArray, set_cons_zero, set_cons_succ, getElem_toArray, getElem_cons_zero, getElem_cons_succ]
       rw [if_pos (by rfl)]
       go_simp
       refine (implComposed _ _ _ _ _ _ _ _ _ xs0 xs1 xs2 _ oq0.rd oq1.rd oq2.rd h0 h1.out h2.out).mono ?_
       rintro e v26 ⟨A0, m0, d0, he, o0, bb⟩
       rw [HV.out] at he
       subst he
       rw [HY.out] at o0
       replace oq0 := oq0.next bb
       replace oq1 := oq1.next bb
       replace oq2 := oq2.next bb
       replace rg := rg.next bb
       replace bl := next_trans bl bb
       replace bs := next_trans bs bb
       have zqv26 := bb.size
       clear bb
       clear oq0 oq1 oq2
       go_wp2_with fail
       refine hK.out _ _ ?_ (fun hHeld => ?_)
       ·exact ⟨(show v26.cell? ⟨w.heap.size, 0, none⟩ = some (.slice a0 n0 c0) from (rA0.next bl).cell 0), (show v26.cell? ⟨w.heap.size + 1, 0, none⟩ = some (.slice a1 n1 c1) from (rA1.next bl).cell 0), (show v26.cell? ⟨w.heap.size + 1 + 1, 0, none⟩ = some (.slice a2 n2 c2) from (rA2.next bl).cell 0)⟩
       clear hK K
       try simp only [Act.put, setIfInBounds_toArray, set_cons_zero, set_cons_succ, getElem_toArray, getElem_cons_zero, getElem_cons_succ]
       refine wpAnyH_take (i := 7) (v := ?_) rfl (by kernel_rfl) (by kernel_rfl) (by kernel_rfl) (fun _ _ _ h => h) (Or.inl ⟨by rfl, ?_⟩) (by assumption) ?_
       rotate_left 1
       ·(intro w0 hSw; (try dsimp only at hSw); go_simp; try with_reducible rfl)
       try simp only [Act.put, setIfInBounds_toArray, set_cons_zero, set_cons_succ, getElem_toArray, getElem_cons_zero, getElem_cons_succ]
       refine wpAnyH_take (i := 8) (v := ?_) rfl (by kernel_rfl) (by kernel_rfl) (by kernel_rfl) (fun _ _ _ h => h) (Or.inl ⟨by rfl, ?_⟩) (by assumption) ?_
       rotate_left 1
       ·(intro w0 hSw; (try dsimp only at hSw); go_simp; try with_reducible rfl)
       try simp only [Act.put, setIfInBounds_toArray, set_cons_zero, set_cons_succ, getElem_toArray, getElem_cons_zero, getElem_cons_succ]
       refine wpAnyH_take (i := 9) (v := ?_) rfl (by kernel_rfl) (by kernel_rfl) (by kernel_rfl) (fun _ _ _ h => h) (Or.inl ⟨by rfl, ?_⟩) (by assumption) ?_
       rotate_left 1
       ·(intro w0 hSw; (try dsimp only at hSw); go_simp; try with_reducible rfl)
       try simp only [Act.put, setIfInBounds_toArray, set_cons_zero, set_cons_succ, getElem_toArray, getElem_cons_zero, getElem_cons_succ]
       have cg : v26.cell? ⟨v22.heap.size, 0, none⟩ = some (.slice none 0 0) := rg.cell 0
       have fg : v26.frozen? ⟨v22.heap.size, 0, none⟩ = false := rg.free 0
       have hne0 : v22.heap.size ≠ w.heap.size := by omega
       have hne1 : v22.heap.size ≠ w.heap.size + 1 := by omega
       have hne2 : v22.heap.size ≠ w.heap.size + 1 + 1 := by omega
       refine wpAnyH_ready (rs := [11]) (by kernel_rfl) (by simp) (AllReadyH.cons rfl (fun K hK => ?_) AllReadyH.nil)
       try simp only [Act.put, setIfInBounds_toArray, set_cons_zero, set_cons_succ, getElem_toArray, getElem_cons_zero, getElem_cons_succ]
       rw [if_pos (by rfl)]
       go_simp
       refine hK.out _ _ ?_ (fun hHeld => ?_)
       ·exact ⟨far_cell hne0 (show v26.cell? ⟨w.heap.size, 0, none⟩ = some (.slice a0 n0 c0) from (rA0.next bl).cell 0), far_cell hne1 (show v26.cell? ⟨w.heap.size + 1, 0, none⟩ = some (.slice a1 n1 c1) from (rA1.next bl).cell 0), far_cell hne2 (show v26.cell? ⟨w.heap.size + 1 + 1, 0, none⟩ = some (.slice a2 n2 c2) from (rA2.next bl).cell 0)⟩
       clear hK K
       try simp only [Act.put, setIfInBounds_toArray, set_cons_zero, set_cons_succ, getElem_toArray, getElem_cons_zero, getElem_cons_succ]
       refine wpAnyH_take (i := 12) (v := ?_) rfl (by kernel_rfl) (by kernel_rfl) (by kernel_rfl) (fun _ _ _ h => h) (Or.inl ⟨by rfl, ?_⟩) (by assumption) ?_
       rotate_left 1
       ·(intro w0 hSw; (try dsimp only at hSw); go_simp; try with_reducible rfl)
       try simp only [Act.put, setIfInBounds_toArray, set_cons_zero, set_cons_succ, getElem_toArray, getElem_cons_zero, getElem_cons_succ]
       refine wpAnyH_done (by kernel_rfl) ?_ _
       have F := boxed_put (W := w29.drew) o0 rg (by omega) bs hgB
       clear cg fg bl rg o0 bs hne0 hne1 hne2
       go_wp2_with fail
       go_meet
       exact ⟨F, rfl⟩
     ·skip
      try simp only [Act.put, setIfInBounds_toArray, set_cons_zero, set_cons_succ, getElem_toArray, getElem_cons_zero, getElem_cons_succ]
      rw [if_pos (by rfl)]
      go_simp
      obtain ⟨v27, hw⟩ : ∃ W, W = (v21.alloc (.cells #[.slice none 0 0] 30)) := ⟨_, rfl⟩
      rw [← hw]
      have rg : Row v27 v21.heap.size 30 #[.slice none 0 0] := by rw [hw]; exact Row.new _ _ _
      have bb : Below v21.heap.size v21 v27 := by rw [hw]; exact (Below.refl _ _).alloc (Nat.le_refl _) _
      have ygg : v21.heap.size < v27.heap.size := rg.lt
      have hgB : w29.drew.heap.size ≤ v21.heap.size := bs.size
      clear hw
      replace oq0 := oq0.next bb
      replace oq1 := oq1.next bb
      replace bl := next_trans bl bb
      replace bs := next_trans bs bb
      have zqv27 := bb.size
      clear bb
      refine hK.out _ _ ?_ (fun hHeld => ?_)
      ·exact ⟨(show v27.cell? ⟨w.heap.size, 0, none⟩ = some (.slice a0 n0 c0) from (rA0.next bl).cell 0), (show v27.cell? ⟨w.heap.size + 1, 0, none⟩ = some (.slice a1 n1 c1) from (rA1.next bl).cell 0), (show v27.cell? ⟨w.heap.size + 1 + 1, 0, none⟩ = some (.slice a2 n2 c2) from (rA2.next bl).cell 0)⟩
      clear hK K
      try simp only [Act.put, setIfInBounds_toArray, set_cons_zero, set_cons_succ, getElem_toArray, getElem_cons_zero, getElem_cons_succ]
      refine wpAnyH_ready (rs := [5]) (by kernel_rfl) (by simp) (AllReadyH.cons rfl (fun K hK => ?_) AllReadyH.nil)
      try simp only [Act.put, setIfInBounds_toArray, set_cons_zero, set_cons_succ, getElem_toArray, getElem_cons_zero, getElem_cons_succ]
      rw [if_pos (by rfl)]
      go_simp
      refine (substTo _ _ _ xs2 _ (s2.next bl) h2.out).mono ?_
      rintro e v28 ⟨gq2, rfl, oq2, yq2, bb⟩
      replace oq0 := oq0.next bb
      replace oq1 := oq1.next bb
      replace rg := rg.next bb
      replace bl := next_trans bl bb
      replace bs := next_trans bs bb
      have zqv28 := bb.size
      clear bb
      go_wp2_with fail
      refine hK.out _ _ ?_ (fun hHeld => ?_)
      ·exact ⟨(show v28.cell? ⟨w.heap.size, 0, none⟩ = some (.slice a0 n0 c0) from (rA0.next bl).cell 0), (show v28.cell? ⟨w.heap.size + 1, 0, none⟩ = some (.slice a1 n1 c1) from (rA1.next bl).cell 0), (show v28.cell? ⟨w.heap.size + 1 + 1, 0, none⟩ = some (.slice a2 n2 c2) from (rA2.next bl).cell 0)⟩
      clear hK K
      try simp only [Act.put, setIfInBounds_toArray, set_cons_zero, set_cons_succ, getElem_toArray, getElem_cons_zero, getElem_cons_succ]
      refine wpAnyH_ready (rs := [6]) (by kernel_rfl) (by simp) (AllReadyH.cons rfl (fun K hK => ?_) AllReadyH.nil)
      try simp only [Act.put, setIfInBounds_toArray, set_cons_zero, set_cons_succ, getElem_toArray, getElem_cons_zero, getElem_cons_succ]
      rw [if_pos (by rfl)]
      go_simp
      refine (implComposed _ _ _ _ _ _ _ _ _ xs0 xs1 xs2 _ oq0.rd oq1.rd oq2.rd h0 h1.out h2.out).mono ?_
      rintro e v29 ⟨A0, m0, d0, he, o0, bb⟩
      rw [HV.out] at he
      subst he
      rw [HY.out] at o0
      replace oq0 := oq0.next bb
      replace oq1 := oq1.next bb
      replace rg := rg.next bb
      replace oq2 := oq2.next bb
      replace bl := next_trans bl bb
      replace bs := next_trans bs bb
      have zqv29 := bb.size
      clear bb
      clear oq0 oq1 oq2
      go_wp2_with fail
      refine hK.out _ _ ?_ (fun hHeld => ?_)
      ·exact ⟨(show v29.cell? ⟨w.heap.size, 0, none⟩ = some (.slice a0 n0 c0) from (rA0.next bl).cell 0), (show v29.cell? ⟨w.heap.size + 1, 0, none⟩ = some (.slice a1 n1 c1) from (rA1.next bl).cell 0), (show v29.cell? ⟨w.heap.size + 1 + 1, 0, none⟩ = some (.slice a2 n2 c2) from (rA2.next bl).cell 0)⟩
      clear hK K
      try simp only [Act.put, setIfInBounds_toArray, set_cons_zero, set_cons_succ, getElem_toArray, getElem_cons_zero, getElem_cons_succ]
      refine wpAnyH_take (i := 7) (v := ?_) rfl (by kernel_rfl) (by kernel_rfl) (by kernel_rfl) (fun _ _ _ h => h) (Or.inl ⟨by rfl, ?_⟩) (by assumption) ?_
      rotate_left 1
      ·(intro w0 hSw; (try dsimp only at hSw); go_simp; try with_reducible rfl)
      try simp only [Act.put, setIfInBounds_toArray, set_cons_zero, set_cons_succ, getElem_toArray, getElem_cons_zero, getElem_cons_succ]
      refine wpAnyH_take (i := 8) (v := ?_) rfl (by kernel_rfl) (by kernel_rfl) (by kernel_rfl) (fun _ _ _ h => h) (Or.inl ⟨by rfl, ?_⟩) (by assumption) ?_
      rotate_left 1
      ·(intro w0 hSw; (try dsimp only at hSw); go_simp; try with_reducible rfl)
      try simp only [Act.put, setIfInBounds_toArray, set_cons_zero, set_cons_succ, getElem_toArray, getElem_cons_zero, getElem_cons_succ]
      refine wpAnyH_take (i := 9) (v := ?_) rfl (by kernel_rfl) (by kernel_rfl) (by kernel_rfl) (fun _ _ _ h => h) (Or.inl ⟨by rfl, ?_⟩) (by assumption) ?_
      rotate_left 1
      ·(intro w0 hSw; (try dsimp only at hSw); go_simp; try with_reducible rfl)
      try simp only [Act.put, setIfInBounds_toArray, set_cons_zero, set_cons_succ, getElem_toArray, getElem_cons_zero, getElem_cons_succ]
      have cg : v29.cell? ⟨v21.heap.size, 0, none⟩ = some (.slice none 0 0) := rg.cell 0
      have fg : v29.frozen? ⟨v21.heap.size, 0, none⟩ = false := rg.free 0
      have hne0 : v21.heap.size ≠ w.heap.size := by omega
      have hne1 : v21.heap.size ≠ w.heap.size + 1 := by omega
      have hne2 : v21.heap.size ≠ w.heap.size + 1 + 1 := by omega
      refine wpAnyH_ready (rs := [11]) (by kernel_rfl) (by simp) (AllReadyH.cons rfl (fun K hK => ?_) AllReadyH.nil)
      try simp only [Act.put, setIfInBounds_toArray, set_cons_zero, set_cons_succ, getElem_toArray, getElem_cons_zero, getElem_cons_succ]
      rw [if_pos (by rfl)]
      go_simp
      refine hK.out _ _ ?_ (fun hHeld => ?_)
      ·exact ⟨far_cell hne0 (show v29.cell? ⟨w.heap.size, 0, none⟩ = some (.slice a0 n0 c0) from (rA0.next bl).cell 0), far_cell hne1 (show v29.cell? ⟨w.heap.size + 1, 0, none⟩ = some (.slice a1 n1 c1) from (rA1.next bl).cell 0), far_cell hne2 (show v29.cell? ⟨w.heap.size + 1 + 1, 0, none⟩ = some (.slice a2 n2 c2) from (rA2.next bl).cell 0)⟩
      clear hK K
      try simp only [Act.put, setIfInBounds_toArray, set_cons_zero, set_cons_succ, getElem_toArray, getElem_cons_zero, getElem_cons_succ]
      refine wpAnyH_take (i := 12) (v := ?_) rfl (by kernel_rfl) (by kernel_rfl) (by kernel_rfl) (fun _ _ _ h => h) (Or.inl ⟨by rfl, ?_⟩) (by assumption) ?_
      rotate_left 1
      ·(intro w0 hSw; (try dsimp only at hSw); go_simp; try with_reducible rfl)
      try simp only [Act.put, setIfInBounds_toArray, set_cons_zero, set_cons_succ, getElem_toArray, getElem_cons_zero, getElem_cons_succ]
      refine wpAnyH_done (by kernel_rfl) ?_ _
      have F := boxed_put (W := w29.drew) o0 rg (by omega) bs hgB
      clear cg fg bl rg o0 bs hne0 hne1 hne2
      go_wp2_with fail
      go_meet
      exact ⟨F, rfl⟩
    ·skip
     try simp only [Act.put, setIfInBounds_toArray, set_cons_zero, set_cons_succ, getElem_toArray, getElem_cons_zero, getElem_cons_succ]
     rw [if_pos (by rfl)]
     go_simp
     obtain ⟨v30, hw⟩ : ∃ W, W = (v20.alloc (.cells #[.slice none 0 0] 30)) := ⟨_, rfl⟩
     rw [← hw]
     have rg : Row v30 v20.heap.size 30 #[.slice none 0 0] := by rw [hw]; exact Row.new _ _ _
     have bb : Below v20.heap.size v20 v30 := by rw [hw]; exact (Below.refl _ _).alloc (Nat.le_refl _) _
     have ygg : v20.heap.size < v30.heap.size := rg.lt
     have hgB : w29.drew.heap.size ≤ v20.heap.size := bs.size
     clear hw
     replace oq0 := oq0.next bb
     replace bl := next_trans bl bb
     replace bs := next_trans bs bb
     have zqv30 := bb.size
     clear bb
     refine hK.out _ _ ?_ (fun hHeld => ?_)
     ·exact ⟨(show v30.cell? ⟨w.heap.size, 0, none⟩ = some (.slice a0 n0 c0) from (rA0.next bl).cell 0), (show v30.cell? ⟨w.heap.size + 1, 0, none⟩ = some (.slice a1 n1 c1) from (rA1.next bl).cell 0), (show v30.cell? ⟨w.heap.size + 1 + 1, 0, none⟩ = some (.slice a2 n2 c2) from (rA2.next bl).cell 0)⟩
     clear hK K
     try simp only [Act.put, setIfInBounds_toArray, set_cons_zero, set_cons_succ, getElem_toArray, getElem_cons_zero, getElem_cons_succ]
     refine wpAnyH_ready (rs := [3]) (by kernel_rfl) (by simp) (AllReadyH.cons rfl (fun K hK => ?_) AllReadyH.nil)
     try simp only [Act.put, setIfInBounds_toArray, set_cons_zero, set_cons_succ, getElem_toArray, getElem_cons_zero, getElem_cons_succ]
     rw [if_pos (by rfl)]
     go_simp
     refine (substTo _ _ _ xs1 _ (s1.next bl) h1.out).mono ?_
     rintro e v31 ⟨gq1, rfl, oq1, yq1, bb⟩
     replace oq0 := oq0.next bb
     replace rg := rg.next bb
     replace bl := next_trans bl bb
     replace bs := next_trans bs bb
     have zqv31 := bb.size
     clear bb
     go_wp2_with fail
     refine hK.out _ _ ?_ (fun hHeld => ?_)
     ·exact ⟨(show v31.cell? ⟨w.heap.size, 0, none⟩ = some (.slice a0 n0 c0) from (rA0.next bl).cell 0), (show v31.cell? ⟨w.heap.size + 1, 0, none⟩ = some (.slice a1 n1 c1) from (rA1.next bl).cell 0), (show v31.cell? ⟨w.heap.size + 1 + 1, 0, none⟩ = some (.slice a2 n2 c2) from (rA2.next bl).cell 0)⟩
     clear hK K
     try simp only [Act.put, setIfInBounds_toArray, set_cons_zero, set_cons_succ, getElem_toArray, getElem_cons_zero, getElem_cons_succ]
     refine wpAnyH_ready (rs := [5]) (by kernel_rfl) (by simp) (AllReadyH.cons rfl (fun K hK => ?_) AllReadyH.nil)
     try simp only [Act.put, setIfInBounds_toArray, set_cons_zero, set_cons_succ, getElem_toArray, getElem_cons_zero, getElem_cons_succ]
     rw [if_pos (by rfl)]
     go_simp
     refine (substTo _ _ _ xs2 _ (s2.next bl) h2.out).mono ?_
     rintro e v32 ⟨gq2, rfl, oq2, yq2, bb⟩
     replace oq0 := oq0.next bb
     replace rg := rg.next bb
     replace oq1 := oq1.next bb
     replace bl := next_trans bl bb
     replace bs := next_trans bs bb
     have zqv32 := bb.size
     clear bb
     go_wp2_with fail
     refine hK.out _ _ ?_ (fun hHeld => ?_)
     ·exact ⟨(show v32.cell? ⟨w.heap.size, 0, none⟩ = some (.slice a0 n0 c0) from (rA0.next bl).cell 0), (show v32.cell? ⟨w.heap.size + 1, 0, none⟩ = some (.slice a1 n1 c1) from (rA1.next bl).cell 0), (show v32.cell? ⟨w.heap.size + 1 + 1, 0, none⟩ = some (.slice a2 n2 c2) from (rA2.next bl).cell 0)⟩
     clear hK K
     try simp only [Act.put, setIfInBounds_toArray, set_cons_zero, set_cons_succ, getElem_toArray, getElem_cons_zero, getElem_cons_succ]
     refine wpAnyH_ready (rs := [6]) (by kernel_rfl) (by simp) (AllReadyH.cons rfl (fun K hK => ?_) AllReadyH.nil)
     try simp only [Act.put, setIfInBounds_toArray, set_cons_zero, set_cons_succ, getElem_toArray, getElem_cons_zero, getElem_cons_succ]
     rw [if_pos (by rfl)]
     go_simp
     refine (implComposed _ _ _ _ _ _ _ _ _ xs0 xs1 xs2 _ oq0.rd oq1.rd oq2.rd h0 h1.out h2.out).mono ?_
     rintro e v33 ⟨A0, m0, d0, he, o0, bb⟩
     rw [HV.out] at he
     subst he
     rw [HY.out] at o0
     replace oq0 := oq0.next bb
     replace rg := rg.next bb
     replace oq1 := oq1.next bb
     replace oq2 := oq2.next bb
     replace bl := next_trans bl bb
     replace bs := next_trans bs bb
     have zqv33 := bb.size
     clear bb
     clear oq0 oq1 oq2
     go_wp2_with fail
     refine hK.out _ _ ?_ (fun hHeld => ?_)
     ·exact ⟨(show v33.cell? ⟨w.heap.size, 0, none⟩ = some (.slice a0 n0 c0) from (rA0.next bl).cell 0), (show v33.cell? ⟨w.heap.size + 1, 0, none⟩ = some (.slice a1 n1 c1) from (rA1.next bl).cell 0), (show v33.cell? ⟨w.heap.size + 1 + 1, 0, none⟩ = some (.slice a2 n2 c2) from (rA2.next bl).cell 0)⟩
     clear hK K
     try simp only [Act.put, setIfInBounds_toArray, set_cons_zero, set_cons_succ, getElem_toArray, getElem_cons_zero, getElem_cons_succ]
     refine wpAnyH_take (i := 7) (v := ?_) rfl (by kernel_rfl) (by kernel_rfl) (by kernel_rfl) (fun _ _ _ h => h) (Or.inl ⟨by rfl, ?_⟩) (by assumption) ?_
     rotate_left 1
     ·(intro w0 hSw; (try dsimp only at hSw); go_simp; try with_reducible rfl)
     try simp only [Act.put, setIfInBounds_toArray, set_cons_zero, set_cons_succ, getElem_toArray, getElem_cons_zero, getElem_cons_succ]
     refine wpAnyH_take (i := 8) (v := ?_) rfl (by kernel_rfl) (by kernel_rfl) (by kernel_rfl) (fun _ _ _ h => h) (Or.inl ⟨by rfl, ?_⟩) (by assumption) ?_
     rotate_left 1
     ·(intro w0 hSw; (try dsimp only at hSw); go_simp; try with_reducible rfl)
     try simp only [Act.put, setIfInBounds_toArray, set_cons_zero, set_cons_succ, getElem_toArray, getElem_cons_zero, getElem_cons_succ]
     refine wpAnyH_take (i := 9) (v := ?_) rfl (by kernel_rfl) (by kernel_rfl) (by kernel_rfl) (fun _ _ _ h => h) (Or.inl ⟨by rfl, ?_⟩) (by assumption) ?_
     rotate_left 1
     ·(intro w0 hSw; (try dsimp only at hSw); go_simp; try with_reducible rfl)
     try simp only [Act.put, setIfInBounds_toArray, set_cons_zero, set_cons_succ, getElem_toArray, getElem_cons_zero, getElem_cons_succ]
     have cg : v33.cell? ⟨v20.heap.size, 0, none⟩ = some (.slice none 0 0) := rg.cell 0
     have fg : v33.frozen? ⟨v20.heap.size, 0, none⟩ = false := rg.free 0
     have hne0 : v20.heap.size ≠ w.heap.size := by omega
     have hne1 : v20.heap.size ≠ w.heap.size + 1 := by omega
     have hne2 : v20.heap.size ≠ w.heap.size + 1 + 1 := by omega
     refine wpAnyH_ready (rs := [11]) (by kernel_rfl) (by simp) (AllReadyH.cons rfl (fun K hK => ?_) AllReadyH.nil)
     try simp only [Act.put, setIfInBounds_toArray, set_cons_zero, set_cons_succ, getElem_toArray, getElem_cons_zero, getElem_cons_succ]
     rw [if_pos (by rfl)]
     go_simp
     refine hK.out _ _ ?_ (fun hHeld => ?_)
     ·exact ⟨far_cell hne0 (show v33.cell? ⟨w.heap.size, 0, none⟩ = some (.slice a0 n0 c0) from (rA0.next bl).cell 0), far_cell hne1 (show v33.cell? ⟨w.heap.size + 1, 0, none⟩ = some (.slice a1 n1 c1) from (rA1.next bl).cell 0), far_cell hne2 (show v33.cell? ⟨w.heap.size + 1 + 1, 0, none⟩ = some (.slice a2 n2 c2) from (rA2.next bl).cell 0)⟩
     clear hK K
     try simp only [Act.put, setIfInBounds_toArray, set_cons_zero, set_cons_succ, getElem_toArray, getElem_cons_zero, getElem_cons_succ]
     refine wpAnyH_take (i := 12) (v := ?_) rfl (by kernel_rfl) (by kernel_rfl) (by kernel_rfl) (fun _ _ _ h => h) (Or.inl ⟨by rfl, ?_⟩) (by assumption) ?_
     rotate_left 1
     ·(intro w0 hSw; (try dsimp only at hSw); go_simp; try with_reducible rfl)
     try simp only [Act.put, setIfInBounds_toArray, set_cons_zero, set_cons_succ, getElem_toArray, getElem_cons_zero, getElem_cons_succ]
     refine wpAnyH_done (by kernel_rfl) ?_ _
     have F := boxed_put (W := w29.drew) o0 rg (by omega) bs hgB
     clear cg fg bl rg o0 bs hne0 hne1 hne2
     go_wp2_with fail
     go_meet
     exact ⟨F, rfl⟩
   ·skip
    try simp only [Act.put, setIfInBounds_toArray, set_cons_zero, set_cons_succ, getElem_toArray, getElem_cons_zero, getElem_cons_succ]
    rw [if_pos (by rfl)]
    go_simp
    obtain ⟨v34, hw⟩ : ∃ W, W = (w29.alloc (.cells #[.slice none 0 0] 30)).drew := ⟨_, rfl⟩
    rw [← hw]
    have rg : Row v34 w29.heap.size 30 #[.slice none 0 0] := by rw [hw]; exact Row.new _ _ _
    have bb : Below w29.drew.heap.size w29.drew v34 := by rw [hw]; exact (Below.refl _ _).alloc (Nat.le_refl _) _
    have ygg : w29.heap.size < v34.heap.size := rg.lt
    have hgB : w29.drew.heap.size ≤ w29.heap.size := bs.size
    clear hw
    replace bl := next_trans bl bb
    replace bs := next_trans bs bb
    have zqv34 := bb.size
    clear bb
    refine hK.out _ _ ?_ (fun hHeld => ?_)
    ·exact ⟨(show v34.cell? ⟨w.heap.size, 0, none⟩ = some (.slice a0 n0 c0) from (rA0.next bl).cell 0), (show v34.cell? ⟨w.heap.size + 1, 0, none⟩ = some (.slice a1 n1 c1) from (rA1.next bl).cell 0), (show v34.cell? ⟨w.heap.size + 1 + 1, 0, none⟩ = some (.slice a2 n2 c2) from (rA2.next bl).cell 0)⟩
    clear hK K
    try simp only [Act.put, setIfInBounds_toArray, set_cons_zero, set_cons_succ, getElem_toArray, getElem_cons_zero, getElem_cons_succ]
    refine wpAnyH_ready (rs := [1]) (by kernel_rfl) (by simp) (AllReadyH.cons rfl (fun K hK => ?_) AllReadyH.nil)
    try simp only [Act.put, setIfInBounds_toArray, set_cons_zero, set_cons_succ, getElem_toArray, getElem_cons_zero, getElem_cons_succ]
    rw [if_pos (by rfl)]
    go_simp
    refine (sigTo _ _ _ xs0 _ (s0.next bl) h0).mono ?_
    rintro e v35 ⟨gq0, rfl, oq0, yq0, bb⟩
    replace rg := rg.next bb
    replace bl := next_trans bl bb
    replace bs := next_trans bs bb
    have zqv35 := bb.size
    clear bb
    go_wp2_with fail
    refine hK.out _ _ ?_ (fun hHeld => ?_)
    ·exact ⟨(show v35.cell? ⟨w.heap.size, 0, none⟩ = some (.slice a0 n0 c0) from (rA0.next bl).cell 0), (show v35.cell? ⟨w.heap.size + 1, 0, none⟩ = some (.slice a1 n1 c1) from (rA1.next bl).cell 0), (show v35.cell? ⟨w.heap.size + 1 + 1, 0, none⟩ = some (.slice a2 n2 c2) from (rA2.next bl).cell 0)⟩
    clear hK K
    try simp only [Act.put, setIfInBounds_toArray, set_cons_zero, set_cons_succ, getElem_toArray, getElem_cons_zero, getElem_cons_succ]
    refine wpAnyH_ready (rs := [3]) (by kernel_rfl) (by simp) (AllReadyH.cons rfl (fun K hK => ?_) AllReadyH.nil)
    try simp only [Act.put, setIfInBounds_toArray, set_cons_zero, set_cons_succ, getElem_toArray, getElem_cons_zero, getElem_cons_succ]
    rw [if_pos (by rfl)]
    go_simp
    refine (substTo _ _ _ xs1 _ (s1.next bl) h1.out).mono ?_
    rintro e v36 ⟨gq1, rfl, oq1, yq1, bb⟩
    replace rg := rg.next bb
    replace oq0 := oq0.next bb
    replace bl := next_trans bl bb
    replace bs := next_trans bs bb
    have zqv36 := bb.size
    clear bb
    go_wp2_with fail
    refine hK.out _ _ ?_ (fun hHeld => ?_)
    ·exact ⟨(show v36.cell? ⟨w.heap.size, 0, none⟩ = some (.slice a0 n0 c0) from (rA0.next bl).cell 0), (show v36.cell? ⟨w.heap.size + 1, 0, none⟩ = some (.slice a1 n1 c1) from (rA1.next bl).cell 0), (show v36.cell? ⟨w.heap.size + 1 + 1, 0, none⟩ = some (.slice a2 n2 c2) from (rA2.next bl).cell 0)⟩
    clear hK K
    try simp only [Act.put, setIfInBounds_toArray, set_cons_zero, set_cons_succ, getElem_toArray, getElem_cons_zero, getElem_cons_succ]
    refine wpAnyH_ready (rs := [5]) (by kernel_rfl) (by simp) (AllReadyH.cons rfl (fun K hK => ?_) AllReadyH.nil)
    try simp only [Act.put, setIfInBounds_toArray, set_cons_zero, set_cons_succ, getElem_toArray, getElem_cons_zero, getElem_cons_succ]
    rw [if_pos (by rfl)]
    go_simp
    refine (substTo _ _ _ xs2 _ (s2.next bl) h2.out).mono ?_
    rintro e v37 ⟨gq2, rfl, oq2, yq2, bb⟩
    replace rg := rg.next bb
    replace oq0 := oq0.next bb
    replace oq1 := oq1.next bb
    replace bl := next_trans bl bb
    replace bs := next_trans bs bb
    have zqv37 := bb.size
    clear bb
    go_wp2_with fail
    refine hK.out _ _ ?_ (fun hHeld => ?_)
    ·exact ⟨(show v37.cell? ⟨w.heap.size, 0, none⟩ = some (.slice a0 n0 c0) from (rA0.next bl).cell 0), (show v37.cell? ⟨w.heap.size + 1, 0, none⟩ = some (.slice a1 n1 c1) from (rA1.next bl).cell 0), (show v37.cell? ⟨w.heap.size + 1 + 1, 0, none⟩ = some (.slice a2 n2 c2) from (rA2.next bl).cell 0)⟩
    clear hK K
    try simp only [Act.put, setIfInBounds_toArray, set_cons_zero, set_cons_succ, getElem_toArray, getElem_cons_zero, getElem_cons_succ]
    refine wpAnyH_ready (rs := [6]) (by kernel_rfl) (by simp) (AllReadyH.cons rfl (fun K hK => ?_) AllReadyH.nil)
    try simp only [Act.put, setIfInBounds_toArray, set_cons_zero, set_cons_succ, getElem_toArray, getElem_cons_zero, getElem_cons_succ]
    rw [if_pos (by rfl)]
    go_simp
    refine (implComposed _ _ _ _ _ _ _ _ _ xs0 xs1 xs2 _ oq0.rd oq1.rd oq2.rd h0 h1.out h2.out).mono ?_
    rintro e v38 ⟨A0, m0, d0, he, o0, bb⟩
    rw [HV.out] at he
    subst he
    rw [HY.out] at o0
    replace rg := rg.next bb
    replace oq0 := oq0.next bb
    replace oq1 := oq1.next bb
    replace oq2 := oq2.next bb
    replace bl := next_trans bl bb
    replace bs := next_trans bs bb
    have zqv38 := bb.size
    clear bb
    clear oq0 oq1 oq2
    go_wp2_with fail
    refine hK.out _ _ ?_ (fun hHeld => ?_)
    ·exact ⟨(show v38.cell? ⟨w.heap.size, 0, none⟩ = some (.slice a0 n0 c0) from (rA0.next bl).cell 0), (show v38.cell? ⟨w.heap.size + 1, 0, none⟩ = some (.slice a1 n1 c1) from (rA1.next bl).cell 0), (show v38.cell? ⟨w.heap.size + 1 + 1, 0, none⟩ = some (.slice a2 n2 c2) from (rA2.next bl).cell 0)⟩
    clear hK K
    try simp only [Act.put, setIfInBounds_toArray, set_cons_zero, set_cons_succ, getElem_toArray, getElem_cons_zero, getElem_cons_succ]
    refine wpAnyH_take (i := 7) (v := ?_) rfl (by kernel_rfl) (by kernel_rfl) (by kernel_rfl) (fun _ _ _ h => h) (Or.inl ⟨by rfl, ?_⟩) (by assumption) ?_
    rotate_left 1
    ·(intro w0 hSw; (try dsimp only at hSw); go_simp; try with_reducible rfl)
    try simp only [Act.put, setIfInBounds_toArray, set_cons_zero, set_cons_succ, getElem_toArray, getElem_cons_zero, getElem_cons_succ]
    refine wpAnyH_take (i := 8) (v := ?_) rfl (by kernel_rfl) (by kernel_rfl) (by kernel_rfl) (fun _ _ _ h => h) (Or.inl ⟨by rfl, ?_⟩) (by assumption) ?_
    rotate_left 1
    ·(intro w0 hSw; (try dsimp only at hSw); go_simp; try with_reducible rfl)
    try simp only [Act.put, setIfInBounds_toArray, set_cons_zero, set_cons_succ, getElem_toArray, getElem_cons_zero, getElem_cons_succ]
    refine wpAnyH_take (i := 9) (v := ?_) rfl (by kernel_rfl) (by kernel_rfl) (by kernel_rfl) (fun _ _ _ h => h) (Or.inl ⟨by rfl, ?_⟩) (by assumption) ?_
    rotate_left 1
    ·(intro w0 hSw; (try dsimp only at hSw); go_simp; try with_reducible rfl)
    try simp only [Act.put, setIfInBounds_toArray, set_cons_zero, set_cons_succ, getElem_toArray, getElem_cons_zero, getElem_cons_succ]
    have cg : v38.cell? ⟨w29.heap.size, 0, none⟩ = some (.slice none 0 0) := rg.cell 0
    have fg : v38.frozen? ⟨w29.heap.size, 0, none⟩ = false := rg.free 0
    have hne0 : w29.heap.size ≠ w.heap.size := by omega
    have hne1 : w29.heap.size ≠ w.heap.size + 1 := by omega
    have hne2 : w29.heap.size ≠ w.heap.size + 1 + 1 := by omega
    refine wpAnyH_ready (rs := [11]) (by kernel_rfl) (by simp) (AllReadyH.cons rfl (fun K hK => ?_) AllReadyH.nil)
    try simp only [Act.put, setIfInBounds_toArray, set_cons_zero, set_cons_succ, getElem_toArray, getElem_cons_zero, getElem_cons_succ]
    rw [if_pos (by rfl)]
    go_simp
    refine hK.out _ _ ?_ (fun hHeld => ?_)
    ·exact ⟨far_cell hne0 (show v38.cell? ⟨w.heap.size, 0, none⟩ = some (.slice a0 n0 c0) from (rA0.next bl).cell 0), far_cell hne1 (show v38.cell? ⟨w.heap.size + 1, 0, none⟩ = some (.slice a1 n1 c1) from (rA1.next bl).cell 0), far_cell hne2 (show v38.cell? ⟨w.heap.size + 1 + 1, 0, none⟩ = some (.slice a2 n2 c2) from (rA2.next bl).cell 0)⟩
    clear hK K
    try simp only [Act.put, setIfInBounds_toArray, set_cons_zero, set_cons_succ, getElem_toArray, getElem_cons_zero, getElem_cons_succ]
    refine wpAnyH_take (i := 12) (v := ?_) rfl (by kernel_rfl) (by kernel_rfl) (by kernel_rfl) (fun _ _ _ h => h) (Or.inl ⟨by rfl, ?_⟩) (by assumption) ?_
    rotate_left 1
    ·(intro w0 hSw; (try dsimp only at hSw); go_simp; try with_reducible rfl)
    try simp only [Act.put, setIfInBounds_toArray, set_cons_zero, set_cons_succ, getElem_toArray, getElem_cons_zero, getElem_cons_succ]
    refine wpAnyH_done (by kernel_rfl) ?_ _
    have F := boxed_put (W := w29.drew) o0 rg (by omega) bs hgB
    clear cg fg bl rg o0 bs hne0 hne1 hne2
    go_wp2_with fail
    go_meet
    exact ⟨F, rfl⟩
  case rest =>
   rename World => w34
   obtain ⟨⟨bh, Ah, mh, dh, rfl, rh, sh, bb⟩, rfl⟩ := hcut
   replace rg := rg.next bb
   replace om := om.next bb
   replace bel := next_trans bel bb
   replace belw := next_trans belw bb
   have zw34 := bb.size
   clear bb
   have belh := Below.refl w34.heap.size w34
   have cA0 : w34.cell? ⟨w.heap.size, 0, none⟩ = some (.slice a0 n0 c0) := (rA0.next bel).cell 0
   have cA1 : w34.cell? ⟨w.heap.size + 1, 0, none⟩ = some (.slice a1 n1 c1) := (rA1.next bel).cell 0
   have cA2 : w34.cell? ⟨w.heap.size + 1 + 1, 0, none⟩ = some (.slice a2 n2 c2) := (rA2.next bel).cell 0
   have cw : w34.cell? ⟨bw, 0, none⟩ = some (.slice Aw mw dw) := (rw.next belw).cell 0
   have cg : w34.cell? ⟨w15.heap.size, 0, none⟩ = some (.slice Ag mg dg) := (rg).cell 0
   have ch : w34.cell? ⟨bh, 0, none⟩ = some (.slice Ah mh dh) := (rh.next belh).cell 0
   go_wp2_with fail
   refine (substEq _ _ _ _ _ _ ys _ (sh.next belh) (sw.next belw) hlen.out).mono ?_
   rintro e w35 ⟨rfl, bb⟩
   replace rg := rg.next bb
   replace om := om.next bb
   replace bel := next_trans bel bb
   replace belw := next_trans belw bb
   replace belh := next_trans belh bb
   have zw35 := bb.size
   clear bb
   clear cA0 cA1 cA2 cw cg ch
   have cA0 : w35.cell? ⟨w.heap.size, 0, none⟩ = some (.slice a0 n0 c0) := (rA0.next bel).cell 0
   have cA1 : w35.cell? ⟨w.heap.size + 1, 0, none⟩ = some (.slice a1 n1 c1) := (rA1.next bel).cell 0
   have cA2 : w35.cell? ⟨w.heap.size + 1 + 1, 0, none⟩ = some (.slice a2 n2 c2) := (rA2.next bel).cell 0
   have cw : w35.cell? ⟨bw, 0, none⟩ = some (.slice Aw mw dw) := (rw.next belw).cell 0
   have cg : w35.cell? ⟨w15.heap.size, 0, none⟩ = some (.slice Ag mg dg) := (rg).cell 0
   have ch : w35.cell? ⟨bh, 0, none⟩ = some (.slice Ah mh dh) := (rh.next belh).cell 0
   go_wp2_with fail
   refine (substHeld _ _ _ ys 1 _ om.rd hlen.out (by omega) (by omega)).mono ?_
   rintro e w36 ⟨he, bb⟩
   rw [HZg.out] at he
   subst he
   replace rg := rg.next bb
   replace om := om.next bb
   replace bel := next_trans bel bb
   replace belw := next_trans belw bb
   replace belh := next_trans belh bb
   have zw36 := bb.size
   clear bb
   clear cA0 cA1 cA2 cw cg ch
   have cA0 : w36.cell? ⟨w.heap.size, 0, none⟩ = some (.slice a0 n0 c0) := (rA0.next bel).cell 0
   have cA1 : w36.cell? ⟨w.heap.size + 1, 0, none⟩ = some (.slice a1 n1 c1) := (rA1.next bel).cell 0
   have cA2 : w36.cell? ⟨w.heap.size + 1 + 1, 0, none⟩ = some (.slice a2 n2 c2) := (rA2.next bel).cell 0
   have cw : w36.cell? ⟨bw, 0, none⟩ = some (.slice Aw mw dw) := (rw.next belw).cell 0
   have cg : w36.cell? ⟨w15.heap.size, 0, none⟩ = some (.slice Ag mg dg) := (rg).cell 0
   have ch : w36.cell? ⟨bh, 0, none⟩ = some (.slice Ah mh dh) := (rh.next belh).cell 0
   have F := hid (bW.trans (bel.mono bW.size))
   clear bel belw belh rg om bW cA0 cA1 cA2 cw cg ch
   go_wp2
   go_ret
   exact ⟨rfl, F.out⟩
end wComposed
end
end Go.Proofs.Ytghgnondlgdjdaa
