/-
  MERGED: my texts WWalkUnder, one behind the other, as they are. By an AI agent.
-/
import Derived.Test.YtblhmplpcdcejaaGreatMFnExactWalkUnder7
import Derived.Deep.RegionHeld3
import Derived.Deep.DeepCutAuto
namespace Go.Proofs.YtblhmplpcdcejaaGreat
section
open Go.Lib (hid)
open List (setIfInBounds_toArray set_cons_zero set_cons_succ getElem_toArray getElem_cons_zero getElem_cons_succ)
namespace wWalkUnder
open Go.RowKit base ints sig cursor marks app sym appAt segs segsHelp segsMark kinds shape varsOf kindsR kindsW ruleMath stepMath walkMath stepSpec walkSpec walkImpl walkX kindsT und undX
set_option maxRecDepth 100000
def Boxed (W : World) (F : Dat sWalk) (p : Value) (wx : World) : Prop := ∃ b rA0 rn0 rc0 rA1 rn1 rc1, p = .pointer (some ⟨b, 0, none⟩) ∧ Row wx b 39 #[.slice rA0 rn0 rc0, .slice rA1 rn1 rc1] ∧ Rd wx wx.heap.size sWalk [.slice rA0 rn0 rc0, .slice rA1 rn1 rc1] F ∧ Below W.heap.size W wx
theorem boxed_put {W w : World} {F : Dat sWalk} {rA0 rA1 : Option Addr} {rn0 rc0 rn1 rc1 : Nat} {g lo hi : Nat} (h : Owned w lo hi sWalk [.slice rA0 rn0 rc0, .slice rA1 rn1 rc1] F) (hr : Row w g 39 #[.slice none 0 0, .slice none 0 0]) (hg : g < lo ∨ hi ≤ g) (hb : Below W.heap.size W w) (hB : W.heap.size ≤ g) :
  Boxed W F (.pointer (some ⟨g, 0, none⟩)) ((w.setCell ⟨g, 0, none⟩ (.slice rA0 rn0 rc0)).setCell ⟨g, 1, none⟩ (.slice rA1 rn1 rc1)) :=
 ⟨g, rA0, rn0, rc0, rA1, rn1, rc1, rfl, (Row.put (Row.put hr 0 (.slice rA0 rn0 rc0)) 1 (.slice rA1 rn1 rc1)), ((Owned.put (g := g) (i := 1) (u := .slice rA1 rn1 rc1) (Owned.put (g := g) (i := 0) (u := .slice rA0 rn0 rc0) h hg) hg)).rd, (Below.setCell (Below.setCell hb hB _) hB _)⟩
theorem far_cell {w : World} {p a : Addr} {u v : Value} (hne : p.block ≠ a.block) (h : w.cell? a = some v) : (w.setCell p u).cell? a = some v := (World.cell?_setCell_far w p a u hne).trans h
set_option maxHeartbeats 8000000 in
theorem law (v0_0 v0_1 : Value) (d0 : Dat sSystem) (v1_0 v1_1 : Value) (d1 : Dat sWalk) (v2_0 : Value) (d2 : Dat sSubst) (w : World) (s0 : Rd w w.heap.size sSystem [v0_0, v0_1] d0) (s1 : Rd w w.heap.size sWalk [v1_0, v1_1] d1) (s2 : Rd w w.heap.size sSubst [v2_0] d2) :
  Calls Tryz.prog 3 #[.agg #[v0_0, v0_1], .agg #[v1_0, v1_1], .agg #[v2_0]] w (Fine w) := by
 obtain ⟨W, hW⟩ : ∃ W, W = ((w.alloc (.cells #[v0_0, v0_1] 27)).alloc (.cells #[v1_0, v1_1] 30)).alloc (.cells #[v2_0] 33) := ⟨_, rfl⟩
 have rA0 : Row W (w.heap.size) 27 #[v0_0, v0_1] := by rw [hW]; have := ((Row.new (w) 27 #[v0_0, v0_1]).alloc (.cells #[v1_0, v1_1] 30)).alloc (.cells #[v2_0] 33); simpa using this
 have rA1 : Row W (w.heap.size + 1) 30 #[v1_0, v1_1] := by rw [hW]; have := (Row.new (w.alloc (.cells #[v0_0, v0_1] 27)) 30 #[v1_0, v1_1]).alloc (.cells #[v2_0] 33); simpa using this
 have rA2 : Row W (w.heap.size + 1 + 1) 33 #[v2_0] := by rw [hW]; have := Row.new ((w.alloc (.cells #[v0_0, v0_1] 27)).alloc (.cells #[v1_0, v1_1] 30)) 33 #[v2_0]; simpa using this
 have bW : Below w.heap.size w W := by rw [hW]; exact (((Below.refl w.heap.size w).alloc (by simp) (.cells #[v0_0, v0_1] 27)).alloc (by simp) (.cells #[v1_0, v1_1] 30)).alloc (by simp; omega) (.cells #[v2_0] 33)
 have zA0 := rA0.lt
 have zA1 := rA1.lt
 have zA2 := rA2.lt
 replace s0 := s0.next bW
 replace s1 := s1.next bW
 replace s2 := s2.next bW
 have HW := hid hW
 clear hW
 obtain ⟨t0, ht0⟩ : ∃ z, sz sSystem d0 = z := ⟨_, rfl⟩
 have HT0 := hid ht0
 clear ht0
 obtain ⟨t1, ht1⟩ : ∃ z, sz sWalk d1 = z := ⟨_, rfl⟩
 have HT1 := hid ht1
 clear ht1
 obtain ⟨t2, ht2⟩ : ∃ z, sz sSubst d2 = z := ⟨_, rfl⟩
 have HT2 := hid ht2
 clear ht2
 obtain ⟨v, hv⟩ : ∃ v, undB d0.1 d0.2 d1 d2 = v := ⟨_, rfl⟩
 have HV := hid hv
 clear hv
 have ev : (v != v) = false := by simp
 go_enter Tryz.func3, Tryz.ntmps3
 go_wp2_with fail
 rw [← HW.out]
 clear HW
 have bel := Below.refl W.heap.size W
 have cA0_0 : W.cell? ⟨w.heap.size, 0, none⟩ = some (v0_0) := (rA0.next bel).cell 0
 have cA0_1 : W.cell? ⟨w.heap.size, 1, none⟩ = some (v0_1) := (rA0.next bel).cell 1
 have cA1_0 : W.cell? ⟨w.heap.size + 1, 0, none⟩ = some (v1_0) := (rA1.next bel).cell 0
 have cA1_1 : W.cell? ⟨w.heap.size + 1, 1, none⟩ = some (v1_1) := (rA1.next bel).cell 1
 have cA2_0 : W.cell? ⟨w.heap.size + 1 + 1, 0, none⟩ = some (v2_0) := (rA2.next bel).cell 0
 refine (szK_System _ _ d0 (1048576) _ (s0.next bel) (by omega) (by omega)).mono ?_
 rintro e w1 ⟨he, bb⟩
 rw [HT0.out] at he
 replace bel := next_trans bel bb
 have zw1 := bb.size
 clear bb
 by_cases q0 : t0 ≤ 1048576
 case neg =>
  rw [if_pos (by omega)] at he
  subst he
  have F := hid (bW.trans (bel.mono bW.size))
  clear bel bW cA0_0 cA0_1 cA1_0 cA1_1 cA2_0
  go_wp2
  go_ret
  exact ⟨rfl, F.out⟩
 rw [if_neg (by omega)] at he
 subst he
 have h0 : Hid (sz sSystem d0 ≤ 1048576) := hid (by rw [HT0.out]; omega)
 clear cA0_0 cA0_1 cA1_0 cA1_1 cA2_0
 have cA0_0 : w1.cell? ⟨w.heap.size, 0, none⟩ = some (v0_0) := (rA0.next bel).cell 0
 have cA0_1 : w1.cell? ⟨w.heap.size, 1, none⟩ = some (v0_1) := (rA0.next bel).cell 1
 have cA1_0 : w1.cell? ⟨w.heap.size + 1, 0, none⟩ = some (v1_0) := (rA1.next bel).cell 0
 have cA1_1 : w1.cell? ⟨w.heap.size + 1, 1, none⟩ = some (v1_1) := (rA1.next bel).cell 1
 have cA2_0 : w1.cell? ⟨w.heap.size + 1 + 1, 0, none⟩ = some (v2_0) := (rA2.next bel).cell 0
 go_wp2_with fail
 refine (szK_Walk _ _ d1 (1048576 - (t0 : Int)) _ (s1.next bel) (by omega) (by omega)).mono ?_
 rintro e w2 ⟨he, bb⟩
 rw [HT1.out] at he
 replace bel := next_trans bel bb
 have zw2 := bb.size
 clear bb
 by_cases q1 : t0 + t1 ≤ 1048576
 case neg =>
  rw [if_pos (by omega)] at he
  subst he
  have F := hid (bW.trans (bel.mono bW.size))
  clear bel bW cA0_0 cA0_1 cA1_0 cA1_1 cA2_0
  go_wp2
  go_ret
  exact ⟨rfl, F.out⟩
 rw [if_neg (by omega)] at he
 subst he
 have h1 : Hid (sz sWalk d1 ≤ 1048576) := hid (by rw [HT1.out]; omega)
 clear cA0_0 cA0_1 cA1_0 cA1_1 cA2_0
 have cA0_0 : w2.cell? ⟨w.heap.size, 0, none⟩ = some (v0_0) := (rA0.next bel).cell 0
 have cA0_1 : w2.cell? ⟨w.heap.size, 1, none⟩ = some (v0_1) := (rA0.next bel).cell 1
 have cA1_0 : w2.cell? ⟨w.heap.size + 1, 0, none⟩ = some (v1_0) := (rA1.next bel).cell 0
 have cA1_1 : w2.cell? ⟨w.heap.size + 1, 1, none⟩ = some (v1_1) := (rA1.next bel).cell 1
 have cA2_0 : w2.cell? ⟨w.heap.size + 1 + 1, 0, none⟩ = some (v2_0) := (rA2.next bel).cell 0
 go_wp2_with fail
 refine (szK_Subst _ d2 (1048576 - (t0 : Int) - (t1 : Int)) _ (s2.next bel) (by omega) (by omega)).mono ?_
 rintro e w3 ⟨he, bb⟩
 rw [HT2.out] at he
 replace bel := next_trans bel bb
 have zw3 := bb.size
 clear bb
 by_cases q2 : t0 + t1 + t2 ≤ 1048576
 case neg =>
  rw [if_pos (by omega)] at he
  subst he
  have F := hid (bW.trans (bel.mono bW.size))
  clear bel bW cA0_0 cA0_1 cA1_0 cA1_1 cA2_0
  go_wp2
  go_ret
  exact ⟨rfl, F.out⟩
 rw [if_neg (by omega)] at he
 subst he
 have h2 : Hid (sz sSubst d2 ≤ 1048576) := hid (by rw [HT2.out]; omega)
 clear cA0_0 cA0_1 cA1_0 cA1_1 cA2_0
 have cA0_0 : w3.cell? ⟨w.heap.size, 0, none⟩ = some (v0_0) := (rA0.next bel).cell 0
 have cA0_1 : w3.cell? ⟨w.heap.size, 1, none⟩ = some (v0_1) := (rA0.next bel).cell 1
 have cA1_0 : w3.cell? ⟨w.heap.size + 1, 0, none⟩ = some (v1_0) := (rA1.next bel).cell 0
 have cA1_1 : w3.cell? ⟨w.heap.size + 1, 1, none⟩ = some (v1_1) := (rA1.next bel).cell 1
 have cA2_0 : w3.cell? ⟨w.heap.size + 1 + 1, 0, none⟩ = some (v2_0) := (rA2.next bel).cell 0
 have hlen : sz sWalk (undW d0.1 d0.2 d1 d2) ≤ 1048576 := und_sz
 obtain ⟨ys, hys⟩ : ∃ ys, undW d0.1 d0.2 d1 d2 = ys := ⟨_, rfl⟩
 rw [hys] at hlen
 have HY := hid hys
 clear hys
 replace hlen := hid hlen
 obtain ⟨cg, hcg⟩ : ∃ z, cntv sWalk ys = z := ⟨_, rfl⟩
 have hcG : cg ≤ 4 * 1048576 := by have j1 := cntv_le sWalk ys; have j2 := hlen.out; have j3 : wd sWalk = 4 := rfl; rw [hcg, j3] at j1; omega
 have HCG := hid hcg
 clear hcg
 obtain ⟨k0, hk0⟩ : ∃ z, cntv sSystem d0 = z := ⟨_, rfl⟩
 have hK0 : k0 ≤ 3 * 1048576 := by have j1 := cntv_le sSystem d0; have j2 := h0.out; have j3 : wd sSystem = 3 := rfl; rw [hk0, j3] at j1; omega
 have HK0 := hid hk0
 clear hk0
 obtain ⟨k1, hk1⟩ : ∃ z, cntv sWalk d1 = z := ⟨_, rfl⟩
 have hK1 : k1 ≤ 4 * 1048576 := by have j1 := cntv_le sWalk d1; have j2 := h1.out; have j3 : wd sWalk = 4 := rfl; rw [hk1, j3] at j1; omega
 have HK1 := hid hk1
 clear hk1
 obtain ⟨k2, hk2⟩ : ∃ z, cntv sSubst d2 = z := ⟨_, rfl⟩
 have hK2 : k2 ≤ 1 * 1048576 := by have j1 := cntv_le sSubst d2; have j2 := h2.out; have j3 : wd sSubst = 1 := rfl; rw [hk2, j3] at j1; omega
 have HK2 := hid hk2
 clear hk2
 go_upto_region 11 with (fail)
 replace bel := bel.drew
 have zdw3 := (drew_below w3).size
 go_cut [8, 9] (fun s8 s9 wx => Boxed (w3.drew) ys s8 wx ∧ s9 = .bool v)
 case first =>
  have bs := Below.refl (w3.drew).heap.size (w3.drew)
  have bl := bel
  have zst := bl.size
  have c0S := hid (show w3.drew.cell? ⟨w.heap.size, 0, none⟩ = some (v0_0) ∧ w3.drew.cell? ⟨w.heap.size, 1, none⟩ = some (v0_1) ∧ w3.drew.cell? ⟨w.heap.size + 1, 0, none⟩ = some (v1_0) ∧ w3.drew.cell? ⟨w.heap.size + 1, 1, none⟩ = some (v1_1) ∧ w3.drew.cell? ⟨w.heap.size + 1 + 1, 0, none⟩ = some (v2_0) from ⟨(show w3.drew.cell? ⟨w.heap.size, 0, none⟩ = some (v0_0) from (rA0.next bl).cell 0), (show w3.drew.cell? ⟨w.heap.size, 1, none⟩ = some (v0_1) from (rA0.next bl).cell 1), (show w3.drew.cell? ⟨w.heap.size + 1, 0, none⟩ = some (v1_0) from (rA1.next bl).cell 0), (show w3.drew.cell? ⟨w.heap.size + 1, 1, none⟩ = some (v1_1) from (rA1.next bl).cell 1), (show w3.drew.cell? ⟨w.heap.size + 1 + 1, 0, none⟩ = some (v2_0) from (rA2.next bl).cell 0)⟩)
  clear bel cA0_0 cA0_1 cA1_0 cA1_1 cA2_0
  refine wp_region_held_drew (S := fun w' => w'.cell? ⟨w.heap.size, 0, none⟩ = some (v0_0) ∧ w'.cell? ⟨w.heap.size, 1, none⟩ = some (v0_1) ∧ w'.cell? ⟨w.heap.size + 1, 0, none⟩ = some (v1_0) ∧ w'.cell? ⟨w.heap.size + 1, 1, none⟩ = some (v1_1) ∧ w'.cell? ⟨w.heap.size + 1 + 1, 0, none⟩ = some (v2_0)) (by kernel_rfl) c0S.out (fun hHeld => ?_)
  refine wpAnyH_take (i := 0) (v := ?_) rfl (by kernel_rfl) (by kernel_rfl) (by kernel_rfl) (fun _ _ _ h => h) (Or.inl ⟨by rfl, ?_⟩) (by assumption) ?_
  rotate_left 1
  ·(intro w0 hSw; (try dsimp only at hSw); go_simp; try with_reducible rfl)
  try simp only [Act.put, setIfInBounds_toArray, set_cons_zero, set_cons_succ, getElem_toArray, getElem_cons_zero, getElem_cons_succ]
  refine wpAnyH_take (i := 2) (v := ?_) rfl (by kernel_rfl) (by kernel_rfl) (by kernel_rfl) (fun _ _ _ h => h) (Or.inl ⟨by rfl, ?_⟩) (by assumption) ?_
  rotate_left 1
  ·(intro w0 hSw; (try dsimp only at hSw); go_simp; try with_reducible rfl)
  try simp only [Act.put, setIfInBounds_toArray, set_cons_zero, set_cons_succ, getElem_toArray, getElem_cons_zero, getElem_cons_succ]
  refine wpAnyH_take (i := 4) (v := ?_) rfl (by kernel_rfl) (by kernel_rfl) (by kernel_rfl) (fun _ _ _ h => h) (Or.inl ⟨by rfl, ?_⟩) (by assumption) ?_
  rotate_left 1
  ·(intro w0 hSw; (try dsimp only at hSw); go_simp; try with_reducible rfl)
  try simp only [Act.put, setIfInBounds_toArray, set_cons_zero, set_cons_succ, getElem_toArray, getElem_cons_zero, getElem_cons_succ]
  refine wpAnyH_ready (rs := [1, 10]) (by kernel_rfl) (by simp) (AllReadyH.cons rfl (fun K hK => ?_) (AllReadyH.cons rfl (fun K hK => ?_) AllReadyH.nil))
  ·skip
   try simp only [Act.put, setIfInBounds_toArray, set_cons_zero, set_cons_succ, getElem_toArray, getElem_cons_zero, getElem_cons_succ]
   rw [if_pos (by rfl)]
   go_simp
   refine (toK_System _ _ d0 _ (s0.next bl) h0.out).mono ?_
   rintro e v1 ⟨q0A0, q0n0, q0c0, q0A1, q0n1, q0c1, rfl, oq0, bb⟩
   replace bl := next_trans bl bb
   replace bs := next_trans bs bb
   have zqv1 := bb.size
   clear bb
   go_wp2_with fail
   refine hK.out _ _ ?_ (fun hHeld => ?_)
   ·exact ⟨(show v1.cell? ⟨w.heap.size, 0, none⟩ = some (v0_0) from (rA0.next bl).cell 0), (show v1.cell? ⟨w.heap.size, 1, none⟩ = some (v0_1) from (rA0.next bl).cell 1), (show v1.cell? ⟨w.heap.size + 1, 0, none⟩ = some (v1_0) from (rA1.next bl).cell 0), (show v1.cell? ⟨w.heap.size + 1, 1, none⟩ = some (v1_1) from (rA1.next bl).cell 1), (show v1.cell? ⟨w.heap.size + 1 + 1, 0, none⟩ = some (v2_0) from (rA2.next bl).cell 0)⟩
   clear hK K
   try simp only [Act.put, setIfInBounds_toArray, set_cons_zero, set_cons_succ, getElem_toArray, getElem_cons_zero, getElem_cons_succ]
   refine wpAnyH_ready (rs := [3, 10]) (by kernel_rfl) (by simp) (AllReadyH.cons rfl (fun K hK => ?_) (AllReadyH.cons rfl (fun K hK => ?_) AllReadyH.nil))
   ·skip
    try simp only [Act.put, setIfInBounds_toArray, set_cons_zero, set_cons_succ, getElem_toArray, getElem_cons_zero, getElem_cons_succ]
    rw [if_pos (by rfl)]
    go_simp
    refine (toK_Walk _ _ d1 _ (s1.next bl) h1.out).mono ?_
    rintro e v2 ⟨q1A0, q1n0, q1c0, q1A1, q1n1, q1c1, rfl, oq1, bb⟩
    replace oq0 := oq0.next bb
    replace bl := next_trans bl bb
    replace bs := next_trans bs bb
    have zqv2 := bb.size
    clear bb
    go_wp2_with fail
    refine hK.out _ _ ?_ (fun hHeld => ?_)
    ·exact ⟨(show v2.cell? ⟨w.heap.size, 0, none⟩ = some (v0_0) from (rA0.next bl).cell 0), (show v2.cell? ⟨w.heap.size, 1, none⟩ = some (v0_1) from (rA0.next bl).cell 1), (show v2.cell? ⟨w.heap.size + 1, 0, none⟩ = some (v1_0) from (rA1.next bl).cell 0), (show v2.cell? ⟨w.heap.size + 1, 1, none⟩ = some (v1_1) from (rA1.next bl).cell 1), (show v2.cell? ⟨w.heap.size + 1 + 1, 0, none⟩ = some (v2_0) from (rA2.next bl).cell 0)⟩
    clear hK K
    try simp only [Act.put, setIfInBounds_toArray, set_cons_zero, set_cons_succ, getElem_toArray, getElem_cons_zero, getElem_cons_succ]
    refine wpAnyH_ready (rs := [5, 10]) (by kernel_rfl) (by simp) (AllReadyH.cons rfl (fun K hK => ?_) (AllReadyH.cons rfl (fun K hK => ?_) AllReadyH.nil))
    ·skip
     try simp only [Act.put, setIfInBounds_toArray, set_cons_zero, set_cons_succ, getElem_toArray, getElem_cons_zero, getElem_cons_succ]
     rw [if_pos (by rfl)]
     go_simp
     refine (toK_Subst _ d2 _ (s2.next bl) h2.out).mono ?_
     rintro e v3 ⟨q2A0, q2n0, q2c0, rfl, oq2, bb⟩
     replace oq0 := oq0.next bb
     replace oq1 := oq1.next bb
     replace bl := next_trans bl bb
     replace bs := next_trans bs bb
     have zqv3 := bb.size
     clear bb
     go_wp2_with fail
     refine hK.out _ _ ?_ (fun hHeld => ?_)
     ·exact ⟨(show v3.cell? ⟨w.heap.size, 0, none⟩ = some (v0_0) from (rA0.next bl).cell 0), (show v3.cell? ⟨w.heap.size, 1, none⟩ = some (v0_1) from (rA0.next bl).cell 1), (show v3.cell? ⟨w.heap.size + 1, 0, none⟩ = some (v1_0) from (rA1.next bl).cell 0), (show v3.cell? ⟨w.heap.size + 1, 1, none⟩ = some (v1_1) from (rA1.next bl).cell 1), (show v3.cell? ⟨w.heap.size + 1 + 1, 0, none⟩ = some (v2_0) from (rA2.next bl).cell 0)⟩
     clear hK K
     try simp only [Act.put, setIfInBounds_toArray, set_cons_zero, set_cons_succ, getElem_toArray, getElem_cons_zero, getElem_cons_succ]
     refine wpAnyH_ready (rs := [6, 10]) (by kernel_rfl) (by simp) (AllReadyH.cons rfl (fun K hK => ?_) (AllReadyH.cons rfl (fun K hK => ?_) AllReadyH.nil))
     ·skip
      try simp only [Act.put, setIfInBounds_toArray, set_cons_zero, set_cons_succ, getElem_toArray, getElem_cons_zero, getElem_cons_succ]
      rw [if_pos (by rfl)]
      go_simp
      refine (specWalkUnder _ _ _ _ _ d0 d1 d2 _ oq0.rd oq1.rd oq2.rd h0.out h1.out h2.out).mono ?_
      rintro e v4 ⟨wA0, wn0, wc0, wA1, wn1, wc1, he, o0, bb⟩
      rw [HV.out] at he
      rw [HY.out] at o0
      subst he
      replace oq0 := oq0.next bb
      replace oq1 := oq1.next bb
      replace oq2 := oq2.next bb
      replace bl := next_trans bl bb
      replace bs := next_trans bs bb
      have zqv4 := bb.size
      clear bb
      clear oq0 oq1 oq2
      go_wp2_with fail
      refine hK.out _ _ ?_ (fun hHeld => ?_)
      ·exact ⟨(show v4.cell? ⟨w.heap.size, 0, none⟩ = some (v0_0) from (rA0.next bl).cell 0), (show v4.cell? ⟨w.heap.size, 1, none⟩ = some (v0_1) from (rA0.next bl).cell 1), (show v4.cell? ⟨w.heap.size + 1, 0, none⟩ = some (v1_0) from (rA1.next bl).cell 0), (show v4.cell? ⟨w.heap.size + 1, 1, none⟩ = some (v1_1) from (rA1.next bl).cell 1), (show v4.cell? ⟨w.heap.size + 1 + 1, 0, none⟩ = some (v2_0) from (rA2.next bl).cell 0)⟩
      clear hK K
      try simp only [Act.put, setIfInBounds_toArray, set_cons_zero, set_cons_succ, getElem_toArray, getElem_cons_zero, getElem_cons_succ]
      refine wpAnyH_take (i := 7) (v := ?_) rfl (by kernel_rfl) (by kernel_rfl) (by kernel_rfl) (fun _ _ _ h => h) (Or.inl ⟨by rfl, ?_⟩) (by assumption) ?_
      rotate_left 1
      ·(intro w0 hSw; (try dsimp only at hSw); go_simp; try with_reducible rfl)
      try simp only [Act.put, setIfInBounds_toArray, set_cons_zero, set_cons_succ, getElem_toArray, getElem_cons_zero, getElem_cons_succ]
      refine wpAnyH_take (i := 8) (v := ?_) rfl (by kernel_rfl) (by kernel_rfl) (by kernel_rfl) (fun _ _ _ h => h) (Or.inl ⟨by rfl, ?_⟩) (by assumption) ?_
      rotate_left 1
      ·(intro w0 hSw; (try dsimp only at hSw); go_simp; try with_reducible rfl)
      try simp only [Act.put, setIfInBounds_toArray, set_cons_zero, set_cons_succ, getElem_toArray, getElem_cons_zero, getElem_cons_succ]
      refine wpAnyH_take (i := 9) (v := ?_) rfl (by kernel_rfl) (by kernel_rfl) (by kernel_rfl) (fun _ _ _ h => h) (Or.inl ⟨by rfl, ?_⟩) (by assumption) ?_
      rotate_left 1
      ·(intro w0 hSw; (try dsimp only at hSw); go_simp; try with_reducible rfl)
      try simp only [Act.put, setIfInBounds_toArray, set_cons_zero, set_cons_succ, getElem_toArray, getElem_cons_zero, getElem_cons_succ]
      refine wpAnyH_ready (rs := [10]) (by kernel_rfl) (by simp) (AllReadyH.cons rfl (fun K hK => ?_) AllReadyH.nil)
      try simp only [Act.put, setIfInBounds_toArray, set_cons_zero, set_cons_succ, getElem_toArray, getElem_cons_zero, getElem_cons_succ]
      rw [if_pos (by rfl)]
      go_simp
      obtain ⟨v5, hw⟩ : ∃ W, W = (v4.alloc (.cells #[.slice none 0 0, .slice none 0 0] 39)) := ⟨_, rfl⟩
      rw [← hw]
      have rg : Row v5 v4.heap.size 39 #[.slice none 0 0, .slice none 0 0] := by rw [hw]; exact Row.new _ _ _
      have bb : Below v4.heap.size v4 v5 := by rw [hw]; exact (Below.refl _ _).alloc (Nat.le_refl _) _
      have ygg : v4.heap.size < v5.heap.size := rg.lt
      have hgB : w3.drew.heap.size ≤ v4.heap.size := bs.size
      clear hw
      replace o0 := o0.next bb
      replace bl := next_trans bl bb
      replace bs := next_trans bs bb
      have zqv5 := bb.size
      clear bb
      refine hK.out _ _ ?_ (fun hHeld => ?_)
      ·exact ⟨(show v5.cell? ⟨w.heap.size, 0, none⟩ = some (v0_0) from (rA0.next bl).cell 0), (show v5.cell? ⟨w.heap.size, 1, none⟩ = some (v0_1) from (rA0.next bl).cell 1), (show v5.cell? ⟨w.heap.size + 1, 0, none⟩ = some (v1_0) from (rA1.next bl).cell 0), (show v5.cell? ⟨w.heap.size + 1, 1, none⟩ = some (v1_1) from (rA1.next bl).cell 1), (show v5.cell? ⟨w.heap.size + 1 + 1, 0, none⟩ = some (v2_0) from (rA2.next bl).cell 0)⟩
      clear hK K
      try simp only [Act.put, setIfInBounds_toArray, set_cons_zero, set_cons_succ, getElem_toArray, getElem_cons_zero, getElem_cons_succ]
      have cg0 : (v5).cell? ⟨v4.heap.size, 0, none⟩ = some (.slice none 0 0) := (rg).cell 0
      have fg0 : (v5).frozen? ⟨v4.heap.size, 0, none⟩ = false := (rg).free 0
      have cg1 : ((v5).setCell ⟨v4.heap.size, 0, none⟩ (.slice wA0 wn0 wc0)).cell? ⟨v4.heap.size, 1, none⟩ = some (.slice none 0 0) := (Row.put (rg) 0 (.slice wA0 wn0 wc0)).cell 1
      have fg1 : ((v5).setCell ⟨v4.heap.size, 0, none⟩ (.slice wA0 wn0 wc0)).frozen? ⟨v4.heap.size, 1, none⟩ = false := (Row.put (rg) 0 (.slice wA0 wn0 wc0)).free 1
      have hne0 : v4.heap.size ≠ w.heap.size := by omega
      have hne1 : v4.heap.size ≠ w.heap.size + 1 := by omega
      have hne2 : v4.heap.size ≠ w.heap.size + 1 + 1 := by omega
      refine wpAnyH_ready (rs := [11]) (by kernel_rfl) (by simp) (AllReadyH.cons rfl (fun K hK => ?_) AllReadyH.nil)
      try simp only [Act.put, setIfInBounds_toArray, set_cons_zero, set_cons_succ, getElem_toArray, getElem_cons_zero, getElem_cons_succ]
      rw [if_pos (by rfl)]
      go_simp
      refine hK.out _ _ ?_ (fun hHeld => ?_)
      ·exact ⟨(far_cell hne0 (far_cell hne0 (show v5.cell? ⟨w.heap.size, 0, none⟩ = some (v0_0) from (rA0.next bl).cell 0))), (far_cell hne0 (far_cell hne0 (show v5.cell? ⟨w.heap.size, 1, none⟩ = some (v0_1) from (rA0.next bl).cell 1))), (far_cell hne1 (far_cell hne1 (show v5.cell? ⟨w.heap.size + 1, 0, none⟩ = some (v1_0) from (rA1.next bl).cell 0))), (far_cell hne1 (far_cell hne1 (show v5.cell? ⟨w.heap.size + 1, 1, none⟩ = some (v1_1) from (rA1.next bl).cell 1))), (far_cell hne2 (far_cell hne2 (show v5.cell? ⟨w.heap.size + 1 + 1, 0, none⟩ = some (v2_0) from (rA2.next bl).cell 0)))⟩
      clear hK K
      try simp only [Act.put, setIfInBounds_toArray, set_cons_zero, set_cons_succ, getElem_toArray, getElem_cons_zero, getElem_cons_succ]
      refine wpAnyH_take (i := 12) (v := ?_) rfl (by kernel_rfl) (by kernel_rfl) (by kernel_rfl) (fun _ _ _ h => h) (Or.inl ⟨by rfl, ?_⟩) (by assumption) ?_
      rotate_left 1
      ·(intro w0 hSw; (try dsimp only at hSw); go_simp; try with_reducible rfl)
      try simp only [Act.put, setIfInBounds_toArray, set_cons_zero, set_cons_succ, getElem_toArray, getElem_cons_zero, getElem_cons_succ]
      refine wpAnyH_done (by kernel_rfl) ?_ _
      have F := boxed_put (W := w3.drew) o0 rg (by omega) bs hgB
      clear cg0 fg0 cg1 fg1 bl rg o0 bs hne0 hne1 hne2
      go_wp2_with fail
      go_meet
      exact ⟨F, rfl⟩
     ·skip
      try simp only [Act.put, setIfInBounds_toArray, set_cons_zero, set_cons_succ, getElem_toArray, getElem_cons_zero, getElem_cons_succ]
      rw [if_pos (by rfl)]
      go_simp
      obtain ⟨v6, hw⟩ : ∃ W, W = (v3.alloc (.cells #[.slice none 0 0, .slice none 0 0] 39)) := ⟨_, rfl⟩
      rw [← hw]
      have rg : Row v6 v3.heap.size 39 #[.slice none 0 0, .slice none 0 0] := by rw [hw]; exact Row.new _ _ _
      have bb : Below v3.heap.size v3 v6 := by rw [hw]; exact (Below.refl _ _).alloc (Nat.le_refl _) _
      have ygg : v3.heap.size < v6.heap.size := rg.lt
      have hgB : w3.drew.heap.size ≤ v3.heap.size := bs.size
      clear hw
      replace oq0 := oq0.next bb
      replace oq1 := oq1.next bb
      replace oq2 := oq2.next bb
      replace bl := next_trans bl bb
      replace bs := next_trans bs bb
      have zqv6 := bb.size
      clear bb
      refine hK.out _ _ ?_ (fun hHeld => ?_)
      ·exact ⟨(show v6.cell? ⟨w.heap.size, 0, none⟩ = some (v0_0) from (rA0.next bl).cell 0), (show v6.cell? ⟨w.heap.size, 1, none⟩ = some (v0_1) from (rA0.next bl).cell 1), (show v6.cell? ⟨w.heap.size + 1, 0, none⟩ = some (v1_0) from (rA1.next bl).cell 0), (show v6.cell? ⟨w.heap.size + 1, 1, none⟩ = some (v1_1) from (rA1.next bl).cell 1), (show v6.cell? ⟨w.heap.size + 1 + 1, 0, none⟩ = some (v2_0) from (rA2.next bl).cell 0)⟩
      clear hK K
      try simp only [Act.put, setIfInBounds_toArray, set_cons_zero, set_cons_succ, getElem_toArray, getElem_cons_zero, getElem_cons_succ]
      refine wpAnyH_ready (rs := [6]) (by kernel_rfl) (by simp) (AllReadyH.cons rfl (fun K hK => ?_) AllReadyH.nil)
      try simp only [Act.put, setIfInBounds_toArray, set_cons_zero, set_cons_succ, getElem_toArray, getElem_cons_zero, getElem_cons_succ]
      rw [if_pos (by rfl)]
      go_simp
      refine (specWalkUnder _ _ _ _ _ d0 d1 d2 _ oq0.rd oq1.rd oq2.rd h0.out h1.out h2.out).mono ?_
      rintro e v7 ⟨wA0, wn0, wc0, wA1, wn1, wc1, he, o0, bb⟩
      rw [HV.out] at he
      rw [HY.out] at o0
      subst he
      replace oq0 := oq0.next bb
      replace oq1 := oq1.next bb
      replace oq2 := oq2.next bb
      replace rg := rg.next bb
      replace bl := next_trans bl bb
      replace bs := next_trans bs bb
      have zqv7 := bb.size
      clear bb
      clear oq0 oq1 oq2
      go_wp2_with fail
      refine hK.out _ _ ?_ (fun hHeld => ?_)
      ·exact ⟨(show v7.cell? ⟨w.heap.size, 0, none⟩ = some (v0_0) from (rA0.next bl).cell 0), (show v7.cell? ⟨w.heap.size, 1, none⟩ = some (v0_1) from (rA0.next bl).cell 1), (show v7.cell? ⟨w.heap.size + 1, 0, none⟩ = some (v1_0) from (rA1.next bl).cell 0), (show v7.cell? ⟨w.heap.size + 1, 1, none⟩ = some (v1_1) from (rA1.next bl).cell 1), (show v7.cell? ⟨w.heap.size + 1 + 1, 0, none⟩ = some (v2_0) from (rA2.next bl).cell 0)⟩
      clear hK K
      try simp only [Act.put, setIfInBounds_toArray, set_cons_zero, set_cons_succ, getElem_toArray, getElem_cons_zero, getElem_cons_succ]
      refine wpAnyH_take (i := 7) (v := ?_) rfl (by kernel_rfl) (by kernel_rfl) (by kernel_rfl) (fun _ _ _ h => h) (Or.inl ⟨by rfl, ?_⟩) (by assumption) ?_
      rotate_left 1
      ·(intro w0 hSw; (try dsimp only at hSw); go_simp; try with_reducible rfl)
      try simp only [Act.put, setIfInBounds_toArray, set_cons_zero, set_cons_succ, getElem_toArray, getElem_cons_zero, getElem_cons_succ]
      refine wpAnyH_take (i := 8) (v := ?_) rfl (by kernel_rfl) (by kernel_rfl) (by kernel_rfl) (fun _ _ _ h => h) (Or.inl ⟨by rfl, ?_⟩) (by assumption) ?_
      rotate_left 1
      ·(intro w0 hSw; (try dsimp only at hSw); go_simp; try with_reducible rfl)
      try simp only [Act.put, setIfInBounds_toArray, set_cons_zero, set_cons_succ, getElem_toArray, getElem_cons_zero, getElem_cons_succ]
      refine wpAnyH_take (i := 9) (v := ?_) rfl (by kernel_rfl) (by kernel_rfl) (by kernel_rfl) (fun _ _ _ h => h) (Or.inl ⟨by rfl, ?_⟩) (by assumption) ?_
      rotate_left 1
      ·(intro w0 hSw; (try dsimp only at hSw); go_simp; try with_reducible rfl)
      try simp only [Act.put, setIfInBounds_toArray, set_cons_zero, set_cons_succ, getElem_toArray, getElem_cons_zero, getElem_cons_succ]
      have cg0 : (v7).cell? ⟨v3.heap.size, 0, none⟩ = some (.slice none 0 0) := (rg).cell 0
      have fg0 : (v7).frozen? ⟨v3.heap.size, 0, none⟩ = false := (rg).free 0
      have cg1 : ((v7).setCell ⟨v3.heap.size, 0, none⟩ (.slice wA0 wn0 wc0)).cell? ⟨v3.heap.size, 1, none⟩ = some (.slice none 0 0) := (Row.put (rg) 0 (.slice wA0 wn0 wc0)).cell 1
      have fg1 : ((v7).setCell ⟨v3.heap.size, 0, none⟩ (.slice wA0 wn0 wc0)).frozen? ⟨v3.heap.size, 1, none⟩ = false := (Row.put (rg) 0 (.slice wA0 wn0 wc0)).free 1
      have hne0 : v3.heap.size ≠ w.heap.size := by omega
      have hne1 : v3.heap.size ≠ w.heap.size + 1 := by omega
      have hne2 : v3.heap.size ≠ w.heap.size + 1 + 1 := by omega
      refine wpAnyH_ready (rs := [11]) (by kernel_rfl) (by simp) (AllReadyH.cons rfl (fun K hK => ?_) AllReadyH.nil)
      try simp only [Act.put, setIfInBounds_toArray, set_cons_zero, set_cons_succ, getElem_toArray, getElem_cons_zero, getElem_cons_succ]
      rw [if_pos (by rfl)]
      go_simp
      refine hK.out _ _ ?_ (fun hHeld => ?_)
      ·exact ⟨(far_cell hne0 (far_cell hne0 (show v7.cell? ⟨w.heap.size, 0, none⟩ = some (v0_0) from (rA0.next bl).cell 0))), (far_cell hne0 (far_cell hne0 (show v7.cell? ⟨w.heap.size, 1, none⟩ = some (v0_1) from (rA0.next bl).cell 1))), (far_cell hne1 (far_cell hne1 (show v7.cell? ⟨w.heap.size + 1, 0, none⟩ = some (v1_0) from (rA1.next bl).cell 0))), (far_cell hne1 (far_cell hne1 (show v7.cell? ⟨w.heap.size + 1, 1, none⟩ = some (v1_1) from (rA1.next bl).cell 1))), (far_cell hne2 (far_cell hne2 (show v7.cell? ⟨w.heap.size + 1 + 1, 0, none⟩ = some (v2_0) from (rA2.next bl).cell 0)))⟩
      clear hK K
      try simp only [Act.put, setIfInBounds_toArray, set_cons_zero, set_cons_succ, getElem_toArray, getElem_cons_zero, getElem_cons_succ]
      refine wpAnyH_take (i := 12) (v := ?_) rfl (by kernel_rfl) (by kernel_rfl) (by kernel_rfl) (fun _ _ _ h => h) (Or.inl ⟨by rfl, ?_⟩) (by assumption) ?_
      rotate_left 1
      ·(intro w0 hSw; (try dsimp only at hSw); go_simp; try with_reducible rfl)
      try simp only [Act.put, setIfInBounds_toArray, set_cons_zero, set_cons_succ, getElem_toArray, getElem_cons_zero, getElem_cons_succ]
      refine wpAnyH_done (by kernel_rfl) ?_ _
      have F := boxed_put (W := w3.drew) o0 rg (by omega) bs hgB
      clear cg0 fg0 cg1 fg1 bl rg o0 bs hne0 hne1 hne2
      go_wp2_with fail
      go_meet
      exact ⟨F, rfl⟩
    ·skip
     try simp only [Act.put, setIfInBounds_toArray, set_cons_zero, set_cons_succ, getElem_toArray, getElem_cons_zero, getElem_cons_succ]
     rw [if_pos (by rfl)]
     go_simp
     obtain ⟨v8, hw⟩ : ∃ W, W = (v2.alloc (.cells #[.slice none 0 0, .slice none 0 0] 39)) := ⟨_, rfl⟩
     rw [← hw]
     have rg : Row v8 v2.heap.size 39 #[.slice none 0 0, .slice none 0 0] := by rw [hw]; exact Row.new _ _ _
     have bb : Below v2.heap.size v2 v8 := by rw [hw]; exact (Below.refl _ _).alloc (Nat.le_refl _) _
     have ygg : v2.heap.size < v8.heap.size := rg.lt
     have hgB : w3.drew.heap.size ≤ v2.heap.size := bs.size
     clear hw
     replace oq0 := oq0.next bb
     replace oq1 := oq1.next bb
     replace bl := next_trans bl bb
     replace bs := next_trans bs bb
     have zqv8 := bb.size
     clear bb
     refine hK.out _ _ ?_ (fun hHeld => ?_)
     ·exact ⟨(show v8.cell? ⟨w.heap.size, 0, none⟩ = some (v0_0) from (rA0.next bl).cell 0), (show v8.cell? ⟨w.heap.size, 1, none⟩ = some (v0_1) from (rA0.next bl).cell 1), (show v8.cell? ⟨w.heap.size + 1, 0, none⟩ = some (v1_0) from (rA1.next bl).cell 0), (show v8.cell? ⟨w.heap.size + 1, 1, none⟩ = some (v1_1) from (rA1.next bl).cell 1), (show v8.cell? ⟨w.heap.size + 1 + 1, 0, none⟩ = some (v2_0) from (rA2.next bl).cell 0)⟩
     clear hK K
     try simp only [Act.put, setIfInBounds_toArray, set_cons_zero, set_cons_succ, getElem_toArray, getElem_cons_zero, getElem_cons_succ]
     refine wpAnyH_ready (rs := [5]) (by kernel_rfl) (by simp) (AllReadyH.cons rfl (fun K hK => ?_) AllReadyH.nil)
     try simp only [Act.put, setIfInBounds_toArray, set_cons_zero, set_cons_succ, getElem_toArray, getElem_cons_zero, getElem_cons_succ]
     rw [if_pos (by rfl)]
     go_simp
     refine (toK_Subst _ d2 _ (s2.next bl) h2.out).mono ?_
     rintro e v9 ⟨q2A0, q2n0, q2c0, rfl, oq2, bb⟩
     replace oq0 := oq0.next bb
     replace oq1 := oq1.next bb
     replace rg := rg.next bb
     replace bl := next_trans bl bb
     replace bs := next_trans bs bb
     have zqv9 := bb.size
     clear bb
     go_wp2_with fail
     refine hK.out _ _ ?_ (fun hHeld => ?_)
     ·exact ⟨(show v9.cell? ⟨w.heap.size, 0, none⟩ = some (v0_0) from (rA0.next bl).cell 0), (show v9.cell? ⟨w.heap.size, 1, none⟩ = some (v0_1) from (rA0.next bl).cell 1), (show v9.cell? ⟨w.heap.size + 1, 0, none⟩ = some (v1_0) from (rA1.next bl).cell 0), (show v9.cell? ⟨w.heap.size + 1, 1, none⟩ = some (v1_1) from (rA1.next bl).cell 1), (show v9.cell? ⟨w.heap.size + 1 + 1, 0, none⟩ = some (v2_0) from (rA2.next bl).cell 0)⟩
     clear hK K
     try simp only [Act.put, setIfInBounds_toArray, set_cons_zero, set_cons_succ, getElem_toArray, getElem_cons_zero, getElem_cons_succ]
     refine wpAnyH_ready (rs := [6]) (by kernel_rfl) (by simp) (AllReadyH.cons rfl (fun K hK => ?_) AllReadyH.nil)
     try simp only [Act.put, setIfInBounds_toArray, set_cons_zero, set_cons_succ, getElem_toArray, getElem_cons_zero, getElem_cons_succ]
     rw [if_pos (by rfl)]
     go_simp
     refine (specWalkUnder _ _ _ _ _ d0 d1 d2 _ oq0.rd oq1.rd oq2.rd h0.out h1.out h2.out).mono ?_
     rintro e v10 ⟨wA0, wn0, wc0, wA1, wn1, wc1, he, o0, bb⟩
     rw [HV.out] at he
     rw [HY.out] at o0
     subst he
     replace oq0 := oq0.next bb
     replace oq1 := oq1.next bb
     replace rg := rg.next bb
     replace oq2 := oq2.next bb
     replace bl := next_trans bl bb
     replace bs := next_trans bs bb
     have zqv10 := bb.size
     clear bb
     clear oq0 oq1 oq2
     go_wp2_with fail
     refine hK.out _ _ ?_ (fun hHeld => ?_)
     ·exact ⟨(show v10.cell? ⟨w.heap.size, 0, none⟩ = some (v0_0) from (rA0.next bl).cell 0), (show v10.cell? ⟨w.heap.size, 1, none⟩ = some (v0_1) from (rA0.next bl).cell 1), (show v10.cell? ⟨w.heap.size + 1, 0, none⟩ = some (v1_0) from (rA1.next bl).cell 0), (show v10.cell? ⟨w.heap.size + 1, 1, none⟩ = some (v1_1) from (rA1.next bl).cell 1), (show v10.cell? ⟨w.heap.size + 1 + 1, 0, none⟩ = some (v2_0) from (rA2.next bl).cell 0)⟩
     clear hK K
     try simp only [Act.put, setIfInBounds_toArray, set_cons_zero, set_cons_succ, getElem_toArray, getElem_cons_zero, getElem_cons_succ]
     refine wpAnyH_take (i := 7) (v := ?_) rfl (by kernel_rfl) (by kernel_rfl) (by kernel_rfl) (fun _ _ _ h => h) (Or.inl ⟨by rfl, ?_⟩) (by assumption) ?_
     rotate_left 1
     ·(intro w0 hSw; (try dsimp only at hSw); go_simp; try with_reducible rfl)
     try simp only [Act.put, setIfInBounds_toArray, set_cons_zero, set_cons_succ, getElem_toArray, getElem_cons_zero, getElem_cons_succ]
     refine wpAnyH_take (i := 8) (v := ?_) rfl (by kernel_rfl) (by kernel_rfl) (by kernel_rfl) (fun _ _ _ h => h) (Or.inl ⟨by rfl, ?_⟩) (by assumption) ?_
     rotate_left 1
     ·(intro w0 hSw; (try dsimp only at hSw); go_simp; try with_reducible rfl)
     try simp only [Act.put, setIfInBounds_toArray, set_cons_zero, set_cons_succ, getElem_toArray, getElem_cons_zero, getElem_cons_succ]
     refine wpAnyH_take (i := 9) (v := ?_) rfl (by kernel_rfl) (by kernel_rfl) (by kernel_rfl) (fun _ _ _ h => h) (Or.inl ⟨by rfl, ?_⟩) (by assumption) ?_
     rotate_left 1
     ·(intro w0 hSw; (try dsimp only at hSw); go_simp; try with_reducible rfl)
     try simp only [Act.put, setIfInBounds_toArray, set_cons_zero, set_cons_succ, getElem_toArray, getElem_cons_zero, getElem_cons_succ]
     have cg0 : (v10).cell? ⟨v2.heap.size, 0, none⟩ = some (.slice none 0 0) := (rg).cell 0
     have fg0 : (v10).frozen? ⟨v2.heap.size, 0, none⟩ = false := (rg).free 0
     have cg1 : ((v10).setCell ⟨v2.heap.size, 0, none⟩ (.slice wA0 wn0 wc0)).cell? ⟨v2.heap.size, 1, none⟩ = some (.slice none 0 0) := (Row.put (rg) 0 (.slice wA0 wn0 wc0)).cell 1
     have fg1 : ((v10).setCell ⟨v2.heap.size, 0, none⟩ (.slice wA0 wn0 wc0)).frozen? ⟨v2.heap.size, 1, none⟩ = false := (Row.put (rg) 0 (.slice wA0 wn0 wc0)).free 1
     have hne0 : v2.heap.size ≠ w.heap.size := by omega
     have hne1 : v2.heap.size ≠ w.heap.size + 1 := by omega
     have hne2 : v2.heap.size ≠ w.heap.size + 1 + 1 := by omega
     refine wpAnyH_ready (rs := [11]) (by kernel_rfl) (by simp) (AllReadyH.cons rfl (fun K hK => ?_) AllReadyH.nil)
     try simp only [Act.put, setIfInBounds_toArray, set_cons_zero, set_cons_succ, getElem_toArray, getElem_cons_zero, getElem_cons_succ]
     rw [if_pos (by rfl)]
     go_simp
     refine hK.out _ _ ?_ (fun hHeld => ?_)
     ·exact ⟨(far_cell hne0 (far_cell hne0 (show v10.cell? ⟨w.heap.size, 0, none⟩ = some (v0_0) from (rA0.next bl).cell 0))), (far_cell hne0 (far_cell hne0 (show v10.cell? ⟨w.heap.size, 1, none⟩ = some (v0_1) from (rA0.next bl).cell 1))), (far_cell hne1 (far_cell hne1 (show v10.cell? ⟨w.heap.size + 1, 0, none⟩ = some (v1_0) from (rA1.next bl).cell 0))), (far_cell hne1 (far_cell hne1 (show v10.cell? ⟨w.heap.size + 1, 1, none⟩ = some (v1_1) from (rA1.next bl).cell 1))), (far_cell hne2 (far_cell hne2 (show v10.cell? ⟨w.heap.size + 1 + 1, 0, none⟩ = some (v2_0) from (rA2.next bl).cell 0)))⟩
     clear hK K
     try simp only [Act.put, setIfInBounds_toArray, set_cons_zero, set_cons_succ, getElem_toArray, getElem_cons_zero, getElem_cons_succ]
     refine wpAnyH_take (i := 12) (v := ?_) rfl (by kernel_rfl) (by kernel_rfl) (by kernel_rfl) (fun _ _ _ h => h) (Or.inl ⟨by rfl, ?_⟩) (by assumption) ?_
     rotate_left 1
     ·(intro w0 hSw; (try dsimp only at hSw); go_simp; try with_reducible rfl)
     try simp only [Act.put, setIfInBounds_toArray, set_cons_zero, set_cons_succ, getElem_toArray, getElem_cons_zero, getElem_cons_succ]
     refine wpAnyH_done (by kernel_rfl) ?_ _
     have F := boxed_put (W := w3.drew) o0 rg (by omega) bs hgB
     clear cg0 fg0 cg1 fg1 bl rg o0 bs hne0 hne1 hne2
     go_wp2_with fail
     go_meet
     exact ⟨F, rfl⟩
   ·skip
    try simp only [Act.put, setIfInBounds_toArray, set_cons_zero, set_cons_succ, getElem_toArray, getElem_cons_zero, getElem_cons_succ]
    rw [if_pos (by rfl)]
    go_simp
    obtain ⟨v11, hw⟩ : ∃ W, W = (v1.alloc (.cells #[.slice none 0 0, .slice none 0 0] 39)) := ⟨_, rfl⟩
    rw [← hw]
    have rg : Row v11 v1.heap.size 39 #[.slice none 0 0, .slice none 0 0] := by rw [hw]; exact Row.new _ _ _
    have bb : Below v1.heap.size v1 v11 := by rw [hw]; exact (Below.refl _ _).alloc (Nat.le_refl _) _
    have ygg : v1.heap.size < v11.heap.size := rg.lt
    have hgB : w3.drew.heap.size ≤ v1.heap.size := bs.size
    clear hw
    replace oq0 := oq0.next bb
    replace bl := next_trans bl bb
    replace bs := next_trans bs bb
    have zqv11 := bb.size
    clear bb
    refine hK.out _ _ ?_ (fun hHeld => ?_)
    ·exact ⟨(show v11.cell? ⟨w.heap.size, 0, none⟩ = some (v0_0) from (rA0.next bl).cell 0), (show v11.cell? ⟨w.heap.size, 1, none⟩ = some (v0_1) from (rA0.next bl).cell 1), (show v11.cell? ⟨w.heap.size + 1, 0, none⟩ = some (v1_0) from (rA1.next bl).cell 0), (show v11.cell? ⟨w.heap.size + 1, 1, none⟩ = some (v1_1) from (rA1.next bl).cell 1), (show v11.cell? ⟨w.heap.size + 1 + 1, 0, none⟩ = some (v2_0) from (rA2.next bl).cell 0)⟩
    clear hK K
    try simp only [Act.put, setIfInBounds_toArray, set_cons_zero, set_cons_succ, getElem_toArray, getElem_cons_zero, getElem_cons_succ]
    refine wpAnyH_ready (rs := [3]) (by kernel_rfl) (by simp) (AllReadyH.cons rfl (fun K hK => ?_) AllReadyH.nil)
    try simp only [Act.put, setIfInBounds_toArray, set_cons_zero, set_cons_succ, getElem_toArray, getElem_cons_zero, getElem_cons_succ]
    rw [if_pos (by rfl)]
    go_simp
    refine (toK_Walk _ _ d1 _ (s1.next bl) h1.out).mono ?_
    rintro e v12 ⟨q1A0, q1n0, q1c0, q1A1, q1n1, q1c1, rfl, oq1, bb⟩
    replace oq0 := oq0.next bb
    replace rg := rg.next bb
    replace bl := next_trans bl bb
    replace bs := next_trans bs bb
    have zqv12 := bb.size
    clear bb
    go_wp2_with fail
    refine hK.out _ _ ?_ (fun hHeld => ?_)
    ·exact ⟨(show v12.cell? ⟨w.heap.size, 0, none⟩ = some (v0_0) from (rA0.next bl).cell 0), (show v12.cell? ⟨w.heap.size, 1, none⟩ = some (v0_1) from (rA0.next bl).cell 1), (show v12.cell? ⟨w.heap.size + 1, 0, none⟩ = some (v1_0) from (rA1.next bl).cell 0), (show v12.cell? ⟨w.heap.size + 1, 1, none⟩ = some (v1_1) from (rA1.next bl).cell 1), (show v12.cell? ⟨w.heap.size + 1 + 1, 0, none⟩ = some (v2_0) from (rA2.next bl).cell 0)⟩
    clear hK K
    try simp only [Act.put, setIfInBounds_toArray, set_cons_zero, set_cons_succ, getElem_toArray, getElem_cons_zero, getElem_cons_succ]
    refine wpAnyH_ready (rs := [5]) (by kernel_rfl) (by simp) (AllReadyH.cons rfl (fun K hK => ?_) AllReadyH.nil)
    try simp only [Act.put, setIfInBounds_toArray, set_cons_zero, set_cons_succ, getElem_toArray, getElem_cons_zero, getElem_cons_succ]
    rw [if_pos (by rfl)]
    go_simp
    refine (toK_Subst _ d2 _ (s2.next bl) h2.out).mono ?_
    rintro e v13 ⟨q2A0, q2n0, q2c0, rfl, oq2, bb⟩
    replace oq0 := oq0.next bb
    replace rg := rg.next bb
    replace oq1 := oq1.next bb
    replace bl := next_trans bl bb
    replace bs := next_trans bs bb
    have zqv13 := bb.size
    clear bb
    go_wp2_with fail
    refine hK.out _ _ ?_ (fun hHeld => ?_)
    ·exact ⟨(show v13.cell? ⟨w.heap.size, 0, none⟩ = some (v0_0) from (rA0.next bl).cell 0), (show v13.cell? ⟨w.heap.size, 1, none⟩ = some (v0_1) from (rA0.next bl).cell 1), (show v13.cell? ⟨w.heap.size + 1, 0, none⟩ = some (v1_0) from (rA1.next bl).cell 0), (show v13.cell? ⟨w.heap.size + 1, 1, none⟩ = some (v1_1) from (rA1.next bl).cell 1), (show v13.cell? ⟨w.heap.size + 1 + 1, 0, none⟩ = some (v2_0) from (rA2.next bl).cell 0)⟩
    clear hK K
    try simp only [Act.put, setIfInBounds_toArray, set_cons_zero, set_cons_succ, getElem_toArray, getElem_cons_zero, getElem_cons_succ]
    refine wpAnyH_ready (rs := [6]) (by kernel_rfl) (by simp) (AllReadyH.cons rfl (fun K hK => ?_) AllReadyH.nil)
    try simp only [Act.put, setIfInBounds_toArray, set_cons_zero, set_cons_succ, getElem_toArray, getElem_cons_zero, getElem_cons_succ]
    rw [if_pos (by rfl)]
    go_simp
    refine (specWalkUnder _ _ _ _ _ d0 d1 d2 _ oq0.rd oq1.rd oq2.rd h0.out h1.out h2.out).mono ?_
    rintro e v14 ⟨wA0, wn0, wc0, wA1, wn1, wc1, he, o0, bb⟩
    rw [HV.out] at he
    rw [HY.out] at o0
    subst he
    replace oq0 := oq0.next bb
    replace rg := rg.next bb
    replace oq1 := oq1.next bb
    replace oq2 := oq2.next bb
    replace bl := next_trans bl bb
    replace bs := next_trans bs bb
    have zqv14 := bb.size
    clear bb
    clear oq0 oq1 oq2
    go_wp2_with fail
    refine hK.out _ _ ?_ (fun hHeld => ?_)
    ·exact ⟨(show v14.cell? ⟨w.heap.size, 0, none⟩ = some (v0_0) from (rA0.next bl).cell 0), (show v14.cell? ⟨w.heap.size, 1, none⟩ = some (v0_1) from (rA0.next bl).cell 1), (show v14.cell? ⟨w.heap.size + 1, 0, none⟩ = some (v1_0) from (rA1.next bl).cell 0), (show v14.cell? ⟨w.heap.size + 1, 1, none⟩ = some (v1_1) from (rA1.next bl).cell 1), (show v14.cell? ⟨w.heap.size + 1 + 1, 0, none⟩ = some (v2_0) from (rA2.next bl).cell 0)⟩
    clear hK K
    try simp only [Act.put, setIfInBounds_toArray, set_cons_zero, set_cons_succ, getElem_toArray, getElem_cons_zero, getElem_cons_succ]
    refine wpAnyH_take (i := 7) (v := ?_) rfl (by kernel_rfl) (by kernel_rfl) (by kernel_rfl) (fun _ _ _ h => h) (Or.inl ⟨by rfl, ?_⟩) (by assumption) ?_
    rotate_left 1
    ·(intro w0 hSw; (try dsimp only at hSw); go_simp; try with_reducible rfl)
    try simp only [Act.put, setIfInBounds_toArray, set_cons_zero, set_cons_succ, getElem_toArray, getElem_cons_zero, getElem_cons_succ]
    refine wpAnyH_take (i := 8) (v := ?_) rfl (by kernel_rfl) (by kernel_rfl) (by kernel_rfl) (fun _ _ _ h => h) (Or.inl ⟨by rfl, ?_⟩) (by assumption) ?_
    rotate_left 1
    ·(intro w0 hSw; (try dsimp only at hSw); go_simp; try with_reducible rfl)
    try simp only [Act.put, setIfInBounds_toArray, set_cons_zero, set_cons_succ, getElem_toArray, getElem_cons_zero, getElem_cons_succ]
    refine wpAnyH_take (i := 9) (v := ?_) rfl (by kernel_rfl) (by kernel_rfl) (by kernel_rfl) (fun _ _ _ h => h) (Or.inl ⟨by rfl, ?_⟩) (by assumption) ?_
    rotate_left 1
    ·(intro w0 hSw; (try dsimp only at hSw); go_simp; try with_reducible rfl)
    try simp only [Act.put, setIfInBounds_toArray, set_cons_zero, set_cons_succ, getElem_toArray, getElem_cons_zero, getElem_cons_succ]
    have cg0 : (v14).cell? ⟨v1.heap.size, 0, none⟩ = some (.slice none 0 0) := (rg).cell 0
    have fg0 : (v14).frozen? ⟨v1.heap.size, 0, none⟩ = false := (rg).free 0
    have cg1 : ((v14).setCell ⟨v1.heap.size, 0, none⟩ (.slice wA0 wn0 wc0)).cell? ⟨v1.heap.size, 1, none⟩ = some (.slice none 0 0) := (Row.put (rg) 0 (.slice wA0 wn0 wc0)).cell 1
    have fg1 : ((v14).setCell ⟨v1.heap.size, 0, none⟩ (.slice wA0 wn0 wc0)).frozen? ⟨v1.heap.size, 1, none⟩ = false := (Row.put (rg) 0 (.slice wA0 wn0 wc0)).free 1
    have hne0 : v1.heap.size ≠ w.heap.size := by omega
    have hne1 : v1.heap.size ≠ w.heap.size + 1 := by omega
    have hne2 : v1.heap.size ≠ w.heap.size + 1 + 1 := by omega
    refine wpAnyH_ready (rs := [11]) (by kernel_rfl) (by simp) (AllReadyH.cons rfl (fun K hK => ?_) AllReadyH.nil)
    try simp only [Act.put, setIfInBounds_toArray, set_cons_zero, set_cons_succ, getElem_toArray, getElem_cons_zero, getElem_cons_succ]
    rw [if_pos (by rfl)]
    go_simp
    refine hK.out _ _ ?_ (fun hHeld => ?_)
    ·exact ⟨(far_cell hne0 (far_cell hne0 (show v14.cell? ⟨w.heap.size, 0, none⟩ = some (v0_0) from (rA0.next bl).cell 0))), (far_cell hne0 (far_cell hne0 (show v14.cell? ⟨w.heap.size, 1, none⟩ = some (v0_1) from (rA0.next bl).cell 1))), (far_cell hne1 (far_cell hne1 (show v14.cell? ⟨w.heap.size + 1, 0, none⟩ = some (v1_0) from (rA1.next bl).cell 0))), (far_cell hne1 (far_cell hne1 (show v14.cell? ⟨w.heap.size + 1, 1, none⟩ = some (v1_1) from (rA1.next bl).cell 1))), (far_cell hne2 (far_cell hne2 (show v14.cell? ⟨w.heap.size + 1 + 1, 0, none⟩ = some (v2_0) from (rA2.next bl).cell 0)))⟩
    clear hK K
    try simp only [Act.put, setIfInBounds_toArray, set_cons_zero, set_cons_succ, getElem_toArray, getElem_cons_zero, getElem_cons_succ]
    refine wpAnyH_take (i := 12) (v := ?_) rfl (by kernel_rfl) (by kernel_rfl) (by kernel_rfl) (fun _ _ _ h => h) (Or.inl ⟨by rfl, ?_⟩) (by assumption) ?_
    rotate_left 1
    ·(intro w0 hSw; (try dsimp only at hSw); go_simp; try with_reducible rfl)
    try simp only [Act.put, setIfInBounds_toArray, set_cons_zero, set_cons_succ, getElem_toArray, getElem_cons_zero, getElem_cons_succ]
    refine wpAnyH_done (by kernel_rfl) ?_ _
    have F := boxed_put (W := w3.drew) o0 rg (by omega) bs hgB
    clear cg0 fg0 cg1 fg1 bl rg o0 bs hne0 hne1 hne2
    go_wp2_with fail
    go_meet
    exact ⟨F, rfl⟩
  ·skip
   try simp only [Act.put, setIfInBounds_toArray, set_cons_zero, set_cons_succ, getElem_toArray, getElem_cons_zero, getElem_cons_succ]
   rw [if_pos (by rfl)]
   go_simp
   obtain ⟨v15, hw⟩ : ∃ W, W = (w3.alloc (.cells #[.slice none 0 0, .slice none 0 0] 39)).drew := ⟨_, rfl⟩
   rw [← hw]
   have rg : Row v15 w3.heap.size 39 #[.slice none 0 0, .slice none 0 0] := by rw [hw]; exact Row.new _ _ _
   have bb : Below w3.drew.heap.size w3.drew v15 := by rw [hw]; exact (Below.refl _ _).alloc (Nat.le_refl _) _
   have ygg : w3.heap.size < v15.heap.size := rg.lt
   have hgB : w3.drew.heap.size ≤ w3.heap.size := bs.size
   clear hw
   replace bl := next_trans bl bb
   replace bs := next_trans bs bb
   have zqv15 := bb.size
   clear bb
   refine hK.out _ _ ?_ (fun hHeld => ?_)
   ·exact ⟨(show v15.cell? ⟨w.heap.size, 0, none⟩ = some (v0_0) from (rA0.next bl).cell 0), (show v15.cell? ⟨w.heap.size, 1, none⟩ = some (v0_1) from (rA0.next bl).cell 1), (show v15.cell? ⟨w.heap.size + 1, 0, none⟩ = some (v1_0) from (rA1.next bl).cell 0), (show v15.cell? ⟨w.heap.size + 1, 1, none⟩ = some (v1_1) from (rA1.next bl).cell 1), (show v15.cell? ⟨w.heap.size + 1 + 1, 0, none⟩ = some (v2_0) from (rA2.next bl).cell 0)⟩
   clear hK K
   try simp only [Act.put, setIfInBounds_toArray, set_cons_zero, set_cons_succ, getElem_toArray, getElem_cons_zero, getElem_cons_succ]
   refine wpAnyH_ready (rs := [1]) (by kernel_rfl) (by simp) (AllReadyH.cons rfl (fun K hK => ?_) AllReadyH.nil)
   try simp only [Act.put, setIfInBounds_toArray, set_cons_zero, set_cons_succ, getElem_toArray, getElem_cons_zero, getElem_cons_succ]
   rw [if_pos (by rfl)]
   go_simp
   refine (toK_System _ _ d0 _ (s0.next bl) h0.out).mono ?_
   rintro e v16 ⟨q0A0, q0n0, q0c0, q0A1, q0n1, q0c1, rfl, oq0, bb⟩
   replace rg := rg.next bb
   replace bl := next_trans bl bb
   replace bs := next_trans bs bb
   have zqv16 := bb.size
   clear bb
   go_wp2_with fail
   refine hK.out _ _ ?_ (fun hHeld => ?_)
   ·exact ⟨(show v16.cell? ⟨w.heap.size, 0, none⟩ = some (v0_0) from (rA0.next bl).cell 0), (show v16.cell? ⟨w.heap.size, 1, none⟩ = some (v0_1) from (rA0.next bl).cell 1), (show v16.cell? ⟨w.heap.size + 1, 0, none⟩ = some (v1_0) from (rA1.next bl).cell 0), (show v16.cell? ⟨w.heap.size + 1, 1, none⟩ = some (v1_1) from (rA1.next bl).cell 1), (show v16.cell? ⟨w.heap.size + 1 + 1, 0, none⟩ = some (v2_0) from (rA2.next bl).cell 0)⟩
   clear hK K
   try simp only [Act.put, setIfInBounds_toArray, set_cons_zero, set_cons_succ, getElem_toArray, getElem_cons_zero, getElem_cons_succ]
   refine wpAnyH_ready (rs := [3]) (by kernel_rfl) (by simp) (AllReadyH.cons rfl (fun K hK => ?_) AllReadyH.nil)
   try simp only [Act.put, setIfInBounds_toArray, set_cons_zero, set_cons_succ, getElem_toArray, getElem_cons_zero, getElem_cons_succ]
   rw [if_pos (by rfl)]
   go_simp
   refine (toK_Walk _ _ d1 _ (s1.next bl) h1.out).mono ?_
   rintro e v17 ⟨q1A0, q1n0, q1c0, q1A1, q1n1, q1c1, rfl, oq1, bb⟩
   replace rg := rg.next bb
   replace oq0 := oq0.next bb
   replace bl := next_trans bl bb
   replace bs := next_trans bs bb
   have zqv17 := bb.size
   clear bb
   go_wp2_with fail
   refine hK.out _ _ ?_ (fun hHeld => ?_)
   ·exact ⟨(show v17.cell? ⟨w.heap.size, 0, none⟩ = some (v0_0) from (rA0.next bl).cell 0), (show v17.cell? ⟨w.heap.size, 1, none⟩ = some (v0_1) from (rA0.next bl).cell 1), (show v17.cell? ⟨w.heap.size + 1, 0, none⟩ = some (v1_0) from (rA1.next bl).cell 0), (show v17.cell? ⟨w.heap.size + 1, 1, none⟩ = some (v1_1) from (rA1.next bl).cell 1), (show v17.cell? ⟨w.heap.size + 1 + 1, 0, none⟩ = some (v2_0) from (rA2.next bl).cell 0)⟩
   clear hK K
   try simp only [Act.put, setIfInBounds_toArray, set_cons_zero, set_cons_succ, getElem_toArray, getElem_cons_zero, getElem_cons_succ]
   refine wpAnyH_ready (rs := [5]) (by kernel_rfl) (by simp) (AllReadyH.cons rfl (fun K hK => ?_) AllReadyH.nil)
   try simp only [Act.put, setIfInBounds_toArray, set_cons_zero, set_cons_succ, getElem_toArray, getElem_cons_zero, getElem_cons_succ]
   rw [if_pos (by rfl)]
   go_simp
   refine (toK_Subst _ d2 _ (s2.next bl) h2.out).mono ?_
   rintro e v18 ⟨q2A0, q2n0, q2c0, rfl, oq2, bb⟩
   replace rg := rg.next bb
   replace oq0 := oq0.next bb
   replace oq1 := oq1.next bb
   replace bl := next_trans bl bb
   replace bs := next_trans bs bb
   have zqv18 := bb.size
   clear bb
   go_wp2_with fail
   refine hK.out _ _ ?_ (fun hHeld => ?_)
   ·exact ⟨(show v18.cell? ⟨w.heap.size, 0, none⟩ = some (v0_0) from (rA0.next bl).cell 0), (show v18.cell? ⟨w.heap.size, 1, none⟩ = some (v0_1) from (rA0.next bl).cell 1), (show v18.cell? ⟨w.heap.size + 1, 0, none⟩ = some (v1_0) from (rA1.next bl).cell 0), (show v18.cell? ⟨w.heap.size + 1, 1, none⟩ = some (v1_1) from (rA1.next bl).cell 1), (show v18.cell? ⟨w.heap.size + 1 + 1, 0, none⟩ = some (v2_0) from (rA2.next bl).cell 0)⟩
   clear hK K
   try simp only [Act.put, setIfInBounds_toArray, set_cons_zero, set_cons_succ, getElem_toArray, getElem_cons_zero, getElem_cons_succ]
   refine wpAnyH_ready (rs := [6]) (by kernel_rfl) (by simp) (AllReadyH.cons rfl (fun K hK => ?_) AllReadyH.nil)
   try simp only [Act.put, setIfInBounds_toArray, set_cons_zero, set_cons_succ, getElem_toArray, getElem_cons_zero, getElem_cons_succ]
   rw [if_pos (by rfl)]
   go_simp
   refine (specWalkUnder _ _ _ _ _ d0 d1 d2 _ oq0.rd oq1.rd oq2.rd h0.out h1.out h2.out).mono ?_
   rintro e v19 ⟨wA0, wn0, wc0, wA1, wn1, wc1, he, o0, bb⟩
   rw [HV.out] at he
   rw [HY.out] at o0
   subst he
   replace rg := rg.next bb
   replace oq0 := oq0.next bb
   replace oq1 := oq1.next bb
   replace oq2 := oq2.next bb
   replace bl := next_trans bl bb
   replace bs := next_trans bs bb
   have zqv19 := bb.size
   clear bb
   clear oq0 oq1 oq2
   go_wp2_with fail
   refine hK.out _ _ ?_ (fun hHeld => ?_)
   ·exact ⟨(show v19.cell? ⟨w.heap.size, 0, none⟩ = some (v0_0) from (rA0.next bl).cell 0), (show v19.cell? ⟨w.heap.size, 1, none⟩ = some (v0_1) from (rA0.next bl).cell 1), (show v19.cell? ⟨w.heap.size + 1, 0, none⟩ = some (v1_0) from (rA1.next bl).cell 0), (show v19.cell? ⟨w.heap.size + 1, 1, none⟩ = some (v1_1) from (rA1.next bl).cell 1), (show v19.cell? ⟨w.heap.size + 1 + 1, 0, none⟩ = some (v2_0) from (rA2.next bl).cell 0)⟩
   clear hK K
   try simp only [Act.put, setIfInBounds_toArray, set_cons_zero, set_cons_succ, getElem_toArray, getElem_cons_zero, getElem_cons_succ]
   refine wpAnyH_take (i := 7) (v := ?_) rfl (by kernel_rfl) (by kernel_rfl) (by kernel_rfl) (fun _ _ _ h => h) (Or.inl ⟨by rfl, ?_⟩) (by assumption) ?_
   rotate_left 1
   ·(intro w0 hSw; (try dsimp only at hSw); go_simp; try with_reducible rfl)
   try simp only [Act.put, setIfInBounds_toArray, set_cons_zero, set_cons_succ, getElem_toArray, getElem_cons_zero, getElem_cons_succ]
   refine wpAnyH_take (i := 8) (v := ?_) rfl (by kernel_rfl) (by kernel_rfl) (by kernel_rfl) (fun _ _ _ h => h) (Or.inl ⟨by rfl, ?_⟩) (by assumption) ?_
   rotate_left 1
   ·(intro w0 hSw; (try dsimp only at hSw); go_simp; try with_reducible rfl)
   try simp only [Act.put, setIfInBounds_toArray, set_cons_zero, set_cons_succ, getElem_toArray, getElem_cons_zero, getElem_cons_succ]
   refine wpAnyH_take (i := 9) (v := ?_) rfl (by kernel_rfl) (by kernel_rfl) (by kernel_rfl) (fun _ _ _ h => h) (Or.inl ⟨by rfl, ?_⟩) (by assumption) ?_
   rotate_left 1
   ·(intro w0 hSw; (try dsimp only at hSw); go_simp; try with_reducible rfl)
   try simp only [Act.put, setIfInBounds_toArray, set_cons_zero, set_cons_succ, getElem_toArray, getElem_cons_zero, getElem_cons_succ]
   have cg0 : (v19).cell? ⟨w3.heap.size, 0, none⟩ = some (.slice none 0 0) := (rg).cell 0
   have fg0 : (v19).frozen? ⟨w3.heap.size, 0, none⟩ = false := (rg).free 0
   have cg1 : ((v19).setCell ⟨w3.heap.size, 0, none⟩ (.slice wA0 wn0 wc0)).cell? ⟨w3.heap.size, 1, none⟩ = some (.slice none 0 0) := (Row.put (rg) 0 (.slice wA0 wn0 wc0)).cell 1
   have fg1 : ((v19).setCell ⟨w3.heap.size, 0, none⟩ (.slice wA0 wn0 wc0)).frozen? ⟨w3.heap.size, 1, none⟩ = false := (Row.put (rg) 0 (.slice wA0 wn0 wc0)).free 1
   have hne0 : w3.heap.size ≠ w.heap.size := by omega
   have hne1 : w3.heap.size ≠ w.heap.size + 1 := by omega
   have hne2 : w3.heap.size ≠ w.heap.size + 1 + 1 := by omega
   refine wpAnyH_ready (rs := [11]) (by kernel_rfl) (by simp) (AllReadyH.cons rfl (fun K hK => ?_) AllReadyH.nil)
   try simp only [Act.put, setIfInBounds_toArray, set_cons_zero, set_cons_succ, getElem_toArray, getElem_cons_zero, getElem_cons_succ]
   rw [if_pos (by rfl)]
   go_simp
   refine hK.out _ _ ?_ (fun hHeld => ?_)
   ·exact ⟨(far_cell hne0 (far_cell hne0 (show v19.cell? ⟨w.heap.size, 0, none⟩ = some (v0_0) from (rA0.next bl).cell 0))), (far_cell hne0 (far_cell hne0 (show v19.cell? ⟨w.heap.size, 1, none⟩ = some (v0_1) from (rA0.next bl).cell 1))), (far_cell hne1 (far_cell hne1 (show v19.cell? ⟨w.heap.size + 1, 0, none⟩ = some (v1_0) from (rA1.next bl).cell 0))), (far_cell hne1 (far_cell hne1 (show v19.cell? ⟨w.heap.size + 1, 1, none⟩ = some (v1_1) from (rA1.next bl).cell 1))), (far_cell hne2 (far_cell hne2 (show v19.cell? ⟨w.heap.size + 1 + 1, 0, none⟩ = some (v2_0) from (rA2.next bl).cell 0)))⟩
   clear hK K
   try simp only [Act.put, setIfInBounds_toArray, set_cons_zero, set_cons_succ, getElem_toArray, getElem_cons_zero, getElem_cons_succ]
   refine wpAnyH_take (i := 12) (v := ?_) rfl (by kernel_rfl) (by kernel_rfl) (by kernel_rfl) (fun _ _ _ h => h) (Or.inl ⟨by rfl, ?_⟩) (by assumption) ?_
   rotate_left 1
   ·(intro w0 hSw; (try dsimp only at hSw); go_simp; try with_reducible rfl)
   try simp only [Act.put, setIfInBounds_toArray, set_cons_zero, set_cons_succ, getElem_toArray, getElem_cons_zero, getElem_cons_succ]
   refine wpAnyH_done (by kernel_rfl) ?_ _
   have F := boxed_put (W := w3.drew) o0 rg (by omega) bs hgB
   clear cg0 fg0 cg1 fg1 bl rg o0 bs hne0 hne1 hne2
   go_wp2_with fail
   go_meet
   exact ⟨F, rfl⟩
 case rest =>
  rename World => w4
  obtain ⟨⟨bw, wA0, wn0, wc0, wA1, wn1, wc1, rfl, rw, sw, bb⟩, rfl⟩ := hcut
  replace bel := next_trans bel bb
  have zw4 := bb.size
  clear bb
  have belw := Below.refl w4.heap.size w4
  have cA0_0 : w4.cell? ⟨w.heap.size, 0, none⟩ = some (v0_0) := (rA0.next bel).cell 0
  have cA0_1 : w4.cell? ⟨w.heap.size, 1, none⟩ = some (v0_1) := (rA0.next bel).cell 1
  have cA1_0 : w4.cell? ⟨w.heap.size + 1, 0, none⟩ = some (v1_0) := (rA1.next bel).cell 0
  have cA1_1 : w4.cell? ⟨w.heap.size + 1, 1, none⟩ = some (v1_1) := (rA1.next bel).cell 1
  have cA2_0 : w4.cell? ⟨w.heap.size + 1 + 1, 0, none⟩ = some (v2_0) := (rA2.next bel).cell 0
  have cw_0 : w4.cell? ⟨bw, 0, none⟩ = some (.slice wA0 wn0 wc0) := (rw.next belw).cell 0
  have cw_1 : w4.cell? ⟨bw, 1, none⟩ = some (.slice wA1 wn1 wc1) := (rw.next belw).cell 1
  go_wp2_with fail
  refine (toK_System _ _ d0 _ (s0.next bel) h0.out).mono ?_
  rintro e w5 ⟨x0A0, x0n0, x0c0, x0A1, x0n1, x0c1, rfl, ox0, bb⟩
  replace bel := next_trans bel bb
  replace belw := next_trans belw bb
  have zw5 := bb.size
  clear bb
  clear cA0_0 cA0_1 cA1_0 cA1_1 cA2_0 cw_0 cw_1
  have cA0_0 : w5.cell? ⟨w.heap.size, 0, none⟩ = some (v0_0) := (rA0.next bel).cell 0
  have cA0_1 : w5.cell? ⟨w.heap.size, 1, none⟩ = some (v0_1) := (rA0.next bel).cell 1
  have cA1_0 : w5.cell? ⟨w.heap.size + 1, 0, none⟩ = some (v1_0) := (rA1.next bel).cell 0
  have cA1_1 : w5.cell? ⟨w.heap.size + 1, 1, none⟩ = some (v1_1) := (rA1.next bel).cell 1
  have cA2_0 : w5.cell? ⟨w.heap.size + 1 + 1, 0, none⟩ = some (v2_0) := (rA2.next bel).cell 0
  have cw_0 : w5.cell? ⟨bw, 0, none⟩ = some (.slice wA0 wn0 wc0) := (rw.next belw).cell 0
  have cw_1 : w5.cell? ⟨bw, 1, none⟩ = some (.slice wA1 wn1 wc1) := (rw.next belw).cell 1
  have dA0_0 : (w5.alloc (.cells #[.slice x0A0 x0n0 x0c0, .slice x0A1 x0n1 x0c1] 45)).cell? ⟨w.heap.size, 0, none⟩ = some (v0_0) := ((rA0.next bel).alloc _).cell 0
  have dA0_1 : (w5.alloc (.cells #[.slice x0A0 x0n0 x0c0, .slice x0A1 x0n1 x0c1] 45)).cell? ⟨w.heap.size, 1, none⟩ = some (v0_1) := ((rA0.next bel).alloc _).cell 1
  have dA1_0 : (w5.alloc (.cells #[.slice x0A0 x0n0 x0c0, .slice x0A1 x0n1 x0c1] 45)).cell? ⟨w.heap.size + 1, 0, none⟩ = some (v1_0) := ((rA1.next bel).alloc _).cell 0
  have dA1_1 : (w5.alloc (.cells #[.slice x0A0 x0n0 x0c0, .slice x0A1 x0n1 x0c1] 45)).cell? ⟨w.heap.size + 1, 1, none⟩ = some (v1_1) := ((rA1.next bel).alloc _).cell 1
  have dA2_0 : (w5.alloc (.cells #[.slice x0A0 x0n0 x0c0, .slice x0A1 x0n1 x0c1] 45)).cell? ⟨w.heap.size + 1 + 1, 0, none⟩ = some (v2_0) := ((rA2.next bel).alloc _).cell 0
  have dw_0 : (w5.alloc (.cells #[.slice x0A0 x0n0 x0c0, .slice x0A1 x0n1 x0c1] 45)).cell? ⟨bw, 0, none⟩ = some (.slice wA0 wn0 wc0) := ((rw.next belw).alloc _).cell 0
  have dw_1 : (w5.alloc (.cells #[.slice x0A0 x0n0 x0c0, .slice x0A1 x0n1 x0c1] 45)).cell? ⟨bw, 1, none⟩ = some (.slice wA1 wn1 wc1) := ((rw.next belw).alloc _).cell 1
  go_wp2_with fail
  obtain ⟨w6, hw⟩ : ∃ W, W = w5.alloc (.cells #[.slice x0A0 x0n0 x0c0, .slice x0A1 x0n1 x0c1] 45) := ⟨_, rfl⟩
  rw [← hw]
  have rx0 : Row w6 w5.heap.size 45 #[.slice x0A0 x0n0 x0c0, .slice x0A1 x0n1 x0c1] := by rw [hw]; exact Row.new _ _ _
  have bb : Below w5.heap.size w5 w6 := by rw [hw]; exact (Below.refl _ _).alloc (Nat.le_refl _) _
  have yrx0 : w5.heap.size < w6.heap.size := by rw [hw]; simp
  clear hw
  replace ox0 := ox0.next bb
  replace bel := next_trans bel bb
  replace belw := next_trans belw bb
  have zw6 := bb.size
  clear bb
  clear dA0_0 dA0_1 dA1_0 dA1_1 dA2_0 dw_0 dw_1
  clear cA0_0 cA0_1 cA1_0 cA1_1 cA2_0 cw_0 cw_1
  have cA0_0 : w6.cell? ⟨w.heap.size, 0, none⟩ = some (v0_0) := (rA0.next bel).cell 0
  have cA0_1 : w6.cell? ⟨w.heap.size, 1, none⟩ = some (v0_1) := (rA0.next bel).cell 1
  have cA1_0 : w6.cell? ⟨w.heap.size + 1, 0, none⟩ = some (v1_0) := (rA1.next bel).cell 0
  have cA1_1 : w6.cell? ⟨w.heap.size + 1, 1, none⟩ = some (v1_1) := (rA1.next bel).cell 1
  have cA2_0 : w6.cell? ⟨w.heap.size + 1 + 1, 0, none⟩ = some (v2_0) := (rA2.next bel).cell 0
  have cw_0 : w6.cell? ⟨bw, 0, none⟩ = some (.slice wA0 wn0 wc0) := (rw.next belw).cell 0
  have cw_1 : w6.cell? ⟨bw, 1, none⟩ = some (.slice wA1 wn1 wc1) := (rw.next belw).cell 1
  have cx0_0 : w6.cell? ⟨w5.heap.size, 0, none⟩ = some (.slice x0A0 x0n0 x0c0) := (rx0).cell 0
  have cx0_1 : w6.cell? ⟨w5.heap.size, 1, none⟩ = some (.slice x0A1 x0n1 x0c1) := (rx0).cell 1
  refine (toK_Walk _ _ d1 _ (s1.next bel) h1.out).mono ?_
  rintro e w7 ⟨x1A0, x1n0, x1c0, x1A1, x1n1, x1c1, rfl, ox1, bb⟩
  replace ox0 := ox0.next bb
  replace rx0 := rx0.next bb
  replace bel := next_trans bel bb
  replace belw := next_trans belw bb
  have zw7 := bb.size
  clear bb
  clear cA0_0 cA0_1 cA1_0 cA1_1 cA2_0 cw_0 cw_1 cx0_0 cx0_1
  have cA0_0 : w7.cell? ⟨w.heap.size, 0, none⟩ = some (v0_0) := (rA0.next bel).cell 0
  have cA0_1 : w7.cell? ⟨w.heap.size, 1, none⟩ = some (v0_1) := (rA0.next bel).cell 1
  have cA1_0 : w7.cell? ⟨w.heap.size + 1, 0, none⟩ = some (v1_0) := (rA1.next bel).cell 0
  have cA1_1 : w7.cell? ⟨w.heap.size + 1, 1, none⟩ = some (v1_1) := (rA1.next bel).cell 1
  have cA2_0 : w7.cell? ⟨w.heap.size + 1 + 1, 0, none⟩ = some (v2_0) := (rA2.next bel).cell 0
  have cw_0 : w7.cell? ⟨bw, 0, none⟩ = some (.slice wA0 wn0 wc0) := (rw.next belw).cell 0
  have cw_1 : w7.cell? ⟨bw, 1, none⟩ = some (.slice wA1 wn1 wc1) := (rw.next belw).cell 1
  have cx0_0 : w7.cell? ⟨w5.heap.size, 0, none⟩ = some (.slice x0A0 x0n0 x0c0) := (rx0).cell 0
  have cx0_1 : w7.cell? ⟨w5.heap.size, 1, none⟩ = some (.slice x0A1 x0n1 x0c1) := (rx0).cell 1
  have dA0_0 : (w7.alloc (.cells #[.slice x1A0 x1n0 x1c0, .slice x1A1 x1n1 x1c1] 39)).cell? ⟨w.heap.size, 0, none⟩ = some (v0_0) := ((rA0.next bel).alloc _).cell 0
  have dA0_1 : (w7.alloc (.cells #[.slice x1A0 x1n0 x1c0, .slice x1A1 x1n1 x1c1] 39)).cell? ⟨w.heap.size, 1, none⟩ = some (v0_1) := ((rA0.next bel).alloc _).cell 1
  have dA1_0 : (w7.alloc (.cells #[.slice x1A0 x1n0 x1c0, .slice x1A1 x1n1 x1c1] 39)).cell? ⟨w.heap.size + 1, 0, none⟩ = some (v1_0) := ((rA1.next bel).alloc _).cell 0
  have dA1_1 : (w7.alloc (.cells #[.slice x1A0 x1n0 x1c0, .slice x1A1 x1n1 x1c1] 39)).cell? ⟨w.heap.size + 1, 1, none⟩ = some (v1_1) := ((rA1.next bel).alloc _).cell 1
  have dA2_0 : (w7.alloc (.cells #[.slice x1A0 x1n0 x1c0, .slice x1A1 x1n1 x1c1] 39)).cell? ⟨w.heap.size + 1 + 1, 0, none⟩ = some (v2_0) := ((rA2.next bel).alloc _).cell 0
  have dw_0 : (w7.alloc (.cells #[.slice x1A0 x1n0 x1c0, .slice x1A1 x1n1 x1c1] 39)).cell? ⟨bw, 0, none⟩ = some (.slice wA0 wn0 wc0) := ((rw.next belw).alloc _).cell 0
  have dw_1 : (w7.alloc (.cells #[.slice x1A0 x1n0 x1c0, .slice x1A1 x1n1 x1c1] 39)).cell? ⟨bw, 1, none⟩ = some (.slice wA1 wn1 wc1) := ((rw.next belw).alloc _).cell 1
  have dx0_0 : (w7.alloc (.cells #[.slice x1A0 x1n0 x1c0, .slice x1A1 x1n1 x1c1] 39)).cell? ⟨w5.heap.size, 0, none⟩ = some (.slice x0A0 x0n0 x0c0) := ((rx0).alloc _).cell 0
  have dx0_1 : (w7.alloc (.cells #[.slice x1A0 x1n0 x1c0, .slice x1A1 x1n1 x1c1] 39)).cell? ⟨w5.heap.size, 1, none⟩ = some (.slice x0A1 x0n1 x0c1) := ((rx0).alloc _).cell 1
  go_wp2_with fail
  obtain ⟨w8, hw⟩ : ∃ W, W = w7.alloc (.cells #[.slice x1A0 x1n0 x1c0, .slice x1A1 x1n1 x1c1] 39) := ⟨_, rfl⟩
  rw [← hw]
  have rx1 : Row w8 w7.heap.size 39 #[.slice x1A0 x1n0 x1c0, .slice x1A1 x1n1 x1c1] := by rw [hw]; exact Row.new _ _ _
  have bb : Below w7.heap.size w7 w8 := by rw [hw]; exact (Below.refl _ _).alloc (Nat.le_refl _) _
  have yrx1 : w7.heap.size < w8.heap.size := by rw [hw]; simp
  clear hw
  replace ox0 := ox0.next bb
  replace rx0 := rx0.next bb
  replace ox1 := ox1.next bb
  replace bel := next_trans bel bb
  replace belw := next_trans belw bb
  have zw8 := bb.size
  clear bb
  clear dA0_0 dA0_1 dA1_0 dA1_1 dA2_0 dw_0 dw_1 dx0_0 dx0_1
  clear cA0_0 cA0_1 cA1_0 cA1_1 cA2_0 cw_0 cw_1 cx0_0 cx0_1
  have cA0_0 : w8.cell? ⟨w.heap.size, 0, none⟩ = some (v0_0) := (rA0.next bel).cell 0
  have cA0_1 : w8.cell? ⟨w.heap.size, 1, none⟩ = some (v0_1) := (rA0.next bel).cell 1
  have cA1_0 : w8.cell? ⟨w.heap.size + 1, 0, none⟩ = some (v1_0) := (rA1.next bel).cell 0
  have cA1_1 : w8.cell? ⟨w.heap.size + 1, 1, none⟩ = some (v1_1) := (rA1.next bel).cell 1
  have cA2_0 : w8.cell? ⟨w.heap.size + 1 + 1, 0, none⟩ = some (v2_0) := (rA2.next bel).cell 0
  have cw_0 : w8.cell? ⟨bw, 0, none⟩ = some (.slice wA0 wn0 wc0) := (rw.next belw).cell 0
  have cw_1 : w8.cell? ⟨bw, 1, none⟩ = some (.slice wA1 wn1 wc1) := (rw.next belw).cell 1
  have cx0_0 : w8.cell? ⟨w5.heap.size, 0, none⟩ = some (.slice x0A0 x0n0 x0c0) := (rx0).cell 0
  have cx0_1 : w8.cell? ⟨w5.heap.size, 1, none⟩ = some (.slice x0A1 x0n1 x0c1) := (rx0).cell 1
  have cx1_0 : w8.cell? ⟨w7.heap.size, 0, none⟩ = some (.slice x1A0 x1n0 x1c0) := (rx1).cell 0
  have cx1_1 : w8.cell? ⟨w7.heap.size, 1, none⟩ = some (.slice x1A1 x1n1 x1c1) := (rx1).cell 1
  refine (toK_Subst _ d2 _ (s2.next bel) h2.out).mono ?_
  rintro e w9 ⟨x2A0, x2n0, x2c0, rfl, ox2, bb⟩
  replace ox0 := ox0.next bb
  replace rx0 := rx0.next bb
  replace ox1 := ox1.next bb
  replace rx1 := rx1.next bb
  replace bel := next_trans bel bb
  replace belw := next_trans belw bb
  have zw9 := bb.size
  clear bb
  clear cA0_0 cA0_1 cA1_0 cA1_1 cA2_0 cw_0 cw_1 cx0_0 cx0_1 cx1_0 cx1_1
  have cA0_0 : w9.cell? ⟨w.heap.size, 0, none⟩ = some (v0_0) := (rA0.next bel).cell 0
  have cA0_1 : w9.cell? ⟨w.heap.size, 1, none⟩ = some (v0_1) := (rA0.next bel).cell 1
  have cA1_0 : w9.cell? ⟨w.heap.size + 1, 0, none⟩ = some (v1_0) := (rA1.next bel).cell 0
  have cA1_1 : w9.cell? ⟨w.heap.size + 1, 1, none⟩ = some (v1_1) := (rA1.next bel).cell 1
  have cA2_0 : w9.cell? ⟨w.heap.size + 1 + 1, 0, none⟩ = some (v2_0) := (rA2.next bel).cell 0
  have cw_0 : w9.cell? ⟨bw, 0, none⟩ = some (.slice wA0 wn0 wc0) := (rw.next belw).cell 0
  have cw_1 : w9.cell? ⟨bw, 1, none⟩ = some (.slice wA1 wn1 wc1) := (rw.next belw).cell 1
  have cx0_0 : w9.cell? ⟨w5.heap.size, 0, none⟩ = some (.slice x0A0 x0n0 x0c0) := (rx0).cell 0
  have cx0_1 : w9.cell? ⟨w5.heap.size, 1, none⟩ = some (.slice x0A1 x0n1 x0c1) := (rx0).cell 1
  have cx1_0 : w9.cell? ⟨w7.heap.size, 0, none⟩ = some (.slice x1A0 x1n0 x1c0) := (rx1).cell 0
  have cx1_1 : w9.cell? ⟨w7.heap.size, 1, none⟩ = some (.slice x1A1 x1n1 x1c1) := (rx1).cell 1
  have dA0_0 : (w9.alloc (.cells #[.slice x2A0 x2n0 x2c0] 48)).cell? ⟨w.heap.size, 0, none⟩ = some (v0_0) := ((rA0.next bel).alloc _).cell 0
  have dA0_1 : (w9.alloc (.cells #[.slice x2A0 x2n0 x2c0] 48)).cell? ⟨w.heap.size, 1, none⟩ = some (v0_1) := ((rA0.next bel).alloc _).cell 1
  have dA1_0 : (w9.alloc (.cells #[.slice x2A0 x2n0 x2c0] 48)).cell? ⟨w.heap.size + 1, 0, none⟩ = some (v1_0) := ((rA1.next bel).alloc _).cell 0
  have dA1_1 : (w9.alloc (.cells #[.slice x2A0 x2n0 x2c0] 48)).cell? ⟨w.heap.size + 1, 1, none⟩ = some (v1_1) := ((rA1.next bel).alloc _).cell 1
  have dA2_0 : (w9.alloc (.cells #[.slice x2A0 x2n0 x2c0] 48)).cell? ⟨w.heap.size + 1 + 1, 0, none⟩ = some (v2_0) := ((rA2.next bel).alloc _).cell 0
  have dw_0 : (w9.alloc (.cells #[.slice x2A0 x2n0 x2c0] 48)).cell? ⟨bw, 0, none⟩ = some (.slice wA0 wn0 wc0) := ((rw.next belw).alloc _).cell 0
  have dw_1 : (w9.alloc (.cells #[.slice x2A0 x2n0 x2c0] 48)).cell? ⟨bw, 1, none⟩ = some (.slice wA1 wn1 wc1) := ((rw.next belw).alloc _).cell 1
  have dx0_0 : (w9.alloc (.cells #[.slice x2A0 x2n0 x2c0] 48)).cell? ⟨w5.heap.size, 0, none⟩ = some (.slice x0A0 x0n0 x0c0) := ((rx0).alloc _).cell 0
  have dx0_1 : (w9.alloc (.cells #[.slice x2A0 x2n0 x2c0] 48)).cell? ⟨w5.heap.size, 1, none⟩ = some (.slice x0A1 x0n1 x0c1) := ((rx0).alloc _).cell 1
  have dx1_0 : (w9.alloc (.cells #[.slice x2A0 x2n0 x2c0] 48)).cell? ⟨w7.heap.size, 0, none⟩ = some (.slice x1A0 x1n0 x1c0) := ((rx1).alloc _).cell 0
  have dx1_1 : (w9.alloc (.cells #[.slice x2A0 x2n0 x2c0] 48)).cell? ⟨w7.heap.size, 1, none⟩ = some (.slice x1A1 x1n1 x1c1) := ((rx1).alloc _).cell 1
  go_wp2_with fail
  obtain ⟨w10, hw⟩ : ∃ W, W = w9.alloc (.cells #[.slice x2A0 x2n0 x2c0] 48) := ⟨_, rfl⟩
  rw [← hw]
  have rx2 : Row w10 w9.heap.size 48 #[.slice x2A0 x2n0 x2c0] := by rw [hw]; exact Row.new _ _ _
  have bb : Below w9.heap.size w9 w10 := by rw [hw]; exact (Below.refl _ _).alloc (Nat.le_refl _) _
  have yrx2 : w9.heap.size < w10.heap.size := by rw [hw]; simp
  clear hw
  replace ox0 := ox0.next bb
  replace rx0 := rx0.next bb
  replace ox1 := ox1.next bb
  replace rx1 := rx1.next bb
  replace ox2 := ox2.next bb
  replace bel := next_trans bel bb
  replace belw := next_trans belw bb
  have zw10 := bb.size
  clear bb
  clear dA0_0 dA0_1 dA1_0 dA1_1 dA2_0 dw_0 dw_1 dx0_0 dx0_1 dx1_0 dx1_1
  clear cA0_0 cA0_1 cA1_0 cA1_1 cA2_0 cw_0 cw_1 cx0_0 cx0_1 cx1_0 cx1_1
  have cA0_0 : w10.cell? ⟨w.heap.size, 0, none⟩ = some (v0_0) := (rA0.next bel).cell 0
  have cA0_1 : w10.cell? ⟨w.heap.size, 1, none⟩ = some (v0_1) := (rA0.next bel).cell 1
  have cA1_0 : w10.cell? ⟨w.heap.size + 1, 0, none⟩ = some (v1_0) := (rA1.next bel).cell 0
  have cA1_1 : w10.cell? ⟨w.heap.size + 1, 1, none⟩ = some (v1_1) := (rA1.next bel).cell 1
  have cA2_0 : w10.cell? ⟨w.heap.size + 1 + 1, 0, none⟩ = some (v2_0) := (rA2.next bel).cell 0
  have cw_0 : w10.cell? ⟨bw, 0, none⟩ = some (.slice wA0 wn0 wc0) := (rw.next belw).cell 0
  have cw_1 : w10.cell? ⟨bw, 1, none⟩ = some (.slice wA1 wn1 wc1) := (rw.next belw).cell 1
  have cx0_0 : w10.cell? ⟨w5.heap.size, 0, none⟩ = some (.slice x0A0 x0n0 x0c0) := (rx0).cell 0
  have cx0_1 : w10.cell? ⟨w5.heap.size, 1, none⟩ = some (.slice x0A1 x0n1 x0c1) := (rx0).cell 1
  have cx1_0 : w10.cell? ⟨w7.heap.size, 0, none⟩ = some (.slice x1A0 x1n0 x1c0) := (rx1).cell 0
  have cx1_1 : w10.cell? ⟨w7.heap.size, 1, none⟩ = some (.slice x1A1 x1n1 x1c1) := (rx1).cell 1
  have cx2_0 : w10.cell? ⟨w9.heap.size, 0, none⟩ = some (.slice x2A0 x2n0 x2c0) := (rx2).cell 0
  refine (implWalkUnder _ _ _ _ _ d0 d1 d2 _ ox0.rd ox1.rd ox2.rd h0.out h1.out h2.out).mono ?_
  rintro e w11 ⟨gA0, gn0, gc0, gA1, gn1, gc1, he, o0, bb⟩
  rw [HV.out] at he
  rw [HY.out] at o0
  subst he
  replace ox0 := ox0.next bb
  replace rx0 := rx0.next bb
  replace ox1 := ox1.next bb
  replace rx1 := rx1.next bb
  replace ox2 := ox2.next bb
  replace rx2 := rx2.next bb
  replace bel := next_trans bel bb
  replace belw := next_trans belw bb
  have zw11 := bb.size
  clear bb
  have og := o0
  clear o0
  clear cA0_0 cA0_1 cA1_0 cA1_1 cA2_0 cw_0 cw_1 cx0_0 cx0_1 cx1_0 cx1_1 cx2_0
  have cA0_0 : w11.cell? ⟨w.heap.size, 0, none⟩ = some (v0_0) := (rA0.next bel).cell 0
  have cA0_1 : w11.cell? ⟨w.heap.size, 1, none⟩ = some (v0_1) := (rA0.next bel).cell 1
  have cA1_0 : w11.cell? ⟨w.heap.size + 1, 0, none⟩ = some (v1_0) := (rA1.next bel).cell 0
  have cA1_1 : w11.cell? ⟨w.heap.size + 1, 1, none⟩ = some (v1_1) := (rA1.next bel).cell 1
  have cA2_0 : w11.cell? ⟨w.heap.size + 1 + 1, 0, none⟩ = some (v2_0) := (rA2.next bel).cell 0
  have cw_0 : w11.cell? ⟨bw, 0, none⟩ = some (.slice wA0 wn0 wc0) := (rw.next belw).cell 0
  have cw_1 : w11.cell? ⟨bw, 1, none⟩ = some (.slice wA1 wn1 wc1) := (rw.next belw).cell 1
  have cx0_0 : w11.cell? ⟨w5.heap.size, 0, none⟩ = some (.slice x0A0 x0n0 x0c0) := (rx0).cell 0
  have cx0_1 : w11.cell? ⟨w5.heap.size, 1, none⟩ = some (.slice x0A1 x0n1 x0c1) := (rx0).cell 1
  have cx1_0 : w11.cell? ⟨w7.heap.size, 0, none⟩ = some (.slice x1A0 x1n0 x1c0) := (rx1).cell 0
  have cx1_1 : w11.cell? ⟨w7.heap.size, 1, none⟩ = some (.slice x1A1 x1n1 x1c1) := (rx1).cell 1
  have cx2_0 : w11.cell? ⟨w9.heap.size, 0, none⟩ = some (.slice x2A0 x2n0 x2c0) := (rx2).cell 0
  have dA0_0 : (w11.alloc (.cells #[.slice gA0 gn0 gc0, .slice gA1 gn1 gc1] 39)).cell? ⟨w.heap.size, 0, none⟩ = some (v0_0) := ((rA0.next bel).alloc _).cell 0
  have dA0_1 : (w11.alloc (.cells #[.slice gA0 gn0 gc0, .slice gA1 gn1 gc1] 39)).cell? ⟨w.heap.size, 1, none⟩ = some (v0_1) := ((rA0.next bel).alloc _).cell 1
  have dA1_0 : (w11.alloc (.cells #[.slice gA0 gn0 gc0, .slice gA1 gn1 gc1] 39)).cell? ⟨w.heap.size + 1, 0, none⟩ = some (v1_0) := ((rA1.next bel).alloc _).cell 0
  have dA1_1 : (w11.alloc (.cells #[.slice gA0 gn0 gc0, .slice gA1 gn1 gc1] 39)).cell? ⟨w.heap.size + 1, 1, none⟩ = some (v1_1) := ((rA1.next bel).alloc _).cell 1
  have dA2_0 : (w11.alloc (.cells #[.slice gA0 gn0 gc0, .slice gA1 gn1 gc1] 39)).cell? ⟨w.heap.size + 1 + 1, 0, none⟩ = some (v2_0) := ((rA2.next bel).alloc _).cell 0
  have dw_0 : (w11.alloc (.cells #[.slice gA0 gn0 gc0, .slice gA1 gn1 gc1] 39)).cell? ⟨bw, 0, none⟩ = some (.slice wA0 wn0 wc0) := ((rw.next belw).alloc _).cell 0
  have dw_1 : (w11.alloc (.cells #[.slice gA0 gn0 gc0, .slice gA1 gn1 gc1] 39)).cell? ⟨bw, 1, none⟩ = some (.slice wA1 wn1 wc1) := ((rw.next belw).alloc _).cell 1
  have dx0_0 : (w11.alloc (.cells #[.slice gA0 gn0 gc0, .slice gA1 gn1 gc1] 39)).cell? ⟨w5.heap.size, 0, none⟩ = some (.slice x0A0 x0n0 x0c0) := ((rx0).alloc _).cell 0
  have dx0_1 : (w11.alloc (.cells #[.slice gA0 gn0 gc0, .slice gA1 gn1 gc1] 39)).cell? ⟨w5.heap.size, 1, none⟩ = some (.slice x0A1 x0n1 x0c1) := ((rx0).alloc _).cell 1
  have dx1_0 : (w11.alloc (.cells #[.slice gA0 gn0 gc0, .slice gA1 gn1 gc1] 39)).cell? ⟨w7.heap.size, 0, none⟩ = some (.slice x1A0 x1n0 x1c0) := ((rx1).alloc _).cell 0
  have dx1_1 : (w11.alloc (.cells #[.slice gA0 gn0 gc0, .slice gA1 gn1 gc1] 39)).cell? ⟨w7.heap.size, 1, none⟩ = some (.slice x1A1 x1n1 x1c1) := ((rx1).alloc _).cell 1
  have dx2_0 : (w11.alloc (.cells #[.slice gA0 gn0 gc0, .slice gA1 gn1 gc1] 39)).cell? ⟨w9.heap.size, 0, none⟩ = some (.slice x2A0 x2n0 x2c0) := ((rx2).alloc _).cell 0
  go_wp2_with fail
  obtain ⟨w12, hw⟩ : ∃ W, W = w11.alloc (.cells #[.slice gA0 gn0 gc0, .slice gA1 gn1 gc1] 39) := ⟨_, rfl⟩
  rw [← hw]
  have rg : Row w12 w11.heap.size 39 #[.slice gA0 gn0 gc0, .slice gA1 gn1 gc1] := by rw [hw]; exact Row.new _ _ _
  have bb : Below w11.heap.size w11 w12 := by rw [hw]; exact (Below.refl _ _).alloc (Nat.le_refl _) _
  have yrg : w11.heap.size < w12.heap.size := by rw [hw]; simp
  clear hw
  replace ox0 := ox0.next bb
  replace rx0 := rx0.next bb
  replace ox1 := ox1.next bb
  replace rx1 := rx1.next bb
  replace ox2 := ox2.next bb
  replace rx2 := rx2.next bb
  replace og := og.next bb
  replace bel := next_trans bel bb
  replace belw := next_trans belw bb
  have zw12 := bb.size
  clear bb
  clear dA0_0 dA0_1 dA1_0 dA1_1 dA2_0 dw_0 dw_1 dx0_0 dx0_1 dx1_0 dx1_1 dx2_0
  clear cA0_0 cA0_1 cA1_0 cA1_1 cA2_0 cw_0 cw_1 cx0_0 cx0_1 cx1_0 cx1_1 cx2_0
  have cA0_0 : w12.cell? ⟨w.heap.size, 0, none⟩ = some (v0_0) := (rA0.next bel).cell 0
  have cA0_1 : w12.cell? ⟨w.heap.size, 1, none⟩ = some (v0_1) := (rA0.next bel).cell 1
  have cA1_0 : w12.cell? ⟨w.heap.size + 1, 0, none⟩ = some (v1_0) := (rA1.next bel).cell 0
  have cA1_1 : w12.cell? ⟨w.heap.size + 1, 1, none⟩ = some (v1_1) := (rA1.next bel).cell 1
  have cA2_0 : w12.cell? ⟨w.heap.size + 1 + 1, 0, none⟩ = some (v2_0) := (rA2.next bel).cell 0
  have cw_0 : w12.cell? ⟨bw, 0, none⟩ = some (.slice wA0 wn0 wc0) := (rw.next belw).cell 0
  have cw_1 : w12.cell? ⟨bw, 1, none⟩ = some (.slice wA1 wn1 wc1) := (rw.next belw).cell 1
  have cx0_0 : w12.cell? ⟨w5.heap.size, 0, none⟩ = some (.slice x0A0 x0n0 x0c0) := (rx0).cell 0
  have cx0_1 : w12.cell? ⟨w5.heap.size, 1, none⟩ = some (.slice x0A1 x0n1 x0c1) := (rx0).cell 1
  have cx1_0 : w12.cell? ⟨w7.heap.size, 0, none⟩ = some (.slice x1A0 x1n0 x1c0) := (rx1).cell 0
  have cx1_1 : w12.cell? ⟨w7.heap.size, 1, none⟩ = some (.slice x1A1 x1n1 x1c1) := (rx1).cell 1
  have cx2_0 : w12.cell? ⟨w9.heap.size, 0, none⟩ = some (.slice x2A0 x2n0 x2c0) := (rx2).cell 0
  have cg_0 : w12.cell? ⟨w11.heap.size, 0, none⟩ = some (.slice gA0 gn0 gc0) := (rg).cell 0
  have cg_1 : w12.cell? ⟨w11.heap.size, 1, none⟩ = some (.slice gA1 gn1 gc1) := (rg).cell 1
  refine (eqK_Walk _ _ _ _ ys _ og.rd (sw.next belw) hlen.out).mono ?_
  rintro e w13 ⟨rfl, bb⟩
  replace ox0 := ox0.next bb
  replace rx0 := rx0.next bb
  replace ox1 := ox1.next bb
  replace rx1 := rx1.next bb
  replace ox2 := ox2.next bb
  replace rx2 := rx2.next bb
  replace og := og.next bb
  replace rg := rg.next bb
  replace bel := next_trans bel bb
  replace belw := next_trans belw bb
  have zw13 := bb.size
  clear bb
  clear cA0_0 cA0_1 cA1_0 cA1_1 cA2_0 cw_0 cw_1 cx0_0 cx0_1 cx1_0 cx1_1 cx2_0 cg_0 cg_1
  have cA0_0 : w13.cell? ⟨w.heap.size, 0, none⟩ = some (v0_0) := (rA0.next bel).cell 0
  have cA0_1 : w13.cell? ⟨w.heap.size, 1, none⟩ = some (v0_1) := (rA0.next bel).cell 1
  have cA1_0 : w13.cell? ⟨w.heap.size + 1, 0, none⟩ = some (v1_0) := (rA1.next bel).cell 0
  have cA1_1 : w13.cell? ⟨w.heap.size + 1, 1, none⟩ = some (v1_1) := (rA1.next bel).cell 1
  have cA2_0 : w13.cell? ⟨w.heap.size + 1 + 1, 0, none⟩ = some (v2_0) := (rA2.next bel).cell 0
  have cw_0 : w13.cell? ⟨bw, 0, none⟩ = some (.slice wA0 wn0 wc0) := (rw.next belw).cell 0
  have cw_1 : w13.cell? ⟨bw, 1, none⟩ = some (.slice wA1 wn1 wc1) := (rw.next belw).cell 1
  have cx0_0 : w13.cell? ⟨w5.heap.size, 0, none⟩ = some (.slice x0A0 x0n0 x0c0) := (rx0).cell 0
  have cx0_1 : w13.cell? ⟨w5.heap.size, 1, none⟩ = some (.slice x0A1 x0n1 x0c1) := (rx0).cell 1
  have cx1_0 : w13.cell? ⟨w7.heap.size, 0, none⟩ = some (.slice x1A0 x1n0 x1c0) := (rx1).cell 0
  have cx1_1 : w13.cell? ⟨w7.heap.size, 1, none⟩ = some (.slice x1A1 x1n1 x1c1) := (rx1).cell 1
  have cx2_0 : w13.cell? ⟨w9.heap.size, 0, none⟩ = some (.slice x2A0 x2n0 x2c0) := (rx2).cell 0
  have cg_0 : w13.cell? ⟨w11.heap.size, 0, none⟩ = some (.slice gA0 gn0 gc0) := (rg).cell 0
  have cg_1 : w13.cell? ⟨w11.heap.size, 1, none⟩ = some (.slice gA1 gn1 gc1) := (rg).cell 1
  go_wp2_with fail
  replace ox0 := ox0.drew
  replace rx0 := rx0.drew
  replace ox1 := ox1.drew
  replace rx1 := rx1.drew
  replace ox2 := ox2.drew
  replace rx2 := rx2.drew
  replace og := og.drew
  replace rg := rg.drew
  replace bel := bel.drew
  replace belw := belw.drew
  have zdw13 := (drew_below w13).size
  go_region_held3 (fun w' => w'.cell? ⟨w5.heap.size, 0, none⟩ = some (.slice x0A0 x0n0 x0c0) ∧ w'.cell? ⟨w5.heap.size, 1, none⟩ = some (.slice x0A1 x0n1 x0c1) ∧ w'.cell? ⟨w.heap.size, 0, none⟩ = some (v0_0) ∧ w'.cell? ⟨w.heap.size, 1, none⟩ = some (v0_1))
   (go_keep)
   (first
    | (go_at_call 9; refine (toK_System _ _ d0 _ (s0.next bel) h0.out).mono ?_; rintro e w14 ⟨t0A0, t0n0, t0c0, t0A1, t0n1, t0c1, rfl, ot, bb⟩; replace ox0 := ox0.next bb; replace rx0 := rx0.next bb; replace ox1 := ox1.next bb; replace rx1 := rx1.next bb; replace ox2 := ox2.next bb; replace rx2 := rx2.next bb; replace og := og.next bb; replace rg := rg.next bb; replace bel := next_trans bel bb; replace belw := next_trans belw bb; have k0_0w14 : w14.cell? ⟨w.heap.size, 0, none⟩ = some (v0_0) := (rA0.next bel).cell 0; have k0_1w14 : w14.cell? ⟨w.heap.size, 1, none⟩ = some (v0_1) := (rA0.next bel).cell 1; have l0_0w14 : w14.cell? ⟨w5.heap.size, 0, none⟩ = some (.slice x0A0 x0n0 x0c0) := rx0.cell 0; have l0_1w14 : w14.cell? ⟨w5.heap.size, 1, none⟩ = some (.slice x0A1 x0n1 x0c1) := rx0.cell 1; have zqw14 := bb.size; clear bb)
    | (go_at_call 14; refine (eqK_System _ _ _ _ d0 _ ox0.rd ot.rd h0.out).mono ?_; rintro e w15 ⟨rfl, bb⟩; replace ox0 := ox0.next bb; replace rx0 := rx0.next bb; replace ox1 := ox1.next bb; replace rx1 := rx1.next bb; replace ox2 := ox2.next bb; replace rx2 := rx2.next bb; replace og := og.next bb; replace rg := rg.next bb; replace bel := next_trans bel bb; replace belw := next_trans belw bb; have k0_0w15 : w15.cell? ⟨w.heap.size, 0, none⟩ = some (v0_0) := (rA0.next bel).cell 0; have k0_1w15 : w15.cell? ⟨w.heap.size, 1, none⟩ = some (v0_1) := (rA0.next bel).cell 1; have l0_0w15 : w15.cell? ⟨w5.heap.size, 0, none⟩ = some (.slice x0A0 x0n0 x0c0) := rx0.cell 0; have l0_1w15 : w15.cell? ⟨w5.heap.size, 1, none⟩ = some (.slice x0A1 x0n1 x0c1) := rx0.cell 1; have zqw15 := bb.size; clear bb ot))
  clear k0_0w14 l0_0w14 k0_1w14 l0_1w14 k0_0w15 l0_0w15 k0_1w15 l0_1w15
  clear cA0_0 cA0_1 cA1_0 cA1_1 cA2_0 cw_0 cw_1 cx0_0 cx0_1 cx1_0 cx1_1 cx2_0 cg_0 cg_1
  have cA0_0 : w15.cell? ⟨w.heap.size, 0, none⟩ = some (v0_0) := (rA0.next bel).cell 0
  have cA0_1 : w15.cell? ⟨w.heap.size, 1, none⟩ = some (v0_1) := (rA0.next bel).cell 1
  have cA1_0 : w15.cell? ⟨w.heap.size + 1, 0, none⟩ = some (v1_0) := (rA1.next bel).cell 0
  have cA1_1 : w15.cell? ⟨w.heap.size + 1, 1, none⟩ = some (v1_1) := (rA1.next bel).cell 1
  have cA2_0 : w15.cell? ⟨w.heap.size + 1 + 1, 0, none⟩ = some (v2_0) := (rA2.next bel).cell 0
  have cw_0 : w15.cell? ⟨bw, 0, none⟩ = some (.slice wA0 wn0 wc0) := (rw.next belw).cell 0
  have cw_1 : w15.cell? ⟨bw, 1, none⟩ = some (.slice wA1 wn1 wc1) := (rw.next belw).cell 1
  have cx0_0 : w15.cell? ⟨w5.heap.size, 0, none⟩ = some (.slice x0A0 x0n0 x0c0) := (rx0).cell 0
  have cx0_1 : w15.cell? ⟨w5.heap.size, 1, none⟩ = some (.slice x0A1 x0n1 x0c1) := (rx0).cell 1
  have cx1_0 : w15.cell? ⟨w7.heap.size, 0, none⟩ = some (.slice x1A0 x1n0 x1c0) := (rx1).cell 0
  have cx1_1 : w15.cell? ⟨w7.heap.size, 1, none⟩ = some (.slice x1A1 x1n1 x1c1) := (rx1).cell 1
  have cx2_0 : w15.cell? ⟨w9.heap.size, 0, none⟩ = some (.slice x2A0 x2n0 x2c0) := (rx2).cell 0
  have cg_0 : w15.cell? ⟨w11.heap.size, 0, none⟩ = some (.slice gA0 gn0 gc0) := (rg).cell 0
  have cg_1 : w15.cell? ⟨w11.heap.size, 1, none⟩ = some (.slice gA1 gn1 gc1) := (rg).cell 1
  go_wp2_with fail
  replace ox0 := ox0.drew
  replace rx0 := rx0.drew
  replace ox1 := ox1.drew
  replace rx1 := rx1.drew
  replace ox2 := ox2.drew
  replace rx2 := rx2.drew
  replace og := og.drew
  replace rg := rg.drew
  replace bel := bel.drew
  replace belw := belw.drew
  have zdw15 := (drew_below w15).size
  go_region_held3 (fun w' => w'.cell? ⟨w7.heap.size, 0, none⟩ = some (.slice x1A0 x1n0 x1c0) ∧ w'.cell? ⟨w7.heap.size, 1, none⟩ = some (.slice x1A1 x1n1 x1c1) ∧ w'.cell? ⟨w.heap.size + 1, 0, none⟩ = some (v1_0) ∧ w'.cell? ⟨w.heap.size + 1, 1, none⟩ = some (v1_1))
   (go_keep)
   (first
    | (go_at_call 10; refine (toK_Walk _ _ d1 _ (s1.next bel) h1.out).mono ?_; rintro e w16 ⟨t1A0, t1n0, t1c0, t1A1, t1n1, t1c1, rfl, ot, bb⟩; replace ox0 := ox0.next bb; replace rx0 := rx0.next bb; replace ox1 := ox1.next bb; replace rx1 := rx1.next bb; replace ox2 := ox2.next bb; replace rx2 := rx2.next bb; replace og := og.next bb; replace rg := rg.next bb; replace bel := next_trans bel bb; replace belw := next_trans belw bb; have k1_0w16 : w16.cell? ⟨w.heap.size + 1, 0, none⟩ = some (v1_0) := (rA1.next bel).cell 0; have k1_1w16 : w16.cell? ⟨w.heap.size + 1, 1, none⟩ = some (v1_1) := (rA1.next bel).cell 1; have l1_0w16 : w16.cell? ⟨w7.heap.size, 0, none⟩ = some (.slice x1A0 x1n0 x1c0) := rx1.cell 0; have l1_1w16 : w16.cell? ⟨w7.heap.size, 1, none⟩ = some (.slice x1A1 x1n1 x1c1) := rx1.cell 1; have zqw16 := bb.size; clear bb)
    | (go_at_call 13; refine (eqK_Walk _ _ _ _ d1 _ ox1.rd ot.rd h1.out).mono ?_; rintro e w17 ⟨rfl, bb⟩; replace ox0 := ox0.next bb; replace rx0 := rx0.next bb; replace ox1 := ox1.next bb; replace rx1 := rx1.next bb; replace ox2 := ox2.next bb; replace rx2 := rx2.next bb; replace og := og.next bb; replace rg := rg.next bb; replace bel := next_trans bel bb; replace belw := next_trans belw bb; have k1_0w17 : w17.cell? ⟨w.heap.size + 1, 0, none⟩ = some (v1_0) := (rA1.next bel).cell 0; have k1_1w17 : w17.cell? ⟨w.heap.size + 1, 1, none⟩ = some (v1_1) := (rA1.next bel).cell 1; have l1_0w17 : w17.cell? ⟨w7.heap.size, 0, none⟩ = some (.slice x1A0 x1n0 x1c0) := rx1.cell 0; have l1_1w17 : w17.cell? ⟨w7.heap.size, 1, none⟩ = some (.slice x1A1 x1n1 x1c1) := rx1.cell 1; have zqw17 := bb.size; clear bb ot))
  clear k1_0w16 l1_0w16 k1_1w16 l1_1w16 k1_0w17 l1_0w17 k1_1w17 l1_1w17
  clear cA0_0 cA0_1 cA1_0 cA1_1 cA2_0 cw_0 cw_1 cx0_0 cx0_1 cx1_0 cx1_1 cx2_0 cg_0 cg_1
  have cA0_0 : w17.cell? ⟨w.heap.size, 0, none⟩ = some (v0_0) := (rA0.next bel).cell 0
  have cA0_1 : w17.cell? ⟨w.heap.size, 1, none⟩ = some (v0_1) := (rA0.next bel).cell 1
  have cA1_0 : w17.cell? ⟨w.heap.size + 1, 0, none⟩ = some (v1_0) := (rA1.next bel).cell 0
  have cA1_1 : w17.cell? ⟨w.heap.size + 1, 1, none⟩ = some (v1_1) := (rA1.next bel).cell 1
  have cA2_0 : w17.cell? ⟨w.heap.size + 1 + 1, 0, none⟩ = some (v2_0) := (rA2.next bel).cell 0
  have cw_0 : w17.cell? ⟨bw, 0, none⟩ = some (.slice wA0 wn0 wc0) := (rw.next belw).cell 0
  have cw_1 : w17.cell? ⟨bw, 1, none⟩ = some (.slice wA1 wn1 wc1) := (rw.next belw).cell 1
  have cx0_0 : w17.cell? ⟨w5.heap.size, 0, none⟩ = some (.slice x0A0 x0n0 x0c0) := (rx0).cell 0
  have cx0_1 : w17.cell? ⟨w5.heap.size, 1, none⟩ = some (.slice x0A1 x0n1 x0c1) := (rx0).cell 1
  have cx1_0 : w17.cell? ⟨w7.heap.size, 0, none⟩ = some (.slice x1A0 x1n0 x1c0) := (rx1).cell 0
  have cx1_1 : w17.cell? ⟨w7.heap.size, 1, none⟩ = some (.slice x1A1 x1n1 x1c1) := (rx1).cell 1
  have cx2_0 : w17.cell? ⟨w9.heap.size, 0, none⟩ = some (.slice x2A0 x2n0 x2c0) := (rx2).cell 0
  have cg_0 : w17.cell? ⟨w11.heap.size, 0, none⟩ = some (.slice gA0 gn0 gc0) := (rg).cell 0
  have cg_1 : w17.cell? ⟨w11.heap.size, 1, none⟩ = some (.slice gA1 gn1 gc1) := (rg).cell 1
  go_wp2_with fail
  replace ox0 := ox0.drew
  replace rx0 := rx0.drew
  replace ox1 := ox1.drew
  replace rx1 := rx1.drew
  replace ox2 := ox2.drew
  replace rx2 := rx2.drew
  replace og := og.drew
  replace rg := rg.drew
  replace bel := bel.drew
  replace belw := belw.drew
  have zdw17 := (drew_below w17).size
  go_region_held3 (fun w' => w'.cell? ⟨w9.heap.size, 0, none⟩ = some (.slice x2A0 x2n0 x2c0) ∧ w'.cell? ⟨w.heap.size + 1 + 1, 0, none⟩ = some (v2_0))
   (go_keep)
   (first
    | (go_at_call 11; refine (toK_Subst _ d2 _ (s2.next bel) h2.out).mono ?_; rintro e w18 ⟨t2A0, t2n0, t2c0, rfl, ot, bb⟩; replace ox0 := ox0.next bb; replace rx0 := rx0.next bb; replace ox1 := ox1.next bb; replace rx1 := rx1.next bb; replace ox2 := ox2.next bb; replace rx2 := rx2.next bb; replace og := og.next bb; replace rg := rg.next bb; replace bel := next_trans bel bb; replace belw := next_trans belw bb; have k2_0w18 : w18.cell? ⟨w.heap.size + 1 + 1, 0, none⟩ = some (v2_0) := (rA2.next bel).cell 0; have l2_0w18 : w18.cell? ⟨w9.heap.size, 0, none⟩ = some (.slice x2A0 x2n0 x2c0) := rx2.cell 0; have zqw18 := bb.size; clear bb)
    | (go_at_call 15; refine (eqK_Subst _ _ d2 _ ox2.rd ot.rd h2.out).mono ?_; rintro e w19 ⟨rfl, bb⟩; replace ox0 := ox0.next bb; replace rx0 := rx0.next bb; replace ox1 := ox1.next bb; replace rx1 := rx1.next bb; replace ox2 := ox2.next bb; replace rx2 := rx2.next bb; replace og := og.next bb; replace rg := rg.next bb; replace bel := next_trans bel bb; replace belw := next_trans belw bb; have k2_0w19 : w19.cell? ⟨w.heap.size + 1 + 1, 0, none⟩ = some (v2_0) := (rA2.next bel).cell 0; have l2_0w19 : w19.cell? ⟨w9.heap.size, 0, none⟩ = some (.slice x2A0 x2n0 x2c0) := rx2.cell 0; have zqw19 := bb.size; clear bb ot))
  clear k2_0w18 l2_0w18 k2_0w19 l2_0w19
  clear cA0_0 cA0_1 cA1_0 cA1_1 cA2_0 cw_0 cw_1 cx0_0 cx0_1 cx1_0 cx1_1 cx2_0 cg_0 cg_1
  have cA0_0 : w19.cell? ⟨w.heap.size, 0, none⟩ = some (v0_0) := (rA0.next bel).cell 0
  have cA0_1 : w19.cell? ⟨w.heap.size, 1, none⟩ = some (v0_1) := (rA0.next bel).cell 1
  have cA1_0 : w19.cell? ⟨w.heap.size + 1, 0, none⟩ = some (v1_0) := (rA1.next bel).cell 0
  have cA1_1 : w19.cell? ⟨w.heap.size + 1, 1, none⟩ = some (v1_1) := (rA1.next bel).cell 1
  have cA2_0 : w19.cell? ⟨w.heap.size + 1 + 1, 0, none⟩ = some (v2_0) := (rA2.next bel).cell 0
  have cw_0 : w19.cell? ⟨bw, 0, none⟩ = some (.slice wA0 wn0 wc0) := (rw.next belw).cell 0
  have cw_1 : w19.cell? ⟨bw, 1, none⟩ = some (.slice wA1 wn1 wc1) := (rw.next belw).cell 1
  have cx0_0 : w19.cell? ⟨w5.heap.size, 0, none⟩ = some (.slice x0A0 x0n0 x0c0) := (rx0).cell 0
  have cx0_1 : w19.cell? ⟨w5.heap.size, 1, none⟩ = some (.slice x0A1 x0n1 x0c1) := (rx0).cell 1
  have cx1_0 : w19.cell? ⟨w7.heap.size, 0, none⟩ = some (.slice x1A0 x1n0 x1c0) := (rx1).cell 0
  have cx1_1 : w19.cell? ⟨w7.heap.size, 1, none⟩ = some (.slice x1A1 x1n1 x1c1) := (rx1).cell 1
  have cx2_0 : w19.cell? ⟨w9.heap.size, 0, none⟩ = some (.slice x2A0 x2n0 x2c0) := (rx2).cell 0
  have cg_0 : w19.cell? ⟨w11.heap.size, 0, none⟩ = some (.slice gA0 gn0 gc0) := (rg).cell 0
  have cg_1 : w19.cell? ⟨w11.heap.size, 1, none⟩ = some (.slice gA1 gn1 gc1) := (rg).cell 1
  obtain ⟨Fox0, fox0, nox0, box0⟩ := ox0
  go_wp2_with fail
  refine (markK_System _ _ d0 (1) Fox0 _ fox0 nox0 h0.out (by omega) (by rw [HK0.out]; omega)).mono ?_
  rintro e w20 ⟨he, omox0, onox0⟩
  rw [HK0.out] at he
  have bt := onox0.btw box0
  clear onox0
  clear omox0 fox0 nox0 box0
  subst he
  replace rx0 := Row.btw rx0 bt (by omega)
  replace ox1 := ox1.btw bt (by omega)
  replace rx1 := Row.btw rx1 bt (by omega)
  replace ox2 := ox2.btw bt (by omega)
  replace rx2 := Row.btw rx2 bt (by omega)
  replace og := og.btw bt (by omega)
  replace rg := Row.btw rg bt (by omega)
  replace bel := Below.btw bel bt (by omega) bel.size
  replace belw := Below.btw belw bt (by omega) belw.size
  have zw20 := bt.size
  clear bt
  clear cA0_0 cA0_1 cA1_0 cA1_1 cA2_0 cw_0 cw_1 cx0_0 cx0_1 cx1_0 cx1_1 cx2_0 cg_0 cg_1
  have cA0_0 : w20.cell? ⟨w.heap.size, 0, none⟩ = some (v0_0) := (rA0.next bel).cell 0
  have cA0_1 : w20.cell? ⟨w.heap.size, 1, none⟩ = some (v0_1) := (rA0.next bel).cell 1
  have cA1_0 : w20.cell? ⟨w.heap.size + 1, 0, none⟩ = some (v1_0) := (rA1.next bel).cell 0
  have cA1_1 : w20.cell? ⟨w.heap.size + 1, 1, none⟩ = some (v1_1) := (rA1.next bel).cell 1
  have cA2_0 : w20.cell? ⟨w.heap.size + 1 + 1, 0, none⟩ = some (v2_0) := (rA2.next bel).cell 0
  have cw_0 : w20.cell? ⟨bw, 0, none⟩ = some (.slice wA0 wn0 wc0) := (rw.next belw).cell 0
  have cw_1 : w20.cell? ⟨bw, 1, none⟩ = some (.slice wA1 wn1 wc1) := (rw.next belw).cell 1
  have cx0_0 : w20.cell? ⟨w5.heap.size, 0, none⟩ = some (.slice x0A0 x0n0 x0c0) := (rx0).cell 0
  have cx0_1 : w20.cell? ⟨w5.heap.size, 1, none⟩ = some (.slice x0A1 x0n1 x0c1) := (rx0).cell 1
  have cx1_0 : w20.cell? ⟨w7.heap.size, 0, none⟩ = some (.slice x1A0 x1n0 x1c0) := (rx1).cell 0
  have cx1_1 : w20.cell? ⟨w7.heap.size, 1, none⟩ = some (.slice x1A1 x1n1 x1c1) := (rx1).cell 1
  have cx2_0 : w20.cell? ⟨w9.heap.size, 0, none⟩ = some (.slice x2A0 x2n0 x2c0) := (rx2).cell 0
  have cg_0 : w20.cell? ⟨w11.heap.size, 0, none⟩ = some (.slice gA0 gn0 gc0) := (rg).cell 0
  have cg_1 : w20.cell? ⟨w11.heap.size, 1, none⟩ = some (.slice gA1 gn1 gc1) := (rg).cell 1
  obtain ⟨Fox1, fox1, nox1, box1⟩ := ox1
  go_wp2_with fail
  refine (markK_Walk _ _ d1 (1 + (k0 : Int)) Fox1 _ fox1 nox1 h1.out (by omega) (by rw [HK1.out]; omega)).mono ?_
  rintro e w21 ⟨he, omox1, onox1⟩
  rw [HK1.out] at he
  have bt := onox1.btw box1
  clear onox1
  clear omox1 fox1 nox1 box1
  subst he
  replace rx0 := Row.btw rx0 bt (by omega)
  replace rx1 := Row.btw rx1 bt (by omega)
  replace ox2 := ox2.btw bt (by omega)
  replace rx2 := Row.btw rx2 bt (by omega)
  replace og := og.btw bt (by omega)
  replace rg := Row.btw rg bt (by omega)
  replace bel := Below.btw bel bt (by omega) bel.size
  replace belw := Below.btw belw bt (by omega) belw.size
  have zw21 := bt.size
  clear bt
  clear cA0_0 cA0_1 cA1_0 cA1_1 cA2_0 cw_0 cw_1 cx0_0 cx0_1 cx1_0 cx1_1 cx2_0 cg_0 cg_1
  have cA0_0 : w21.cell? ⟨w.heap.size, 0, none⟩ = some (v0_0) := (rA0.next bel).cell 0
  have cA0_1 : w21.cell? ⟨w.heap.size, 1, none⟩ = some (v0_1) := (rA0.next bel).cell 1
  have cA1_0 : w21.cell? ⟨w.heap.size + 1, 0, none⟩ = some (v1_0) := (rA1.next bel).cell 0
  have cA1_1 : w21.cell? ⟨w.heap.size + 1, 1, none⟩ = some (v1_1) := (rA1.next bel).cell 1
  have cA2_0 : w21.cell? ⟨w.heap.size + 1 + 1, 0, none⟩ = some (v2_0) := (rA2.next bel).cell 0
  have cw_0 : w21.cell? ⟨bw, 0, none⟩ = some (.slice wA0 wn0 wc0) := (rw.next belw).cell 0
  have cw_1 : w21.cell? ⟨bw, 1, none⟩ = some (.slice wA1 wn1 wc1) := (rw.next belw).cell 1
  have cx0_0 : w21.cell? ⟨w5.heap.size, 0, none⟩ = some (.slice x0A0 x0n0 x0c0) := (rx0).cell 0
  have cx0_1 : w21.cell? ⟨w5.heap.size, 1, none⟩ = some (.slice x0A1 x0n1 x0c1) := (rx0).cell 1
  have cx1_0 : w21.cell? ⟨w7.heap.size, 0, none⟩ = some (.slice x1A0 x1n0 x1c0) := (rx1).cell 0
  have cx1_1 : w21.cell? ⟨w7.heap.size, 1, none⟩ = some (.slice x1A1 x1n1 x1c1) := (rx1).cell 1
  have cx2_0 : w21.cell? ⟨w9.heap.size, 0, none⟩ = some (.slice x2A0 x2n0 x2c0) := (rx2).cell 0
  have cg_0 : w21.cell? ⟨w11.heap.size, 0, none⟩ = some (.slice gA0 gn0 gc0) := (rg).cell 0
  have cg_1 : w21.cell? ⟨w11.heap.size, 1, none⟩ = some (.slice gA1 gn1 gc1) := (rg).cell 1
  obtain ⟨Fox2, fox2, nox2, box2⟩ := ox2
  go_wp2_with fail
  refine (markK_Subst _ d2 (1 + (k0 : Int) + (k1 : Int)) Fox2 _ fox2 nox2 h2.out (by omega) (by rw [HK2.out]; omega)).mono ?_
  rintro e w22 ⟨he, omox2, onox2⟩
  rw [HK2.out] at he
  have bt := onox2.btw box2
  clear onox2
  clear omox2 fox2 nox2 box2
  subst he
  replace rx0 := Row.btw rx0 bt (by omega)
  replace rx1 := Row.btw rx1 bt (by omega)
  replace rx2 := Row.btw rx2 bt (by omega)
  replace og := og.btw bt (by omega)
  replace rg := Row.btw rg bt (by omega)
  replace bel := Below.btw bel bt (by omega) bel.size
  replace belw := Below.btw belw bt (by omega) belw.size
  have zw22 := bt.size
  clear bt
  clear cA0_0 cA0_1 cA1_0 cA1_1 cA2_0 cw_0 cw_1 cx0_0 cx0_1 cx1_0 cx1_1 cx2_0 cg_0 cg_1
  have cA0_0 : w22.cell? ⟨w.heap.size, 0, none⟩ = some (v0_0) := (rA0.next bel).cell 0
  have cA0_1 : w22.cell? ⟨w.heap.size, 1, none⟩ = some (v0_1) := (rA0.next bel).cell 1
  have cA1_0 : w22.cell? ⟨w.heap.size + 1, 0, none⟩ = some (v1_0) := (rA1.next bel).cell 0
  have cA1_1 : w22.cell? ⟨w.heap.size + 1, 1, none⟩ = some (v1_1) := (rA1.next bel).cell 1
  have cA2_0 : w22.cell? ⟨w.heap.size + 1 + 1, 0, none⟩ = some (v2_0) := (rA2.next bel).cell 0
  have cw_0 : w22.cell? ⟨bw, 0, none⟩ = some (.slice wA0 wn0 wc0) := (rw.next belw).cell 0
  have cw_1 : w22.cell? ⟨bw, 1, none⟩ = some (.slice wA1 wn1 wc1) := (rw.next belw).cell 1
  have cx0_0 : w22.cell? ⟨w5.heap.size, 0, none⟩ = some (.slice x0A0 x0n0 x0c0) := (rx0).cell 0
  have cx0_1 : w22.cell? ⟨w5.heap.size, 1, none⟩ = some (.slice x0A1 x0n1 x0c1) := (rx0).cell 1
  have cx1_0 : w22.cell? ⟨w7.heap.size, 0, none⟩ = some (.slice x1A0 x1n0 x1c0) := (rx1).cell 0
  have cx1_1 : w22.cell? ⟨w7.heap.size, 1, none⟩ = some (.slice x1A1 x1n1 x1c1) := (rx1).cell 1
  have cx2_0 : w22.cell? ⟨w9.heap.size, 0, none⟩ = some (.slice x2A0 x2n0 x2c0) := (rx2).cell 0
  have cg_0 : w22.cell? ⟨w11.heap.size, 0, none⟩ = some (.slice gA0 gn0 gc0) := (rg).cell 0
  have cg_1 : w22.cell? ⟨w11.heap.size, 1, none⟩ = some (.slice gA1 gn1 gc1) := (rg).cell 1
  clear rx0
  clear rx1
  clear rx2
  clear cA0_0 cA0_1 cA1_0 cA1_1 cA2_0 cw_0 cw_1 cx0_0 cx0_1 cx1_0 cx1_1 cx2_0 cg_0 cg_1
  have cA0_0 : w22.cell? ⟨w.heap.size, 0, none⟩ = some (v0_0) := (rA0.next bel).cell 0
  have cA0_1 : w22.cell? ⟨w.heap.size, 1, none⟩ = some (v0_1) := (rA0.next bel).cell 1
  have cA1_0 : w22.cell? ⟨w.heap.size + 1, 0, none⟩ = some (v1_0) := (rA1.next bel).cell 0
  have cA1_1 : w22.cell? ⟨w.heap.size + 1, 1, none⟩ = some (v1_1) := (rA1.next bel).cell 1
  have cA2_0 : w22.cell? ⟨w.heap.size + 1 + 1, 0, none⟩ = some (v2_0) := (rA2.next bel).cell 0
  have cw_0 : w22.cell? ⟨bw, 0, none⟩ = some (.slice wA0 wn0 wc0) := (rw.next belw).cell 0
  have cw_1 : w22.cell? ⟨bw, 1, none⟩ = some (.slice wA1 wn1 wc1) := (rw.next belw).cell 1
  have cg_0 : w22.cell? ⟨w11.heap.size, 0, none⟩ = some (.slice gA0 gn0 gc0) := (rg).cell 0
  have cg_1 : w22.cell? ⟨w11.heap.size, 1, none⟩ = some (.slice gA1 gn1 gc1) := (rg).cell 1
  go_wp2_with fail
  refine (eqK_Walk _ _ _ _ ys _ og.rd (sw.next belw) hlen.out).mono ?_
  rintro e w23 ⟨rfl, bb⟩
  replace og := og.next bb
  replace rg := rg.next bb
  replace bel := next_trans bel bb
  replace belw := next_trans belw bb
  have zw23 := bb.size
  clear bb
  clear cA0_0 cA0_1 cA1_0 cA1_1 cA2_0 cw_0 cw_1 cg_0 cg_1
  have cA0_0 : w23.cell? ⟨w.heap.size, 0, none⟩ = some (v0_0) := (rA0.next bel).cell 0
  have cA0_1 : w23.cell? ⟨w.heap.size, 1, none⟩ = some (v0_1) := (rA0.next bel).cell 1
  have cA1_0 : w23.cell? ⟨w.heap.size + 1, 0, none⟩ = some (v1_0) := (rA1.next bel).cell 0
  have cA1_1 : w23.cell? ⟨w.heap.size + 1, 1, none⟩ = some (v1_1) := (rA1.next bel).cell 1
  have cA2_0 : w23.cell? ⟨w.heap.size + 1 + 1, 0, none⟩ = some (v2_0) := (rA2.next bel).cell 0
  have cw_0 : w23.cell? ⟨bw, 0, none⟩ = some (.slice wA0 wn0 wc0) := (rw.next belw).cell 0
  have cw_1 : w23.cell? ⟨bw, 1, none⟩ = some (.slice wA1 wn1 wc1) := (rw.next belw).cell 1
  have cg_0 : w23.cell? ⟨w11.heap.size, 0, none⟩ = some (.slice gA0 gn0 gc0) := (rg).cell 0
  have cg_1 : w23.cell? ⟨w11.heap.size, 1, none⟩ = some (.slice gA1 gn1 gc1) := (rg).cell 1
  obtain ⟨Fog, fog, nog, bog⟩ := og
  go_wp2_with fail
  refine (markK_Walk _ _ ys (1) Fog _ fog nog hlen.out (by omega) (by rw [HCG.out]; omega)).mono ?_
  rintro e w24 ⟨he, omog, onog⟩
  rw [HCG.out] at he
  have bt := onog.btw bog
  clear onog
  have om : Owned w24 (w10.heap.size) (w11.heap.size) sWalk [.slice gA0 gn0 gc0, .slice gA1 gn1 gc1] (mkv sWalk 1 ys) := ⟨Fog, omog, nog, bog⟩
  clear omog fog nog bog
  subst he
  replace rg := Row.btw rg bt (by omega)
  replace bel := Below.btw bel bt (by omega) bel.size
  replace belw := Below.btw belw bt (by omega) belw.size
  have zw24 := bt.size
  clear bt
  clear cA0_0 cA0_1 cA1_0 cA1_1 cA2_0 cw_0 cw_1 cg_0 cg_1
  have cA0_0 : w24.cell? ⟨w.heap.size, 0, none⟩ = some (v0_0) := (rA0.next bel).cell 0
  have cA0_1 : w24.cell? ⟨w.heap.size, 1, none⟩ = some (v0_1) := (rA0.next bel).cell 1
  have cA1_0 : w24.cell? ⟨w.heap.size + 1, 0, none⟩ = some (v1_0) := (rA1.next bel).cell 0
  have cA1_1 : w24.cell? ⟨w.heap.size + 1, 1, none⟩ = some (v1_1) := (rA1.next bel).cell 1
  have cA2_0 : w24.cell? ⟨w.heap.size + 1 + 1, 0, none⟩ = some (v2_0) := (rA2.next bel).cell 0
  have cw_0 : w24.cell? ⟨bw, 0, none⟩ = some (.slice wA0 wn0 wc0) := (rw.next belw).cell 0
  have cw_1 : w24.cell? ⟨bw, 1, none⟩ = some (.slice wA1 wn1 wc1) := (rw.next belw).cell 1
  have cg_0 : w24.cell? ⟨w11.heap.size, 0, none⟩ = some (.slice gA0 gn0 gc0) := (rg).cell 0
  have cg_1 : w24.cell? ⟨w11.heap.size, 1, none⟩ = some (.slice gA1 gn1 gc1) := (rg).cell 1
  go_wp2_with fail
  refine (heldK_Walk _ _ ys 1 _ om.rd hlen.out (by omega) (by rw [HCG.out]; omega)).mono ?_
  rintro e w25 ⟨he, bb⟩
  rw [HCG.out] at he
  subst he
  replace rg := rg.next bb
  replace om := om.next bb
  replace bel := next_trans bel bb
  replace belw := next_trans belw bb
  have zw25 := bb.size
  clear bb
  clear cA0_0 cA0_1 cA1_0 cA1_1 cA2_0 cw_0 cw_1 cg_0 cg_1
  have cA0_0 : w25.cell? ⟨w.heap.size, 0, none⟩ = some (v0_0) := (rA0.next bel).cell 0
  have cA0_1 : w25.cell? ⟨w.heap.size, 1, none⟩ = some (v0_1) := (rA0.next bel).cell 1
  have cA1_0 : w25.cell? ⟨w.heap.size + 1, 0, none⟩ = some (v1_0) := (rA1.next bel).cell 0
  have cA1_1 : w25.cell? ⟨w.heap.size + 1, 1, none⟩ = some (v1_1) := (rA1.next bel).cell 1
  have cA2_0 : w25.cell? ⟨w.heap.size + 1 + 1, 0, none⟩ = some (v2_0) := (rA2.next bel).cell 0
  have cw_0 : w25.cell? ⟨bw, 0, none⟩ = some (.slice wA0 wn0 wc0) := (rw.next belw).cell 0
  have cw_1 : w25.cell? ⟨bw, 1, none⟩ = some (.slice wA1 wn1 wc1) := (rw.next belw).cell 1
  have cg_0 : w25.cell? ⟨w11.heap.size, 0, none⟩ = some (.slice gA0 gn0 gc0) := (rg).cell 0
  have cg_1 : w25.cell? ⟨w11.heap.size, 1, none⟩ = some (.slice gA1 gn1 gc1) := (rg).cell 1
  go_upto_region 38 with (fail)
  replace rg := rg.drew
  replace om := om.drew
  replace bel := bel.drew
  replace belw := belw.drew
  have zdw25 := (drew_below w25).size
  go_cut [18, 19] (fun s18 s19 wx => Boxed (w25.drew) ys s18 wx ∧ s19 = .bool v)
  case first =>
   have bs := Below.refl (w25.drew).heap.size (w25.drew)
   have bl := bel
   have zst := bl.size
   have c0S := hid (show w25.drew.cell? ⟨w.heap.size, 0, none⟩ = some (v0_0) ∧ w25.drew.cell? ⟨w.heap.size, 1, none⟩ = some (v0_1) ∧ w25.drew.cell? ⟨w.heap.size + 1, 0, none⟩ = some (v1_0) ∧ w25.drew.cell? ⟨w.heap.size + 1, 1, none⟩ = some (v1_1) ∧ w25.drew.cell? ⟨w.heap.size + 1 + 1, 0, none⟩ = some (v2_0) from ⟨(show w25.drew.cell? ⟨w.heap.size, 0, none⟩ = some (v0_0) from (rA0.next bl).cell 0), (show w25.drew.cell? ⟨w.heap.size, 1, none⟩ = some (v0_1) from (rA0.next bl).cell 1), (show w25.drew.cell? ⟨w.heap.size + 1, 0, none⟩ = some (v1_0) from (rA1.next bl).cell 0), (show w25.drew.cell? ⟨w.heap.size + 1, 1, none⟩ = some (v1_1) from (rA1.next bl).cell 1), (show w25.drew.cell? ⟨w.heap.size + 1 + 1, 0, none⟩ = some (v2_0) from (rA2.next bl).cell 0)⟩)
   clear bel belw rg om cA0_0 cA0_1 cA1_0 cA1_1 cA2_0 cw_0 cw_1 cg_0 cg_1
   refine wp_region_held_drew (S := fun w' => w'.cell? ⟨w.heap.size, 0, none⟩ = some (v0_0) ∧ w'.cell? ⟨w.heap.size, 1, none⟩ = some (v0_1) ∧ w'.cell? ⟨w.heap.size + 1, 0, none⟩ = some (v1_0) ∧ w'.cell? ⟨w.heap.size + 1, 1, none⟩ = some (v1_1) ∧ w'.cell? ⟨w.heap.size + 1 + 1, 0, none⟩ = some (v2_0)) (by kernel_rfl) c0S.out (fun hHeld => ?_)
   refine wpAnyH_take (i := 0) (v := ?_) rfl (by kernel_rfl) (by kernel_rfl) (by kernel_rfl) (fun _ _ _ h => h) (Or.inl ⟨by rfl, ?_⟩) (by assumption) ?_
   rotate_left 1
   ·(intro w0 hSw; (try dsimp only at hSw); go_simp; try with_reducible rfl)
   try simp only [Act.put, setIfInBounds_toArray, set_cons_zero, set_cons_succ, getElem_toArray, getElem_cons_zero, getElem_cons_succ]
   refine wpAnyH_take (i := 2) (v := ?_) rfl (by kernel_rfl) (by kernel_rfl) (by kernel_rfl) (fun _ _ _ h => h) (Or.inl ⟨by rfl, ?_⟩) (by assumption) ?_
   rotate_left 1
   ·(intro w0 hSw; (try dsimp only at hSw); go_simp; try with_reducible rfl)
   try simp only [Act.put, setIfInBounds_toArray, set_cons_zero, set_cons_succ, getElem_toArray, getElem_cons_zero, getElem_cons_succ]
   refine wpAnyH_take (i := 4) (v := ?_) rfl (by kernel_rfl) (by kernel_rfl) (by kernel_rfl) (fun _ _ _ h => h) (Or.inl ⟨by rfl, ?_⟩) (by assumption) ?_
   rotate_left 1
   ·(intro w0 hSw; (try dsimp only at hSw); go_simp; try with_reducible rfl)
   try simp only [Act.put, setIfInBounds_toArray, set_cons_zero, set_cons_succ, getElem_toArray, getElem_cons_zero, getElem_cons_succ]
   refine wpAnyH_ready (rs := [1, 10]) (by kernel_rfl) (by simp) (AllReadyH.cons rfl (fun K hK => ?_) (AllReadyH.cons rfl (fun K hK => ?_) AllReadyH.nil))
   ·skip
    try simp only [Act.put, setIfInBounds_toArray, set_cons_zero, set_cons_succ, getElem_toArray, getElem_cons_zero, getElem_cons_succ]
    rw [if_pos (by rfl)]
    go_simp
    refine (toK_System _ _ d0 _ (s0.next bl) h0.out).mono ?_
    rintro e v20 ⟨q0A0, q0n0, q0c0, q0A1, q0n1, q0c1, rfl, oq0, bb⟩
    replace bl := next_trans bl bb
    replace bs := next_trans bs bb
    have zqv20 := bb.size
    clear bb
    go_wp2_with fail
    refine hK.out _ _ ?_ (fun hHeld => ?_)
    ·exact ⟨(show v20.cell? ⟨w.heap.size, 0, none⟩ = some (v0_0) from (rA0.next bl).cell 0), (show v20.cell? ⟨w.heap.size, 1, none⟩ = some (v0_1) from (rA0.next bl).cell 1), (show v20.cell? ⟨w.heap.size + 1, 0, none⟩ = some (v1_0) from (rA1.next bl).cell 0), (show v20.cell? ⟨w.heap.size + 1, 1, none⟩ = some (v1_1) from (rA1.next bl).cell 1), (show v20.cell? ⟨w.heap.size + 1 + 1, 0, none⟩ = some (v2_0) from (rA2.next bl).cell 0)⟩
    clear hK K
    try simp only [Act.put, setIfInBounds_toArray, set_cons_zero, set_cons_succ, getElem_toArray, getElem_cons_zero, getElem_cons_succ]
    refine wpAnyH_ready (rs := [3, 10]) (by kernel_rfl) (by simp) (AllReadyH.cons rfl (fun K hK => ?_) (AllReadyH.cons rfl (fun K hK => ?_) AllReadyH.nil))
    ·skip
     try simp only [Act.put, setIfInBounds_toArray, set_cons_zero, set_cons_succ, getElem_toArray, getElem_cons_zero, getElem_cons_succ]
     rw [if_pos (by rfl)]
     go_simp
     refine (toK_Walk _ _ d1 _ (s1.next bl) h1.out).mono ?_
     rintro e v21 ⟨q1A0, q1n0, q1c0, q1A1, q1n1, q1c1, rfl, oq1, bb⟩
     replace oq0 := oq0.next bb
     replace bl := next_trans bl bb
     replace bs := next_trans bs bb
     have zqv21 := bb.size
     clear bb
     go_wp2_with fail
     refine hK.out _ _ ?_ (fun hHeld => ?_)
     ·exact ⟨(show v21.cell? ⟨w.heap.size, 0, none⟩ = some (v0_0) from (rA0.next bl).cell 0), (show v21.cell? ⟨w.heap.size, 1, none⟩ = some (v0_1) from (rA0.next bl).cell 1), (show v21.cell? ⟨w.heap.size + 1, 0, none⟩ = some (v1_0) from (rA1.next bl).cell 0), (show v21.cell? ⟨w.heap.size + 1, 1, none⟩ = some (v1_1) from (rA1.next bl).cell 1), (show v21.cell? ⟨w.heap.size + 1 + 1, 0, none⟩ = some (v2_0) from (rA2.next bl).cell 0)⟩
     clear hK K
     try simp only [Act.put, setIfInBounds_toArray, set_cons_zero, set_cons_succ, getElem_toArray, getElem_cons_zero, getElem_cons_succ]
     refine wpAnyH_ready (rs := [5, 10]) (by kernel_rfl) (by simp) (AllReadyH.cons rfl (fun K hK => ?_) (AllReadyH.cons rfl (fun K hK => ?_) AllReadyH.nil))
     ·skip
      try simp only [Act.put, setIfInBounds_toArray, set_cons_zero, set_cons_succ, getElem_toArray, getElem_cons_zero, getElem_cons_succ]
      rw [if_pos (by rfl)]
      go_simp
      refine (toK_Subst _ d2 _ (s2.next bl) h2.out).mono ?_
      rintro e v22 ⟨q2A0, q2n0, q2c0, rfl, oq2, bb⟩
      replace oq0 := oq0.next bb
      replace oq1 := oq1.next bb
      replace bl := next_trans bl bb
      replace bs := next_trans bs bb
      have zqv22 := bb.size
      clear bb
      go_wp2_with fail
      refine hK.out _ _ ?_ (fun hHeld => ?_)
      ·exact ⟨(show v22.cell? ⟨w.heap.size, 0, none⟩ = some (v0_0) from (rA0.next bl).cell 0), (show v22.cell? ⟨w.heap.size, 1, none⟩ = some (v0_1) from (rA0.next bl).cell 1), (show v22.cell? ⟨w.heap.size + 1, 0, none⟩ = some (v1_0) from (rA1.next bl).cell 0), (show v22.cell? ⟨w.heap.size + 1, 1, none⟩ = some (v1_1) from (rA1.next bl).cell 1), (show v22.cell? ⟨w.heap.size + 1 + 1, 0, none⟩ = some (v2_0) from (rA2.next bl).cell 0)⟩
      clear hK K
      try simp only [Act.put, setIfInBounds_toArray, set_cons_zero, set_cons_succ, getElem_toArray, getElem_cons_zero, getElem_cons_succ]
      refine wpAnyH_ready (rs := [6, 10]) (by kernel_rfl) (by simp) (AllReadyH.cons rfl (fun K hK => ?_) (AllReadyH.cons rfl (fun K hK => ?_) AllReadyH.nil))
      ·skip
       try simp only [Act.put, setIfInBounds_toArray, set_cons_zero, set_cons_succ, getElem_toArray, getElem_cons_zero, getElem_cons_succ]
       rw [if_pos (by rfl)]
       go_simp
       refine (implWalkUnder _ _ _ _ _ d0 d1 d2 _ oq0.rd oq1.rd oq2.rd h0.out h1.out h2.out).mono ?_
       rintro e v23 ⟨hA0, hn0, hc0, hA1, hn1, hc1, he, o0, bb⟩
       rw [HV.out] at he
       rw [HY.out] at o0
       subst he
       replace oq0 := oq0.next bb
       replace oq1 := oq1.next bb
       replace oq2 := oq2.next bb
       replace bl := next_trans bl bb
       replace bs := next_trans bs bb
       have zqv23 := bb.size
       clear bb
       clear oq0 oq1 oq2
       go_wp2_with fail
       refine hK.out _ _ ?_ (fun hHeld => ?_)
       ·exact ⟨(show v23.cell? ⟨w.heap.size, 0, none⟩ = some (v0_0) from (rA0.next bl).cell 0), (show v23.cell? ⟨w.heap.size, 1, none⟩ = some (v0_1) from (rA0.next bl).cell 1), (show v23.cell? ⟨w.heap.size + 1, 0, none⟩ = some (v1_0) from (rA1.next bl).cell 0), (show v23.cell? ⟨w.heap.size + 1, 1, none⟩ = some (v1_1) from (rA1.next bl).cell 1), (show v23.cell? ⟨w.heap.size + 1 + 1, 0, none⟩ = some (v2_0) from (rA2.next bl).cell 0)⟩
       clear hK K
       try simp only [Act.put, setIfInBounds_toArray, set_cons_zero, set_cons_succ, getElem_toArray, getElem_cons_zero, getElem_cons_succ]
       refine wpAnyH_take (i := 7) (v := ?_) rfl (by kernel_rfl) (by kernel_rfl) (by kernel_rfl) (fun _ _ _ h => h) (Or.inl ⟨by rfl, ?_⟩) (by assumption) ?_
       rotate_left 1
       ·(intro w0 hSw; (try dsimp only at hSw); go_simp; try with_reducible rfl)
       try simp only [Act.put, setIfInBounds_toArray, set_cons_zero, set_cons_succ, getElem_toArray, getElem_cons_zero, getElem_cons_succ]
       refine wpAnyH_take (i := 8) (v := ?_) rfl (by kernel_rfl) (by kernel_rfl) (by kernel_rfl) (fun _ _ _ h => h) (Or.inl ⟨by rfl, ?_⟩) (by assumption) ?_
       rotate_left 1
       ·(intro w0 hSw; (try dsimp only at hSw); go_simp; try with_reducible rfl)
       try simp only [Act.put, setIfInBounds_toArray, set_cons_zero, set_cons_succ, getElem_toArray, getElem_cons_zero, getElem_cons_succ]
       refine wpAnyH_take (i := 9) (v := ?_) rfl (by kernel_rfl) (by kernel_rfl) (by kernel_rfl) (fun _ _ _ h => h) (Or.inl ⟨by rfl, ?_⟩) (by assumption) ?_
       rotate_left 1
       ·(intro w0 hSw; (try dsimp only at hSw); go_simp; try with_reducible rfl)
       try simp only [Act.put, setIfInBounds_toArray, set_cons_zero, set_cons_succ, getElem_toArray, getElem_cons_zero, getElem_cons_succ]
       refine wpAnyH_ready (rs := [10]) (by kernel_rfl) (by simp) (AllReadyH.cons rfl (fun K hK => ?_) AllReadyH.nil)
       try simp only [Act.put, setIfInBounds_toArray, set_cons_zero, set_cons_succ, getElem_toArray, getElem_cons_zero, getElem_cons_succ]
       rw [if_pos (by rfl)]
       go_simp
       obtain ⟨v24, hw⟩ : ∃ W, W = (v23.alloc (.cells #[.slice none 0 0, .slice none 0 0] 39)) := ⟨_, rfl⟩
       rw [← hw]
       have rg : Row v24 v23.heap.size 39 #[.slice none 0 0, .slice none 0 0] := by rw [hw]; exact Row.new _ _ _
       have bb : Below v23.heap.size v23 v24 := by rw [hw]; exact (Below.refl _ _).alloc (Nat.le_refl _) _
       have ygg : v23.heap.size < v24.heap.size := rg.lt
       have hgB : w25.drew.heap.size ≤ v23.heap.size := bs.size
       clear hw
       replace o0 := o0.next bb
       replace bl := next_trans bl bb
       replace bs := next_trans bs bb
       have zqv24 := bb.size
       clear bb
       refine hK.out _ _ ?_ (fun hHeld => ?_)
       ·exact ⟨(show v24.cell? ⟨w.heap.size, 0, none⟩ = some (v0_0) from (rA0.next bl).cell 0), (show v24.cell? ⟨w.heap.size, 1, none⟩ = some (v0_1) from (rA0.next bl).cell 1), (show v24.cell? ⟨w.heap.size + 1, 0, none⟩ = some (v1_0) from (rA1.next bl).cell 0), (show v24.cell? ⟨w.heap.size + 1, 1, none⟩ = some (v1_1) from (rA1.next bl).cell 1), (show v24.cell? ⟨w.heap.size + 1 + 1, 0, none⟩ = some (v2_0) from (rA2.next bl).cell 0)⟩
       clear hK K
       try simp only [Act.put, setIfInBounds_toArray, set_cons_zero, set_cons_succ, getElem_toArray, getElem_cons_zero, getElem_cons_succ]
       have cg0 : (v24).cell? ⟨v23.heap.size, 0, none⟩ = some (.slice none 0 0) := (rg).cell 0
       have fg0 : (v24).frozen? ⟨v23.heap.size, 0, none⟩ = false := (rg).free 0
       have cg1 : ((v24).setCell ⟨v23.heap.size, 0, none⟩ (.slice hA0 hn0 hc0)).cell? ⟨v23.heap.size, 1, none⟩ = some (.slice none 0 0) := (Row.put (rg) 0 (.slice hA0 hn0 hc0)).cell 1
       have fg1 : ((v24).setCell ⟨v23.heap.size, 0, none⟩ (.slice hA0 hn0 hc0)).frozen? ⟨v23.heap.size, 1, none⟩ = false := (Row.put (rg) 0 (.slice hA0 hn0 hc0)).free 1
       have hne0 : v23.heap.size ≠ w.heap.size := by omega
       have hne1 : v23.heap.size ≠ w.heap.size + 1 := by omega
       have hne2 : v23.heap.size ≠ w.heap.size + 1 + 1 := by omega
       refine wpAnyH_ready (rs := [11]) (by kernel_rfl) (by simp) (AllReadyH.cons rfl (fun K hK => ?_) AllReadyH.nil)
       try simp only [Act.put, setIfInBounds_toArray, set_cons_zero, set_cons_succ, getElem_toArray, getElem_cons_zero, getElem_cons_succ]
       rw [if_pos (by rfl)]
       go_simp
       refine hK.out _ _ ?_ (fun hHeld => ?_)
       ·exact ⟨(far_cell hne0 (far_cell hne0 (show v24.cell? ⟨w.heap.size, 0, none⟩ = some (v0_0) from (rA0.next bl).cell 0))), (far_cell hne0 (far_cell hne0 (show v24.cell? ⟨w.heap.size, 1, none⟩ = some (v0_1) from (rA0.next bl).cell 1))), (far_cell hne1 (far_cell hne1 (show v24.cell? ⟨w.heap.size + 1, 0, none⟩ = some (v1_0) from (rA1.next bl).cell 0))), (far_cell hne1 (far_cell hne1 (show v24.cell? ⟨w.heap.size + 1, 1, none⟩ = some (v1_1) from (rA1.next bl).cell 1))), (far_cell hne2 (far_cell hne2 (show v24.cell? ⟨w.heap.size + 1 + 1, 0, none⟩ = some (v2_0) from (rA2.next bl).cell 0)))⟩
       clear hK K
       try simp only [Act.put, setIfInBounds_toArray, set_cons_zero, set_cons_succ, getElem_toArray, getElem_cons_zero, getElem_cons_succ]
       refine wpAnyH_take (i := 12) (v := ?_) rfl (by kernel_rfl) (by kernel_rfl) (by kernel_rfl) (fun _ _ _ h => h) (Or.inl ⟨by rfl, ?_⟩) (by assumption) ?_
       rotate_left 1
       ·(intro w0 hSw; (try dsimp only at hSw); go_simp; try with_reducible rfl)
       try simp only [Act.put, setIfInBounds_toArray, set_cons_zero, set_cons_succ, getElem_toArray, getElem_cons_zero, getElem_cons_succ]
       refine wpAnyH_done (by kernel_rfl) ?_ _
       have F := boxed_put (W := w25.drew) o0 rg (by omega) bs hgB
       clear cg0 fg0 cg1 fg1 bl rg o0 bs hne0 hne1 hne2
       go_wp2_with fail
       go_meet
       exact ⟨F, rfl⟩
      ·skip
       try simp only [Act.put, setIfInBounds_toArray, set_cons_zero, set_cons_succ, getElem_toArray, getElem_cons_zero, getElem_cons_succ]
       rw [if_pos (by rfl)]
       go_simp
       obtain ⟨v25, hw⟩ : ∃ W, W = (v22.alloc (.cells #[.slice none 0 0, .slice none 0 0] 39)) := ⟨_, rfl⟩
       rw [← hw]
       have rg : Row v25 v22.heap.size 39 #[.slice none 0 0, .slice none 0 0] := by rw [hw]; exact Row.new _ _ _
       have bb : Below v22.heap.size v22 v25 := by rw [hw]; exact (Below.refl _ _).alloc (Nat.le_refl _) _
       have ygg : v22.heap.size < v25.heap.size := rg.lt
       have hgB : w25.drew.heap.size ≤ v22.heap.size := bs.size
       clear hw
       replace oq0 := oq0.next bb
       replace oq1 := oq1.next bb
       replace oq2 := oq2.next bb
       replace bl := next_trans bl bb
       replace bs := next_trans bs bb
       have zqv25 := bb.size
       clear bb
       refine hK.out _ _ ?_ (fun hHeld => ?_)
       ·exact ⟨(show v25.cell? ⟨w.heap.size, 0, none⟩ = some (v0_0) from (rA0.next bl).cell 0), (show v25.cell? ⟨w.heap.size, 1, none⟩ = some (v0_1) from (rA0.next bl).cell 1), (show v25.cell? ⟨w.heap.size + 1, 0, none⟩ = some (v1_0) from (rA1.next bl).cell 0), (show v25.cell? ⟨w.heap.size + 1, 1, none⟩ = some (v1_1) from (rA1.next bl).cell 1), (show v25.cell? ⟨w.heap.size + 1 + 1, 0, none⟩ = some (v2_0) from (rA2.next bl).cell 0)⟩
       clear hK K
       try simp only [Act.put, setIfInBounds_toArray, set_cons_zero, set_cons_succ, getElem_toArray, getElem_cons_zero, getElem_cons_succ]
       refine wpAnyH_ready (rs := [6]) (by kernel_rfl) (by simp) (AllReadyH.cons rfl (fun K hK => ?_) AllReadyH.nil)
       try simp only [Act.put, setIfInBounds_toArray, set_cons_zero, set_cons_succ, getElem_toArray, getElem_cons_zero, getElem_cons_succ]
       rw [if_pos (by rfl)]
       go_simp
       refine (implWalkUnder _ _ _ _ _ d0 d1 d2 _ oq0.rd oq1.rd oq2.rd h0.out h1.out h2.out).mono ?_
       rintro e v26 ⟨hA0, hn0, hc0, hA1, hn1, hc1, he, o0, bb⟩
       rw [HV.out] at he
       rw [HY.out] at o0
       subst he
       replace oq0 := oq0.next bb
       replace oq1 := oq1.next bb
       replace oq2 := oq2.next bb
       replace rg := rg.next bb
       replace bl := next_trans bl bb
       replace bs := next_trans bs bb
       have zqv26 := bb.size
       clear bb
       clear oq0 oq1 oq2
       go_wp2_with fail
       refine hK.out _ _ ?_ (fun hHeld => ?_)
       ·exact ⟨(show v26.cell? ⟨w.heap.size, 0, none⟩ = some (v0_0) from (rA0.next bl).cell 0), (show v26.cell? ⟨w.heap.size, 1, none⟩ = some (v0_1) from (rA0.next bl).cell 1), (show v26.cell? ⟨w.heap.size + 1, 0, none⟩ = some (v1_0) from (rA1.next bl).cell 0), (show v26.cell? ⟨w.heap.size + 1, 1, none⟩ = some (v1_1) from (rA1.next bl).cell 1), (show v26.cell? ⟨w.heap.size + 1 + 1, 0, none⟩ = some (v2_0) from (rA2.next bl).cell 0)⟩
       clear hK K
       try simp only [Act.put, setIfInBounds_toArray, set_cons_zero, set_cons_succ, getElem_toArray, getElem_cons_zero, getElem_cons_succ]
       refine wpAnyH_take (i := 7) (v := ?_) rfl (by kernel_rfl) (by kernel_rfl) (by kernel_rfl) (fun _ _ _ h => h) (Or.inl ⟨by rfl, ?_⟩) (by assumption) ?_
       rotate_left 1
       ·(intro w0 hSw; (try dsimp only at hSw); go_simp; try with_reducible rfl)
       try simp only [Act.put, setIfInBounds_toArray, set_cons_zero, set_cons_succ, getElem_toArray, getElem_cons_zero, getElem_cons_succ]
       refine wpAnyH_take (i := 8) (v := ?_) rfl (by kernel_rfl) (by kernel_rfl) (by kernel_rfl) (fun _ _ _ h => h) (Or.inl ⟨by rfl, ?_⟩) (by assumption) ?_
       rotate_left 1
       ·(intro w0 hSw; (try dsimp only at hSw); go_simp; try with_reducible rfl)
       try simp only [Act.put, setIfInBounds_toArray, set_cons_zero, set_cons_succ, getElem_toArray, getElem_cons_zero, getElem_cons_succ]
       refine wpAnyH_take (i := 9) (v := ?_) rfl (by kernel_rfl) (by kernel_rfl) (by kernel_rfl) (fun _ _ _ h => h) (Or.inl ⟨by rfl, ?_⟩) (by assumption) ?_
       rotate_left 1
       ·(intro w0 hSw; (try dsimp only at hSw); go_simp; try with_reducible rfl)
       try simp only [Act.put, setIfInBounds_toArray, set_cons_zero, set_cons_succ, getElem_toArray, getElem_cons_zero, getElem_cons_succ]
       have cg0 : (v26).cell? ⟨v22.heap.size, 0, none⟩ = some (.slice none 0 0) := (rg).cell 0
       have fg0 : (v26).frozen? ⟨v22.heap.size, 0, none⟩ = false := (rg).free 0
       have cg1 : ((v26).setCell ⟨v22.heap.size, 0, none⟩ (.slice hA0 hn0 hc0)).cell? ⟨v22.heap.size, 1, none⟩ = some (.slice none 0 0) := (Row.put (rg) 0 (.slice hA0 hn0 hc0)).cell 1
       have fg1 : ((v26).setCell ⟨v22.heap.size, 0, none⟩ (.slice hA0 hn0 hc0)).frozen? ⟨v22.heap.size, 1, none⟩ = false := (Row.put (rg) 0 (.slice hA0 hn0 hc0)).free 1
       have hne0 : v22.heap.size ≠ w.heap.size := by omega
       have hne1 : v22.heap.size ≠ w.heap.size + 1 := by omega
       have hne2 : v22.heap.size ≠ w.heap.size + 1 + 1 := by omega
       refine wpAnyH_ready (rs := [11]) (by kernel_rfl) (by simp) (AllReadyH.cons rfl (fun K hK => ?_) AllReadyH.nil)
       try simp only [Act.put, setIfInBounds_toArray, set_cons_zero, set_cons_succ, getElem_toArray, getElem_cons_zero, getElem_cons_succ]
       rw [if_pos (by rfl)]
       go_simp
       refine hK.out _ _ ?_ (fun hHeld => ?_)
       ·exact ⟨(far_cell hne0 (far_cell hne0 (show v26.cell? ⟨w.heap.size, 0, none⟩ = some (v0_0) from (rA0.next bl).cell 0))), (far_cell hne0 (far_cell hne0 (show v26.cell? ⟨w.heap.size, 1, none⟩ = some (v0_1) from (rA0.next bl).cell 1))), (far_cell hne1 (far_cell hne1 (show v26.cell? ⟨w.heap.size + 1, 0, none⟩ = some (v1_0) from (rA1.next bl).cell 0))), (far_cell hne1 (far_cell hne1 (show v26.cell? ⟨w.heap.size + 1, 1, none⟩ = some (v1_1) from (rA1.next bl).cell 1))), (far_cell hne2 (far_cell hne2 (show v26.cell? ⟨w.heap.size + 1 + 1, 0, none⟩ = some (v2_0) from (rA2.next bl).cell 0)))⟩
       clear hK K
       try simp only [Act.put, setIfInBounds_toArray, set_cons_zero, set_cons_succ, getElem_toArray, getElem_cons_zero, getElem_cons_succ]
       refine wpAnyH_take (i := 12) (v := ?_) rfl (by kernel_rfl) (by kernel_rfl) (by kernel_rfl) (fun _ _ _ h => h) (Or.inl ⟨by rfl, ?_⟩) (by assumption) ?_
       rotate_left 1
       ·(intro w0 hSw; (try dsimp only at hSw); go_simp; try with_reducible rfl)
       try simp only [Act.put, setIfInBounds_toArray, set_cons_zero, set_cons_succ, getElem_toArray, getElem_cons_zero, getElem_cons_succ]
       refine wpAnyH_done (by kernel_rfl) ?_ _
       have F := boxed_put (W := w25.drew) o0 rg (by omega) bs hgB
       clear cg0 fg0 cg1 fg1 bl rg o0 bs hne0 hne1 hne2
       go_wp2_with fail
       go_meet
       exact ⟨F, rfl⟩
     ·skip
      try simp only [Act.put, setIfInBounds_toArray, set_cons_zero, set_cons_succ, getElem_toArray, getElem_cons_zero, getElem_cons_succ]
      rw [if_pos (by rfl)]
      go_simp
      obtain ⟨v27, hw⟩ : ∃ W, W = (v21.alloc (.cells #[.slice none 0 0, .slice none 0 0] 39)) := ⟨_, rfl⟩
      rw [← hw]
      have rg : Row v27 v21.heap.size 39 #[.slice none 0 0, .slice none 0 0] := by rw [hw]; exact Row.new _ _ _
      have bb : Below v21.heap.size v21 v27 := by rw [hw]; exact (Below.refl _ _).alloc (Nat.le_refl _) _
      have ygg : v21.heap.size < v27.heap.size := rg.lt
      have hgB : w25.drew.heap.size ≤ v21.heap.size := bs.size
      clear hw
      replace oq0 := oq0.next bb
      replace oq1 := oq1.next bb
      replace bl := next_trans bl bb
      replace bs := next_trans bs bb
      have zqv27 := bb.size
      clear bb
      refine hK.out _ _ ?_ (fun hHeld => ?_)
      ·exact ⟨(show v27.cell? ⟨w.heap.size, 0, none⟩ = some (v0_0) from (rA0.next bl).cell 0), (show v27.cell? ⟨w.heap.size, 1, none⟩ = some (v0_1) from (rA0.next bl).cell 1), (show v27.cell? ⟨w.heap.size + 1, 0, none⟩ = some (v1_0) from (rA1.next bl).cell 0), (show v27.cell? ⟨w.heap.size + 1, 1, none⟩ = some (v1_1) from (rA1.next bl).cell 1), (show v27.cell? ⟨w.heap.size + 1 + 1, 0, none⟩ = some (v2_0) from (rA2.next bl).cell 0)⟩
      clear hK K
      try simp only [Act.put, setIfInBounds_toArray, set_cons_zero, set_cons_succ, getElem_toArray, getElem_cons_zero, getElem_cons_succ]
      refine wpAnyH_ready (rs := [5]) (by kernel_rfl) (by simp) (AllReadyH.cons rfl (fun K hK => ?_) AllReadyH.nil)
      try simp only [Act.put, setIfInBounds_toArray, set_cons_zero, set_cons_succ, getElem_toArray, getElem_cons_zero, getElem_cons_succ]
      rw [if_pos (by rfl)]
      go_simp
      refine (toK_Subst _ d2 _ (s2.next bl) h2.out).mono ?_
      rintro e v28 ⟨q2A0, q2n0, q2c0, rfl, oq2, bb⟩
      replace oq0 := oq0.next bb
      replace oq1 := oq1.next bb
      replace rg := rg.next bb
      replace bl := next_trans bl bb
      replace bs := next_trans bs bb
      have zqv28 := bb.size
      clear bb
      go_wp2_with fail
      refine hK.out _ _ ?_ (fun hHeld => ?_)
      ·exact ⟨(show v28.cell? ⟨w.heap.size, 0, none⟩ = some (v0_0) from (rA0.next bl).cell 0), (show v28.cell? ⟨w.heap.size, 1, none⟩ = some (v0_1) from (rA0.next bl).cell 1), (show v28.cell? ⟨w.heap.size + 1, 0, none⟩ = some (v1_0) from (rA1.next bl).cell 0), (show v28.cell? ⟨w.heap.size + 1, 1, none⟩ = some (v1_1) from (rA1.next bl).cell 1), (show v28.cell? ⟨w.heap.size + 1 + 1, 0, none⟩ = some (v2_0) from (rA2.next bl).cell 0)⟩
      clear hK K
      try simp only [Act.put, setIfInBounds_toArray, set_cons_zero, set_cons_succ, getElem_toArray, getElem_cons_zero, getElem_cons_succ]
      refine wpAnyH_ready (rs := [6]) (by kernel_rfl) (by simp) (AllReadyH.cons rfl (fun K hK => ?_) AllReadyH.nil)
      try simp only [Act.put, setIfInBounds_toArray, set_cons_zero, set_cons_succ, getElem_toArray, getElem_cons_zero, getElem_cons_succ]
      rw [if_pos (by rfl)]
      go_simp
      refine (implWalkUnder _ _ _ _ _ d0 d1 d2 _ oq0.rd oq1.rd oq2.rd h0.out h1.out h2.out).mono ?_
      rintro e v29 ⟨hA0, hn0, hc0, hA1, hn1, hc1, he, o0, bb⟩
      rw [HV.out] at he
      rw [HY.out] at o0
      subst he
      replace oq0 := oq0.next bb
      replace oq1 := oq1.next bb
      replace rg := rg.next bb
      replace oq2 := oq2.next bb
      replace bl := next_trans bl bb
      replace bs := next_trans bs bb
      have zqv29 := bb.size
      clear bb
      clear oq0 oq1 oq2
      go_wp2_with fail
      refine hK.out _ _ ?_ (fun hHeld => ?_)
      ·exact ⟨(show v29.cell? ⟨w.heap.size, 0, none⟩ = some (v0_0) from (rA0.next bl).cell 0), (show v29.cell? ⟨w.heap.size, 1, none⟩ = some (v0_1) from (rA0.next bl).cell 1), (show v29.cell? ⟨w.heap.size + 1, 0, none⟩ = some (v1_0) from (rA1.next bl).cell 0), (show v29.cell? ⟨w.heap.size + 1, 1, none⟩ = some (v1_1) from (rA1.next bl).cell 1), (show v29.cell? ⟨w.heap.size + 1 + 1, 0, none⟩ = some (v2_0) from (rA2.next bl).cell 0)⟩
      clear hK K
      try simp only [Act.put, setIfInBounds_toArray, set_cons_zero, set_cons_succ, getElem_toArray, getElem_cons_zero, getElem_cons_succ]
      refine wpAnyH_take (i := 7) (v := ?_) rfl (by kernel_rfl) (by kernel_rfl) (by kernel_rfl) (fun _ _ _ h => h) (Or.inl ⟨by rfl, ?_⟩) (by assumption) ?_
      rotate_left 1
      ·(intro w0 hSw; (try dsimp only at hSw); go_simp; try with_reducible rfl)
      try simp only [Act.put, setIfInBounds_toArray, set_cons_zero, set_cons_succ, getElem_toArray, getElem_cons_zero, getElem_cons_succ]
      refine wpAnyH_take (i := 8) (v := ?_) rfl (by kernel_rfl) (by kernel_rfl) (by kernel_rfl) (fun _ _ _ h => h) (Or.inl ⟨by rfl, ?_⟩) (by assumption) ?_
      rotate_left 1
      ·(intro w0 hSw; (try dsimp only at hSw); go_simp; try with_reducible rfl)
      try simp only [Act.put, setIfInBounds_toArray, set_cons_zero, set_cons_succ, getElem_toArray, getElem_cons_zero, getElem_cons_succ]
      refine wpAnyH_take (i := 9) (v := ?_) rfl (by kernel_rfl) (by kernel_rfl) (by kernel_rfl) (fun _ _ _ h => h) (Or.inl ⟨by rfl, ?_⟩) (by assumption) ?_
      rotate_left 1
      ·(intro w0 hSw; (try dsimp only at hSw); go_simp; try with_reducible rfl)
      try simp only [Act.put, setIfInBounds_toArray, set_cons_zero, set_cons_succ, getElem_toArray, getElem_cons_zero, getElem_cons_succ]
      have cg0 : (v29).cell? ⟨v21.heap.size, 0, none⟩ = some (.slice none 0 0) := (rg).cell 0
      have fg0 : (v29).frozen? ⟨v21.heap.size, 0, none⟩ = false := (rg).free 0
      have cg1 : ((v29).setCell ⟨v21.heap.size, 0, none⟩ (.slice hA0 hn0 hc0)).cell? ⟨v21.heap.size, 1, none⟩ = some (.slice none 0 0) := (Row.put (rg) 0 (.slice hA0 hn0 hc0)).cell 1
      have fg1 : ((v29).setCell ⟨v21.heap.size, 0, none⟩ (.slice hA0 hn0 hc0)).frozen? ⟨v21.heap.size, 1, none⟩ = false := (Row.put (rg) 0 (.slice hA0 hn0 hc0)).free 1
      have hne0 : v21.heap.size ≠ w.heap.size := by omega
      have hne1 : v21.heap.size ≠ w.heap.size + 1 := by omega
      have hne2 : v21.heap.size ≠ w.heap.size + 1 + 1 := by omega
      refine wpAnyH_ready (rs := [11]) (by kernel_rfl) (by simp) (AllReadyH.cons rfl (fun K hK => ?_) AllReadyH.nil)
      try simp only [Act.put, setIfInBounds_toArray, set_cons_zero, set_cons_succ, getElem_toArray, getElem_cons_zero, getElem_cons_succ]
      rw [if_pos (by rfl)]
      go_simp
      refine hK.out _ _ ?_ (fun hHeld => ?_)
      ·exact ⟨(far_cell hne0 (far_cell hne0 (show v29.cell? ⟨w.heap.size, 0, none⟩ = some (v0_0) from (rA0.next bl).cell 0))), (far_cell hne0 (far_cell hne0 (show v29.cell? ⟨w.heap.size, 1, none⟩ = some (v0_1) from (rA0.next bl).cell 1))), (far_cell hne1 (far_cell hne1 (show v29.cell? ⟨w.heap.size + 1, 0, none⟩ = some (v1_0) from (rA1.next bl).cell 0))), (far_cell hne1 (far_cell hne1 (show v29.cell? ⟨w.heap.size + 1, 1, none⟩ = some (v1_1) from (rA1.next bl).cell 1))), (far_cell hne2 (far_cell hne2 (show v29.cell? ⟨w.heap.size + 1 + 1, 0, none⟩ = some (v2_0) from (rA2.next bl).cell 0)))⟩
      clear hK K
      try simp only [Act.put, setIfInBounds_toArray, set_cons_zero, set_cons_succ, getElem_toArray, getElem_cons_zero, getElem_cons_succ]
      refine wpAnyH_take (i := 12) (v := ?_) rfl (by kernel_rfl) (by kernel_rfl) (by kernel_rfl) (fun _ _ _ h => h) (Or.inl ⟨by rfl, ?_⟩) (by assumption) ?_
      rotate_left 1
      ·(intro w0 hSw; (try dsimp only at hSw); go_simp; try with_reducible rfl)
      try simp only [Act.put, setIfInBounds_toArray, set_cons_zero, set_cons_succ, getElem_toArray, getElem_cons_zero, getElem_cons_succ]
      refine wpAnyH_done (by kernel_rfl) ?_ _
      have F := boxed_put (W := w25.drew) o0 rg (by omega) bs hgB
      clear cg0 fg0 cg1 fg1 bl rg o0 bs hne0 hne1 hne2
      go_wp2_with fail
      go_meet
      exact ⟨F, rfl⟩
    ·skip
     try simp only [Act.put, setIfInBounds_toArray, set_cons_zero, set_cons_succ, getElem_toArray, getElem_cons_zero, getElem_cons_succ]
     rw [if_pos (by rfl)]
     go_simp
     obtain ⟨v30, hw⟩ : ∃ W, W = (v20.alloc (.cells #[.slice none 0 0, .slice none 0 0] 39)) := ⟨_, rfl⟩
     rw [← hw]
     have rg : Row v30 v20.heap.size 39 #[.slice none 0 0, .slice none 0 0] := by rw [hw]; exact Row.new _ _ _
     have bb : Below v20.heap.size v20 v30 := by rw [hw]; exact (Below.refl _ _).alloc (Nat.le_refl _) _
     have ygg : v20.heap.size < v30.heap.size := rg.lt
     have hgB : w25.drew.heap.size ≤ v20.heap.size := bs.size
     clear hw
     replace oq0 := oq0.next bb
     replace bl := next_trans bl bb
     replace bs := next_trans bs bb
     have zqv30 := bb.size
     clear bb
     refine hK.out _ _ ?_ (fun hHeld => ?_)
     ·exact ⟨(show v30.cell? ⟨w.heap.size, 0, none⟩ = some (v0_0) from (rA0.next bl).cell 0), (show v30.cell? ⟨w.heap.size, 1, none⟩ = some (v0_1) from (rA0.next bl).cell 1), (show v30.cell? ⟨w.heap.size + 1, 0, none⟩ = some (v1_0) from (rA1.next bl).cell 0), (show v30.cell? ⟨w.heap.size + 1, 1, none⟩ = some (v1_1) from (rA1.next bl).cell 1), (show v30.cell? ⟨w.heap.size + 1 + 1, 0, none⟩ = some (v2_0) from (rA2.next bl).cell 0)⟩
     clear hK K
     try simp only [Act.put, setIfInBounds_toArray, set_cons_zero, set_cons_succ, getElem_toArray, getElem_cons_zero, getElem_cons_succ]
     refine wpAnyH_ready (rs := [3]) (by kernel_rfl) (by simp) (AllReadyH.cons rfl (fun K hK => ?_) AllReadyH.nil)
     try simp only [Act.put, setIfInBounds_toArray, set_cons_zero, set_cons_succ, getElem_toArray, getElem_cons_zero, getElem_cons_succ]
     rw [if_pos (by rfl)]
     go_simp
     refine (toK_Walk _ _ d1 _ (s1.next bl) h1.out).mono ?_
     rintro e v31 ⟨q1A0, q1n0, q1c0, q1A1, q1n1, q1c1, rfl, oq1, bb⟩
     replace oq0 := oq0.next bb
     replace rg := rg.next bb
     replace bl := next_trans bl bb
     replace bs := next_trans bs bb
     have zqv31 := bb.size
     clear bb
     go_wp2_with fail
     refine hK.out _ _ ?_ (fun hHeld => ?_)
     ·exact ⟨(show v31.cell? ⟨w.heap.size, 0, none⟩ = some (v0_0) from (rA0.next bl).cell 0), (show v31.cell? ⟨w.heap.size, 1, none⟩ = some (v0_1) from (rA0.next bl).cell 1), (show v31.cell? ⟨w.heap.size + 1, 0, none⟩ = some (v1_0) from (rA1.next bl).cell 0), (show v31.cell? ⟨w.heap.size + 1, 1, none⟩ = some (v1_1) from (rA1.next bl).cell 1), (show v31.cell? ⟨w.heap.size + 1 + 1, 0, none⟩ = some (v2_0) from (rA2.next bl).cell 0)⟩
     clear hK K
     try simp only [Act.put, setIfInBounds_toArray, set_cons_zero, set_cons_succ, getElem_toArray, getElem_cons_zero, getElem_cons_succ]
     refine wpAnyH_ready (rs := [5]) (by kernel_rfl) (by simp) (AllReadyH.cons rfl (fun K hK => ?_) AllReadyH.nil)
     try simp only [Act.put, setIfInBounds_toArray, set_cons_zero, set_cons_succ, getElem_toArray, getElem_cons_zero, getElem_cons_succ]
     rw [if_pos (by rfl)]
     go_simp
     refine (toK_Subst _ d2 _ (s2.next bl) h2.out).mono ?_
     rintro e v32 ⟨q2A0, q2n0, q2c0, rfl, oq2, bb⟩
     replace oq0 := oq0.next bb
     replace rg := rg.next bb
     replace oq1 := oq1.next bb
     replace bl := next_trans bl bb
     replace bs := next_trans bs bb
     have zqv32 := bb.size
     clear bb
     go_wp2_with fail
     refine hK.out _ _ ?_ (fun hHeld => ?_)
     ·exact ⟨(show v32.cell? ⟨w.heap.size, 0, none⟩ = some (v0_0) from (rA0.next bl).cell 0), (show v32.cell? ⟨w.heap.size, 1, none⟩ = some (v0_1) from (rA0.next bl).cell 1), (show v32.cell? ⟨w.heap.size + 1, 0, none⟩ = some (v1_0) from (rA1.next bl).cell 0), (show v32.cell? ⟨w.heap.size + 1, 1, none⟩ = some (v1_1) from (rA1.next bl).cell 1), (show v32.cell? ⟨w.heap.size + 1 + 1, 0, none⟩ = some (v2_0) from (rA2.next bl).cell 0)⟩
     clear hK K
     try simp only [Act.put, setIfInBounds_toArray, set_cons_zero, set_cons_succ, getElem_toArray, getElem_cons_zero, getElem_cons_succ]
     refine wpAnyH_ready (rs := [6]) (by kernel_rfl) (by simp) (AllReadyH.cons rfl (fun K hK => ?_) AllReadyH.nil)
     try simp only [Act.put, setIfInBounds_toArray, set_cons_zero, set_cons_succ, getElem_toArray, getElem_cons_zero, getElem_cons_succ]
     rw [if_pos (by rfl)]
     go_simp
     refine (implWalkUnder _ _ _ _ _ d0 d1 d2 _ oq0.rd oq1.rd oq2.rd h0.out h1.out h2.out).mono ?_
     rintro e v33 ⟨hA0, hn0, hc0, hA1, hn1, hc1, he, o0, bb⟩
     rw [HV.out] at he
     rw [HY.out] at o0
     subst he
     replace oq0 := oq0.next bb
     replace rg := rg.next bb
     replace oq1 := oq1.next bb
     replace oq2 := oq2.next bb
     replace bl := next_trans bl bb
     replace bs := next_trans bs bb
     have zqv33 := bb.size
     clear bb
     clear oq0 oq1 oq2
     go_wp2_with fail
     refine hK.out _ _ ?_ (fun hHeld => ?_)
     ·exact ⟨(show v33.cell? ⟨w.heap.size, 0, none⟩ = some (v0_0) from (rA0.next bl).cell 0), (show v33.cell? ⟨w.heap.size, 1, none⟩ = some (v0_1) from (rA0.next bl).cell 1), (show v33.cell? ⟨w.heap.size + 1, 0, none⟩ = some (v1_0) from (rA1.next bl).cell 0), (show v33.cell? ⟨w.heap.size + 1, 1, none⟩ = some (v1_1) from (rA1.next bl).cell 1), (show v33.cell? ⟨w.heap.size + 1 + 1, 0, none⟩ = some (v2_0) from (rA2.next bl).cell 0)⟩
     clear hK K
     try simp only [Act.put, setIfInBounds_toArray, set_cons_zero, set_cons_succ, getElem_toArray, getElem_cons_zero, getElem_cons_succ]
     refine wpAnyH_take (i := 7) (v := ?_) rfl (by kernel_rfl) (by kernel_rfl) (by kernel_rfl) (fun _ _ _ h => h) (Or.inl ⟨by rfl, ?_⟩) (by assumption) ?_
     rotate_left 1
     ·(intro w0 hSw; (try dsimp only at hSw); go_simp; try with_reducible rfl)
     try simp only [Act.put, setIfInBounds_toArray, set_cons_zero, set_cons_succ, getElem_toArray, getElem_cons_zero, getElem_cons_succ]
     refine wpAnyH_take (i := 8) (v := ?_) rfl (by kernel_rfl) (by kernel_rfl) (by kernel_rfl) (fun _ _ _ h => h) (Or.inl ⟨by rfl, ?_⟩) (by assumption) ?_
     rotate_left 1
     ·(intro w0 hSw; (try dsimp only at hSw); go_simp; try with_reducible rfl)
     try simp only [Act.put, setIfInBounds_toArray, set_cons_zero, set_cons_succ, getElem_toArray, getElem_cons_zero, getElem_cons_succ]
     refine wpAnyH_take (i := 9) (v := ?_) rfl (by kernel_rfl) (by kernel_rfl) (by kernel_rfl) (fun _ _ _ h => h) (Or.inl ⟨by rfl, ?_⟩) (by assumption) ?_
     rotate_left 1
     ·(intro w0 hSw; (try dsimp only at hSw); go_simp; try with_reducible rfl)
     try simp only [Act.put, setIfInBounds_toArray, set_cons_zero, set_cons_succ, getElem_toArray, getElem_cons_zero, getElem_cons_succ]
     have cg0 : (v33).cell? ⟨v20.heap.size, 0, none⟩ = some (.slice none 0 0) := (rg).cell 0
     have fg0 : (v33).frozen? ⟨v20.heap.size, 0, none⟩ = false := (rg).free 0
     have cg1 : ((v33).setCell ⟨v20.heap.size, 0, none⟩ (.slice hA0 hn0 hc0)).cell? ⟨v20.heap.size, 1, none⟩ = some (.slice none 0 0) := (Row.put (rg) 0 (.slice hA0 hn0 hc0)).cell 1
     have fg1 : ((v33).setCell ⟨v20.heap.size, 0, none⟩ (.slice hA0 hn0 hc0)).frozen? ⟨v20.heap.size, 1, none⟩ = false := (Row.put (rg) 0 (.slice hA0 hn0 hc0)).free 1
     have hne0 : v20.heap.size ≠ w.heap.size := by omega
     have hne1 : v20.heap.size ≠ w.heap.size + 1 := by omega
     have hne2 : v20.heap.size ≠ w.heap.size + 1 + 1 := by omega
     refine wpAnyH_ready (rs := [11]) (by kernel_rfl) (by simp) (AllReadyH.cons rfl (fun K hK => ?_) AllReadyH.nil)
     try simp only [Act.put, setIfInBounds_toArray, set_cons_zero, set_cons_succ, getElem_toArray, getElem_cons_zero, getElem_cons_succ]
     rw [if_pos (by rfl)]
     go_simp
     refine hK.out _ _ ?_ (fun hHeld => ?_)
     ·exact ⟨(far_cell hne0 (far_cell hne0 (show v33.cell? ⟨w.heap.size, 0, none⟩ = some (v0_0) from (rA0.next bl).cell 0))), (far_cell hne0 (far_cell hne0 (show v33.cell? ⟨w.heap.size, 1, none⟩ = some (v0_1) from (rA0.next bl).cell 1))), (far_cell hne1 (far_cell hne1 (show v33.cell? ⟨w.heap.size + 1, 0, none⟩ = some (v1_0) from (rA1.next bl).cell 0))), (far_cell hne1 (far_cell hne1 (show v33.cell? ⟨w.heap.size + 1, 1, none⟩ = some (v1_1) from (rA1.next bl).cell 1))), (far_cell hne2 (far_cell hne2 (show v33.cell? ⟨w.heap.size + 1 + 1, 0, none⟩ = some (v2_0) from (rA2.next bl).cell 0)))⟩
     clear hK K
     try simp only [Act.put, setIfInBounds_toArray, set_cons_zero, set_cons_succ, getElem_toArray, getElem_cons_zero, getElem_cons_succ]
     refine wpAnyH_take (i := 12) (v := ?_) rfl (by kernel_rfl) (by kernel_rfl) (by kernel_rfl) (fun _ _ _ h => h) (Or.inl ⟨by rfl, ?_⟩) (by assumption) ?_
     rotate_left 1
     ·(intro w0 hSw; (try dsimp only at hSw); go_simp; try with_reducible rfl)
     try simp only [Act.put, setIfInBounds_toArray, set_cons_zero, set_cons_succ, getElem_toArray, getElem_cons_zero, getElem_cons_succ]
     refine wpAnyH_done (by kernel_rfl) ?_ _
     have F := boxed_put (W := w25.drew) o0 rg (by omega) bs hgB
     clear cg0 fg0 cg1 fg1 bl rg o0 bs hne0 hne1 hne2
     go_wp2_with fail
     go_meet
     exact ⟨F, rfl⟩
   ·skip
    try simp only [Act.put, setIfInBounds_toArray, set_cons_zero, set_cons_succ, getElem_toArray, getElem_cons_zero, getElem_cons_succ]
    rw [if_pos (by rfl)]
    go_simp
    obtain ⟨v34, hw⟩ : ∃ W, W = (w25.alloc (.cells #[.slice none 0 0, .slice none 0 0] 39)).drew := ⟨_, rfl⟩
    rw [← hw]
    have rg : Row v34 w25.heap.size 39 #[.slice none 0 0, .slice none 0 0] := by rw [hw]; exact Row.new _ _ _
    have bb : Below w25.drew.heap.size w25.drew v34 := by rw [hw]; exact (Below.refl _ _).alloc (Nat.le_refl _) _
    have ygg : w25.heap.size < v34.heap.size := rg.lt
    have hgB : w25.drew.heap.size ≤ w25.heap.size := bs.size
    clear hw
    replace bl := next_trans bl bb
    replace bs := next_trans bs bb
    have zqv34 := bb.size
    clear bb
    refine hK.out _ _ ?_ (fun hHeld => ?_)
    ·exact ⟨(show v34.cell? ⟨w.heap.size, 0, none⟩ = some (v0_0) from (rA0.next bl).cell 0), (show v34.cell? ⟨w.heap.size, 1, none⟩ = some (v0_1) from (rA0.next bl).cell 1), (show v34.cell? ⟨w.heap.size + 1, 0, none⟩ = some (v1_0) from (rA1.next bl).cell 0), (show v34.cell? ⟨w.heap.size + 1, 1, none⟩ = some (v1_1) from (rA1.next bl).cell 1), (show v34.cell? ⟨w.heap.size + 1 + 1, 0, none⟩ = some (v2_0) from (rA2.next bl).cell 0)⟩
    clear hK K
    try simp only [Act.put, setIfInBounds_toArray, set_cons_zero, set_cons_succ, getElem_toArray, getElem_cons_zero, getElem_cons_succ]
    refine wpAnyH_ready (rs := [1]) (by kernel_rfl) (by simp) (AllReadyH.cons rfl (fun K hK => ?_) AllReadyH.nil)
    try simp only [Act.put, setIfInBounds_toArray, set_cons_zero, set_cons_succ, getElem_toArray, getElem_cons_zero, getElem_cons_succ]
    rw [if_pos (by rfl)]
    go_simp
    refine (toK_System _ _ d0 _ (s0.next bl) h0.out).mono ?_
    rintro e v35 ⟨q0A0, q0n0, q0c0, q0A1, q0n1, q0c1, rfl, oq0, bb⟩
    replace rg := rg.next bb
    replace bl := next_trans bl bb
    replace bs := next_trans bs bb
    have zqv35 := bb.size
    clear bb
    go_wp2_with fail
    refine hK.out _ _ ?_ (fun hHeld => ?_)
    ·exact ⟨(show v35.cell? ⟨w.heap.size, 0, none⟩ = some (v0_0) from (rA0.next bl).cell 0), (show v35.cell? ⟨w.heap.size, 1, none⟩ = some (v0_1) from (rA0.next bl).cell 1), (show v35.cell? ⟨w.heap.size + 1, 0, none⟩ = some (v1_0) from (rA1.next bl).cell 0), (show v35.cell? ⟨w.heap.size + 1, 1, none⟩ = some (v1_1) from (rA1.next bl).cell 1), (show v35.cell? ⟨w.heap.size + 1 + 1, 0, none⟩ = some (v2_0) from (rA2.next bl).cell 0)⟩
    clear hK K
    try simp only [Act.put, setIfInBounds_toArray, set_cons_zero, set_cons_succ, getElem_toArray, getElem_cons_zero, getElem_cons_succ]
    refine wpAnyH_ready (rs := [3]) (by kernel_rfl) (by simp) (AllReadyH.cons rfl (fun K hK => ?_) AllReadyH.nil)
    try simp only [Act.put, setIfInBounds_toArray, set_cons_zero, set_cons_succ, getElem_toArray, getElem_cons_zero, getElem_cons_succ]
    rw [if_pos (by rfl)]
    go_simp
    refine (toK_Walk _ _ d1 _ (s1.next bl) h1.out).mono ?_
    rintro e v36 ⟨q1A0, q1n0, q1c0, q1A1, q1n1, q1c1, rfl, oq1, bb⟩
    replace rg := rg.next bb
    replace oq0 := oq0.next bb
    replace bl := next_trans bl bb
    replace bs := next_trans bs bb
    have zqv36 := bb.size
    clear bb
    go_wp2_with fail
    refine hK.out _ _ ?_ (fun hHeld => ?_)
    ·exact ⟨(show v36.cell? ⟨w.heap.size, 0, none⟩ = some (v0_0) from (rA0.next bl).cell 0), (show v36.cell? ⟨w.heap.size, 1, none⟩ = some (v0_1) from (rA0.next bl).cell 1), (show v36.cell? ⟨w.heap.size + 1, 0, none⟩ = some (v1_0) from (rA1.next bl).cell 0), (show v36.cell? ⟨w.heap.size + 1, 1, none⟩ = some (v1_1) from (rA1.next bl).cell 1), (show v36.cell? ⟨w.heap.size + 1 + 1, 0, none⟩ = some (v2_0) from (rA2.next bl).cell 0)⟩
    clear hK K
    try simp only [Act.put, setIfInBounds_toArray, set_cons_zero, set_cons_succ, getElem_toArray, getElem_cons_zero, getElem_cons_succ]
    refine wpAnyH_ready (rs := [5]) (by kernel_rfl) (by simp) (AllReadyH.cons rfl (fun K hK => ?_) AllReadyH.nil)
    try simp only [Act.put, setIfInBounds_toArray, set_cons_zero, set_cons_succ, getElem_toArray, getElem_cons_zero, getElem_cons_succ]
    rw [if_pos (by rfl)]
    go_simp
    refine (toK_Subst _ d2 _ (s2.next bl) h2.out).mono ?_
    rintro e v37 ⟨q2A0, q2n0, q2c0, rfl, oq2, bb⟩
    replace rg := rg.next bb
    replace oq0 := oq0.next bb
    replace oq1 := oq1.next bb
    replace bl := next_trans bl bb
    replace bs := next_trans bs bb
    have zqv37 := bb.size
    clear bb
    go_wp2_with fail
    refine hK.out _ _ ?_ (fun hHeld => ?_)
    ·exact ⟨(show v37.cell? ⟨w.heap.size, 0, none⟩ = some (v0_0) from (rA0.next bl).cell 0), (show v37.cell? ⟨w.heap.size, 1, none⟩ = some (v0_1) from (rA0.next bl).cell 1), (show v37.cell? ⟨w.heap.size + 1, 0, none⟩ = some (v1_0) from (rA1.next bl).cell 0), (show v37.cell? ⟨w.heap.size + 1, 1, none⟩ = some (v1_1) from (rA1.next bl).cell 1), (show v37.cell? ⟨w.heap.size + 1 + 1, 0, none⟩ = some (v2_0) from (rA2.next bl).cell 0)⟩
    clear hK K
    try simp only [Act.put, setIfInBounds_toArray, set_cons_zero, set_cons_succ, getElem_toArray, getElem_cons_zero, getElem_cons_succ]
    refine wpAnyH_ready (rs := [6]) (by kernel_rfl) (by simp) (AllReadyH.cons rfl (fun K hK => ?_) AllReadyH.nil)
    try simp only [Act.put, setIfInBounds_toArray, set_cons_zero, set_cons_succ, getElem_toArray, getElem_cons_zero, getElem_cons_succ]
    rw [if_pos (by rfl)]
    go_simp
    refine (implWalkUnder _ _ _ _ _ d0 d1 d2 _ oq0.rd oq1.rd oq2.rd h0.out h1.out h2.out).mono ?_
    rintro e v38 ⟨hA0, hn0, hc0, hA1, hn1, hc1, he, o0, bb⟩
    rw [HV.out] at he
    rw [HY.out] at o0
    subst he
    replace rg := rg.next bb
    replace oq0 := oq0.next bb
    replace oq1 := oq1.next bb
    replace oq2 := oq2.next bb
    replace bl := next_trans bl bb
    replace bs := next_trans bs bb
    have zqv38 := bb.size
    clear bb
    clear oq0 oq1 oq2
    go_wp2_with fail
    refine hK.out _ _ ?_ (fun hHeld => ?_)
    ·exact ⟨(show v38.cell? ⟨w.heap.size, 0, none⟩ = some (v0_0) from (rA0.next bl).cell 0), (show v38.cell? ⟨w.heap.size, 1, none⟩ = some (v0_1) from (rA0.next bl).cell 1), (show v38.cell? ⟨w.heap.size + 1, 0, none⟩ = some (v1_0) from (rA1.next bl).cell 0), (show v38.cell? ⟨w.heap.size + 1, 1, none⟩ = some (v1_1) from (rA1.next bl).cell 1), (show v38.cell? ⟨w.heap.size + 1 + 1, 0, none⟩ = some (v2_0) from (rA2.next bl).cell 0)⟩
    clear hK K
    try simp only [Act.put, setIfInBounds_toArray, set_cons_zero, set_cons_succ, getElem_toArray, getElem_cons_zero, getElem_cons_succ]
    refine wpAnyH_take (i := 7) (v := ?_) rfl (by kernel_rfl) (by kernel_rfl) (by kernel_rfl) (fun _ _ _ h => h) (Or.inl ⟨by rfl, ?_⟩) (by assumption) ?_
    rotate_left 1
    ·(intro w0 hSw; (try dsimp only at hSw); go_simp; try with_reducible rfl)
    try simp only [Act.put, setIfInBounds_toArray, set_cons_zero, set_cons_succ, getElem_toArray, getElem_cons_zero, getElem_cons_succ]
    refine wpAnyH_take (i := 8) (v := ?_) rfl (by kernel_rfl) (by kernel_rfl) (by kernel_rfl) (fun _ _ _ h => h) (Or.inl ⟨by rfl, ?_⟩) (by assumption) ?_
    rotate_left 1
    ·(intro w0 hSw; (try dsimp only at hSw); go_simp; try with_reducible rfl)
    try simp only [Act.put, setIfInBounds_toArray, set_cons_zero, set_cons_succ, getElem_toArray, getElem_cons_zero, getElem_cons_succ]
    refine wpAnyH_take (i := 9) (v := ?_) rfl (by kernel_rfl) (by kernel_rfl) (by kernel_rfl) (fun _ _ _ h => h) (Or.inl ⟨by rfl, ?_⟩) (by assumption) ?_
    rotate_left 1
    ·(intro w0 hSw; (try dsimp only at hSw); go_simp; try with_reducible rfl)
    try simp only [Act.put, setIfInBounds_toArray, set_cons_zero, set_cons_succ, getElem_toArray, getElem_cons_zero, getElem_cons_succ]
    have cg0 : (v38).cell? ⟨w25.heap.size, 0, none⟩ = some (.slice none 0 0) := (rg).cell 0
    have fg0 : (v38).frozen? ⟨w25.heap.size, 0, none⟩ = false := (rg).free 0
    have cg1 : ((v38).setCell ⟨w25.heap.size, 0, none⟩ (.slice hA0 hn0 hc0)).cell? ⟨w25.heap.size, 1, none⟩ = some (.slice none 0 0) := (Row.put (rg) 0 (.slice hA0 hn0 hc0)).cell 1
    have fg1 : ((v38).setCell ⟨w25.heap.size, 0, none⟩ (.slice hA0 hn0 hc0)).frozen? ⟨w25.heap.size, 1, none⟩ = false := (Row.put (rg) 0 (.slice hA0 hn0 hc0)).free 1
    have hne0 : w25.heap.size ≠ w.heap.size := by omega
    have hne1 : w25.heap.size ≠ w.heap.size + 1 := by omega
    have hne2 : w25.heap.size ≠ w.heap.size + 1 + 1 := by omega
    refine wpAnyH_ready (rs := [11]) (by kernel_rfl) (by simp) (AllReadyH.cons rfl (fun K hK => ?_) AllReadyH.nil)
    try simp only [Act.put, setIfInBounds_toArray, set_cons_zero, set_cons_succ, getElem_toArray, getElem_cons_zero, getElem_cons_succ]
    rw [if_pos (by rfl)]
    go_simp
    refine hK.out _ _ ?_ (fun hHeld => ?_)
    ·exact ⟨(far_cell hne0 (far_cell hne0 (show v38.cell? ⟨w.heap.size, 0, none⟩ = some (v0_0) from (rA0.next bl).cell 0))), (far_cell hne0 (far_cell hne0 (show v38.cell? ⟨w.heap.size, 1, none⟩ = some (v0_1) from (rA0.next bl).cell 1))), (far_cell hne1 (far_cell hne1 (show v38.cell? ⟨w.heap.size + 1, 0, none⟩ = some (v1_0) from (rA1.next bl).cell 0))), (far_cell hne1 (far_cell hne1 (show v38.cell? ⟨w.heap.size + 1, 1, none⟩ = some (v1_1) from (rA1.next bl).cell 1))), (far_cell hne2 (far_cell hne2 (show v38.cell? ⟨w.heap.size + 1 + 1, 0, none⟩ = some (v2_0) from (rA2.next bl).cell 0)))⟩
    clear hK K
    try simp only [Act.put, setIfInBounds_toArray, set_cons_zero, set_cons_succ, getElem_toArray, getElem_cons_zero, getElem_cons_succ]
    refine wpAnyH_take (i := 12) (v := ?_) rfl (by kernel_rfl) (by kernel_rfl) (by kernel_rfl) (fun _ _ _ h => h) (Or.inl ⟨by rfl, ?_⟩) (by assumption) ?_
    rotate_left 1
    ·(intro w0 hSw; (try dsimp only at hSw); go_simp; try with_reducible rfl)
    try simp only [Act.put, setIfInBounds_toArray, set_cons_zero, set_cons_succ, getElem_toArray, getElem_cons_zero, getElem_cons_succ]
    refine wpAnyH_done (by kernel_rfl) ?_ _
    have F := boxed_put (W := w25.drew) o0 rg (by omega) bs hgB
    clear cg0 fg0 cg1 fg1 bl rg o0 bs hne0 hne1 hne2
    go_wp2_with fail
    go_meet
    exact ⟨F, rfl⟩
  case rest =>
   rename World => w26
   obtain ⟨⟨bh, hA0, hn0, hc0, hA1, hn1, hc1, rfl, rh, sh, bb⟩, rfl⟩ := hcut
   replace rg := rg.next bb
   replace om := om.next bb
   replace bel := next_trans bel bb
   replace belw := next_trans belw bb
   have zw26 := bb.size
   clear bb
   have belh := Below.refl w26.heap.size w26
   have cA0_0 : w26.cell? ⟨w.heap.size, 0, none⟩ = some (v0_0) := (rA0.next bel).cell 0
   have cA0_1 : w26.cell? ⟨w.heap.size, 1, none⟩ = some (v0_1) := (rA0.next bel).cell 1
   have cA1_0 : w26.cell? ⟨w.heap.size + 1, 0, none⟩ = some (v1_0) := (rA1.next bel).cell 0
   have cA1_1 : w26.cell? ⟨w.heap.size + 1, 1, none⟩ = some (v1_1) := (rA1.next bel).cell 1
   have cA2_0 : w26.cell? ⟨w.heap.size + 1 + 1, 0, none⟩ = some (v2_0) := (rA2.next bel).cell 0
   have cw_0 : w26.cell? ⟨bw, 0, none⟩ = some (.slice wA0 wn0 wc0) := (rw.next belw).cell 0
   have cw_1 : w26.cell? ⟨bw, 1, none⟩ = some (.slice wA1 wn1 wc1) := (rw.next belw).cell 1
   have cg_0 : w26.cell? ⟨w11.heap.size, 0, none⟩ = some (.slice gA0 gn0 gc0) := (rg).cell 0
   have cg_1 : w26.cell? ⟨w11.heap.size, 1, none⟩ = some (.slice gA1 gn1 gc1) := (rg).cell 1
   have ch_0 : w26.cell? ⟨bh, 0, none⟩ = some (.slice hA0 hn0 hc0) := (rh.next belh).cell 0
   have ch_1 : w26.cell? ⟨bh, 1, none⟩ = some (.slice hA1 hn1 hc1) := (rh.next belh).cell 1
   go_wp2_with fail
   refine (eqK_Walk _ _ _ _ ys _ (sh.next belh) (sw.next belw) hlen.out).mono ?_
   rintro e w27 ⟨rfl, bb⟩
   replace rg := rg.next bb
   replace om := om.next bb
   replace bel := next_trans bel bb
   replace belw := next_trans belw bb
   replace belh := next_trans belh bb
   have zw27 := bb.size
   clear bb
   clear cA0_0 cA0_1 cA1_0 cA1_1 cA2_0 cw_0 cw_1 cg_0 cg_1 ch_0 ch_1
   have cA0_0 : w27.cell? ⟨w.heap.size, 0, none⟩ = some (v0_0) := (rA0.next bel).cell 0
   have cA0_1 : w27.cell? ⟨w.heap.size, 1, none⟩ = some (v0_1) := (rA0.next bel).cell 1
   have cA1_0 : w27.cell? ⟨w.heap.size + 1, 0, none⟩ = some (v1_0) := (rA1.next bel).cell 0
   have cA1_1 : w27.cell? ⟨w.heap.size + 1, 1, none⟩ = some (v1_1) := (rA1.next bel).cell 1
   have cA2_0 : w27.cell? ⟨w.heap.size + 1 + 1, 0, none⟩ = some (v2_0) := (rA2.next bel).cell 0
   have cw_0 : w27.cell? ⟨bw, 0, none⟩ = some (.slice wA0 wn0 wc0) := (rw.next belw).cell 0
   have cw_1 : w27.cell? ⟨bw, 1, none⟩ = some (.slice wA1 wn1 wc1) := (rw.next belw).cell 1
   have cg_0 : w27.cell? ⟨w11.heap.size, 0, none⟩ = some (.slice gA0 gn0 gc0) := (rg).cell 0
   have cg_1 : w27.cell? ⟨w11.heap.size, 1, none⟩ = some (.slice gA1 gn1 gc1) := (rg).cell 1
   have ch_0 : w27.cell? ⟨bh, 0, none⟩ = some (.slice hA0 hn0 hc0) := (rh.next belh).cell 0
   have ch_1 : w27.cell? ⟨bh, 1, none⟩ = some (.slice hA1 hn1 hc1) := (rh.next belh).cell 1
   go_wp2_with fail
   refine (heldK_Walk _ _ ys 1 _ om.rd hlen.out (by omega) (by rw [HCG.out]; omega)).mono ?_
   rintro e w28 ⟨he, bb⟩
   rw [HCG.out] at he
   subst he
   replace rg := rg.next bb
   replace om := om.next bb
   replace bel := next_trans bel bb
   replace belw := next_trans belw bb
   replace belh := next_trans belh bb
   have zw28 := bb.size
   clear bb
   clear cA0_0 cA0_1 cA1_0 cA1_1 cA2_0 cw_0 cw_1 cg_0 cg_1 ch_0 ch_1
   have cA0_0 : w28.cell? ⟨w.heap.size, 0, none⟩ = some (v0_0) := (rA0.next bel).cell 0
   have cA0_1 : w28.cell? ⟨w.heap.size, 1, none⟩ = some (v0_1) := (rA0.next bel).cell 1
   have cA1_0 : w28.cell? ⟨w.heap.size + 1, 0, none⟩ = some (v1_0) := (rA1.next bel).cell 0
   have cA1_1 : w28.cell? ⟨w.heap.size + 1, 1, none⟩ = some (v1_1) := (rA1.next bel).cell 1
   have cA2_0 : w28.cell? ⟨w.heap.size + 1 + 1, 0, none⟩ = some (v2_0) := (rA2.next bel).cell 0
   have cw_0 : w28.cell? ⟨bw, 0, none⟩ = some (.slice wA0 wn0 wc0) := (rw.next belw).cell 0
   have cw_1 : w28.cell? ⟨bw, 1, none⟩ = some (.slice wA1 wn1 wc1) := (rw.next belw).cell 1
   have cg_0 : w28.cell? ⟨w11.heap.size, 0, none⟩ = some (.slice gA0 gn0 gc0) := (rg).cell 0
   have cg_1 : w28.cell? ⟨w11.heap.size, 1, none⟩ = some (.slice gA1 gn1 gc1) := (rg).cell 1
   have ch_0 : w28.cell? ⟨bh, 0, none⟩ = some (.slice hA0 hn0 hc0) := (rh.next belh).cell 0
   have ch_1 : w28.cell? ⟨bh, 1, none⟩ = some (.slice hA1 hn1 hc1) := (rh.next belh).cell 1
   have F := hid (bW.trans (bel.mono bW.size))
   clear bel belw belh rg om bW cA0_0 cA0_1 cA1_0 cA1_1 cA2_0 cw_0 cw_1 cg_0 cg_1 ch_0 ch_1
   go_wp2
   go_ret
   exact ⟨rfl, F.out⟩
end wWalkUnder
end
end Go.Proofs.YtblhmplpcdcejaaGreat
