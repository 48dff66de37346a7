/-
  MERGED: my texts WRenamedRule, OpenX, one behind the other, as they are. By an AI agent.
-/
import Derived.Test.YtdkjafjphgcbjaaMFnExactRenamedRule4
import Derived.Deep.RegionHeld3
import Derived.Deep.DeepCutAuto
import Derived.ProofKit
import Derived.OpenShut
import Derived.Lib.SmallJoins
import Derived.Deep.Slices
import Derived.Deep.Fields
section
/-
  THE WALK of laws.FnExactRenamedRule: it returns true, whatever the arguments, and writes nothing that was there. Conditions: the arguments read as data. Written by a program of mine (gen_x.py). By an AI agent.
-/
namespace Go.Proofs.Ytdkjafjphgcbjaa.wRenamedRule
open Go.RowKit Go.Proofs.Ytdkjafjphgcbjaa.base Go.Proofs.Ytdkjafjphgcbjaa.ints Go.Proofs.Ytdkjafjphgcbjaa.sig Go.Proofs.Ytdkjafjphgcbjaa.cursor Go.Proofs.Ytdkjafjphgcbjaa.marks Go.Proofs.Ytdkjafjphgcbjaa.app Go.Proofs.Ytdkjafjphgcbjaa.sym Go.Proofs.Ytdkjafjphgcbjaa.appAt Go.Proofs.Ytdkjafjphgcbjaa.segs Go.Proofs.Ytdkjafjphgcbjaa.segsHelp Go.Proofs.Ytdkjafjphgcbjaa.segsMark Go.Proofs.Ytdkjafjphgcbjaa.kinds Go.Proofs.Ytdkjafjphgcbjaa.shape Go.Proofs.Ytdkjafjphgcbjaa.varsOf Go.Proofs.Ytdkjafjphgcbjaa.kindsR Go.Proofs.Ytdkjafjphgcbjaa.ruleMath Go.Proofs.Ytdkjafjphgcbjaa.ruleSpec Go.Proofs.Ytdkjafjphgcbjaa.ruleImpl
set_option maxRecDepth 100000

/-- a variable that holds a result: its box, and what it reads as -/
def Boxed (W : World) (F : Dat sRule) (p : Value) (wx : World) : Prop := ∃ b rA0 rn0 rc0 rA1 rn1 rc1, p = .pointer (some ⟨b, 0, none⟩) ∧ Row wx b 35 #[.slice rA0 rn0 rc0, .slice rA1 rn1 rc1] ∧ Rd wx wx.heap.size sRule [.slice rA0 rn0 rc0, .slice rA1 rn1 rc1] F ∧ Below W.heap.size W wx
theorem boxed_put {W w : World} {F : Dat sRule} {rA0 rA1 : Option Addr} {rn0 rc0 rn1 rc1 : Nat} {g lo hi : Nat} (h : Owned w lo hi sRule [.slice rA0 rn0 rc0, .slice rA1 rn1 rc1] F) (hr : Row w g 35 #[.slice none 0 0, .slice none 0 0]) (hg : g < lo ∨ hi ≤ g) (hb : Below W.heap.size W w) (hB : W.heap.size ≤ g) :
    Boxed W F (.pointer (some ⟨g, 0, none⟩)) ((w.setCell ⟨g, 0, none⟩ (.slice rA0 rn0 rc0)).setCell ⟨g, 1, none⟩ (.slice rA1 rn1 rc1)) :=
  ⟨g, rA0, rn0, rc0, rA1, rn1, rc1, rfl, (Row.put (Row.put hr 0 (.slice rA0 rn0 rc0)) 1 (.slice rA1 rn1 rc1)), ((Owned.put (g := g) (i := 1) (u := .slice rA1 rn1 rc1) (Owned.put (g := g) (i := 0) (u := .slice rA0 rn0 rc0) h hg) hg)).rd, (Below.setCell (Below.setCell hb hB _) hB _)⟩
theorem far_cell {w : World} {p a : Addr} {u v : Value} (hne : p.block ≠ a.block) (h : w.cell? a = some v) : (w.setCell p u).cell? a = some v := (World.cell?_setCell_far w p a u hne).trans h

set_option maxHeartbeats 8000000 in
theorem law (v0_0 : Value) (d0 : Dat sSig) (v1_0 v1_1 : Value) (d1 : Dat sRule) (w : World) (s0 : Rd w w.heap.size sSig [v0_0] d0) (s1 : Rd w w.heap.size sRule [v1_0, v1_1] d1) :
    Calls Try.prog 14 #[.agg #[v0_0], .agg #[v1_0, v1_1]] w (Fine w) := by
  obtain ⟨W, hW⟩ : ∃ W, W = (w.alloc (.cells #[v0_0] 40)).alloc (.cells #[v1_0, v1_1] 41) := ⟨_, rfl⟩
  have rA0 : Row W (w.heap.size) 40 #[v0_0] := by rw [hW]; have := (Row.new (w) 40 #[v0_0]).alloc (.cells #[v1_0, v1_1] 41); simpa using this
  have rA1 : Row W (w.heap.size + 1) 41 #[v1_0, v1_1] := by rw [hW]; have := Row.new (w.alloc (.cells #[v0_0] 40)) 41 #[v1_0, v1_1]; simpa using this
  have bW : Below w.heap.size w W := by rw [hW]; exact ((Below.refl w.heap.size w).alloc (by simp) (.cells #[v0_0] 40)).alloc (by simp) (.cells #[v1_0, v1_1] 41)
  have zA0 := rA0.lt
  have zA1 := rA1.lt
  replace s0 := s0.next bW
  replace s1 := s1.next bW
  have HW := Lib.hid hW
  clear hW
  obtain ⟨t0, ht0⟩ : ∃ z, sz sSig d0 = z := ⟨_, rfl⟩
  have HT0 := Lib.hid ht0
  clear ht0
  obtain ⟨t1, ht1⟩ : ∃ z, sz sRule d1 = z := ⟨_, rfl⟩
  have HT1 := Lib.hid ht1
  clear ht1
  go_enter Try.func14, Try.ntmps14
  go_wp2_with fail
  rw [← HW.out]
  clear HW
  have bel := Below.refl W.heap.size W
  have cA0_0 : W.cell? ⟨w.heap.size, 0, none⟩ = some (v0_0) := (rA0.next bel).cell 0
  have cA1_0 : W.cell? ⟨w.heap.size + 1, 0, none⟩ = some (v1_0) := (rA1.next bel).cell 0
  have cA1_1 : W.cell? ⟨w.heap.size + 1, 1, none⟩ = some (v1_1) := (rA1.next bel).cell 1
  refine (szK_Sig _ d0 (1048576) _ (s0.next bel) (by omega) (by omega)).mono ?_
  rintro e w1 ⟨he, bb⟩
  rw [HT0.out] at he
  replace bel := next_trans bel bb
  have zw1 := bb.size
  clear bb
  by_cases q0 : t0 ≤ 1048576
  case neg =>
    rw [if_pos (by omega)] at he
    subst he
    have F := Lib.hid (bW.trans (bel.mono bW.size))
    clear bel bW cA0_0 cA1_0 cA1_1
    go_wp2
    go_ret
    exact ⟨rfl, F.out⟩
  rw [if_neg (by omega)] at he
  subst he
  have h0 : Hid (sz sSig d0 ≤ 1048576) := Lib.hid (by rw [HT0.out]; omega)
  clear cA0_0 cA1_0 cA1_1
  have cA0_0 : w1.cell? ⟨w.heap.size, 0, none⟩ = some (v0_0) := (rA0.next bel).cell 0
  have cA1_0 : w1.cell? ⟨w.heap.size + 1, 0, none⟩ = some (v1_0) := (rA1.next bel).cell 0
  have cA1_1 : w1.cell? ⟨w.heap.size + 1, 1, none⟩ = some (v1_1) := (rA1.next bel).cell 1
  go_wp2_with fail
  refine (szK_Rule _ _ d1 (1048576 - (t0 : Int)) _ (s1.next bel) (by omega) (by omega)).mono ?_
  rintro e w2 ⟨he, bb⟩
  rw [HT1.out] at he
  replace bel := next_trans bel bb
  have zw2 := bb.size
  clear bb
  by_cases q1 : t0 + t1 ≤ 1048576
  case neg =>
    rw [if_pos (by omega)] at he
    subst he
    have F := Lib.hid (bW.trans (bel.mono bW.size))
    clear bel bW cA0_0 cA1_0 cA1_1
    go_wp2
    go_ret
    exact ⟨rfl, F.out⟩
  rw [if_neg (by omega)] at he
  subst he
  have h1 : Hid (sz sRule d1 ≤ 1048576) := Lib.hid (by rw [HT1.out]; omega)
  clear cA0_0 cA1_0 cA1_1
  have cA0_0 : w2.cell? ⟨w.heap.size, 0, none⟩ = some (v0_0) := (rA0.next bel).cell 0
  have cA1_0 : w2.cell? ⟨w.heap.size + 1, 0, none⟩ = some (v1_0) := (rA1.next bel).cell 0
  have cA1_1 : w2.cell? ⟨w.heap.size + 1, 1, none⟩ = some (v1_1) := (rA1.next bel).cell 1
  have hlen : sz sRule (renRI d0 d1) ≤ 1048576 := renRI_len h1.out
  obtain ⟨ys, hys⟩ : ∃ ys, renRI d0 d1 = ys := ⟨_, rfl⟩
  rw [hys] at hlen
  have HY := Lib.hid hys
  clear hys
  replace hlen := Lib.hid hlen
  obtain ⟨cg, hcg⟩ : ∃ z, cntv sRule ys = z := ⟨_, rfl⟩
  have hcG : cg ≤ 2 * 1048576 := by have j1 := cntv_le sRule ys; have j2 := hlen.out; have j3 : wd sRule = 2 := rfl; rw [hcg, j3] at j1; omega
  have HCG := Lib.hid hcg
  clear hcg
  obtain ⟨k0, hk0⟩ : ∃ z, cntv sSig d0 = z := ⟨_, rfl⟩
  have hK0 : k0 ≤ 1 * 1048576 := by have j1 := cntv_le sSig d0; have j2 := h0.out; have j3 : wd sSig = 1 := rfl; rw [hk0, j3] at j1; omega
  have HK0 := Lib.hid hk0
  clear hk0
  obtain ⟨k1, hk1⟩ : ∃ z, cntv sRule d1 = z := ⟨_, rfl⟩
  have hK1 : k1 ≤ 2 * 1048576 := by have j1 := cntv_le sRule d1; have j2 := h1.out; have j3 : wd sRule = 2 := rfl; rw [hk1, j3] at j1; omega
  have HK1 := Lib.hid hk1
  clear hk1
  go_upto_region 8 with (fail)
  replace bel := bel.drew
  have zdw2 := (drew_below w2).size
  go_cut [6] (fun s6 wx => Boxed (w2.drew) ys s6 wx)
  case first =>
    have bs := Below.refl (w2.drew).heap.size (w2.drew)
    have bl := bel
    have zst := bl.size
    have c0S := Lib.hid (show w2.drew.cell? ⟨w.heap.size, 0, none⟩ = some (v0_0) ∧ w2.drew.cell? ⟨w.heap.size + 1, 0, none⟩ = some (v1_0) ∧ w2.drew.cell? ⟨w.heap.size + 1, 1, none⟩ = some (v1_1) from ⟨(show w2.drew.cell? ⟨w.heap.size, 0, none⟩ = some (v0_0) from (rA0.next bl).cell 0), (show w2.drew.cell? ⟨w.heap.size + 1, 0, none⟩ = some (v1_0) from (rA1.next bl).cell 0), (show w2.drew.cell? ⟨w.heap.size + 1, 1, none⟩ = some (v1_1) from (rA1.next bl).cell 1)⟩)
    clear bel cA0_0 cA1_0 cA1_1
    refine wp_region_held_drew (S := fun w' => w'.cell? ⟨w.heap.size, 0, none⟩ = some (v0_0) ∧ w'.cell? ⟨w.heap.size + 1, 0, none⟩ = some (v1_0) ∧ w'.cell? ⟨w.heap.size + 1, 1, none⟩ = some (v1_1)) (by kernel_rfl) c0S.out (fun hHeld => ?_)
    refine wpAnyH_take (i := 0) (v := ?_) rfl (by kernel_rfl) (by kernel_rfl) (by kernel_rfl) (fun _ _ _ h => h) (Or.inl ⟨by rfl, ?_⟩) (by assumption) ?_
    rotate_left 1
    · (intro w0 hSw; (try dsimp only at hSw); go_simp; try with_reducible rfl)
    try simp only [Act.put, List.setIfInBounds_toArray, List.set_cons_zero, List.set_cons_succ, List.getElem_toArray, List.getElem_cons_zero, List.getElem_cons_succ]
    refine wpAnyH_take (i := 2) (v := ?_) rfl (by kernel_rfl) (by kernel_rfl) (by kernel_rfl) (fun _ _ _ h => h) (Or.inl ⟨by rfl, ?_⟩) (by assumption) ?_
    rotate_left 1
    · (intro w0 hSw; (try dsimp only at hSw); go_simp; try with_reducible rfl)
    try simp only [Act.put, List.setIfInBounds_toArray, List.set_cons_zero, List.set_cons_succ, List.getElem_toArray, List.getElem_cons_zero, List.getElem_cons_succ]
    refine wpAnyH_ready (rs := [1, 5]) (by kernel_rfl) (by simp) (AllReadyH.cons rfl (fun K hK => ?_) (AllReadyH.cons rfl (fun K hK => ?_) AllReadyH.nil))
    · skip
      try simp only [Act.put, List.setIfInBounds_toArray, List.set_cons_zero, List.set_cons_succ, List.getElem_toArray, List.getElem_cons_zero, List.getElem_cons_succ]
      rw [if_pos (by rfl)]
      go_simp
      refine (toK_Sig _ d0 _ (s0.next bl) h0.out).mono ?_
      rintro e v1 ⟨q0A0, q0n0, q0c0, rfl, oq0, bb⟩
      replace bl := next_trans bl bb
      replace bs := next_trans bs bb
      have zqv1 := bb.size
      clear bb
      go_wp2_with fail
      refine hK.out _ _ ?_ (fun hHeld => ?_)
      · exact ⟨(show v1.cell? ⟨w.heap.size, 0, none⟩ = some (v0_0) from (rA0.next bl).cell 0), (show v1.cell? ⟨w.heap.size + 1, 0, none⟩ = some (v1_0) from (rA1.next bl).cell 0), (show v1.cell? ⟨w.heap.size + 1, 1, none⟩ = some (v1_1) from (rA1.next bl).cell 1)⟩
      clear hK K
      try simp only [Act.put, List.setIfInBounds_toArray, List.set_cons_zero, List.set_cons_succ, List.getElem_toArray, List.getElem_cons_zero, List.getElem_cons_succ]
      refine wpAnyH_ready (rs := [3, 5]) (by kernel_rfl) (by simp) (AllReadyH.cons rfl (fun K hK => ?_) (AllReadyH.cons rfl (fun K hK => ?_) AllReadyH.nil))
      · skip
        try simp only [Act.put, List.setIfInBounds_toArray, List.set_cons_zero, List.set_cons_succ, List.getElem_toArray, List.getElem_cons_zero, List.getElem_cons_succ]
        rw [if_pos (by rfl)]
        go_simp
        refine (toK_Rule _ _ d1 _ (s1.next bl) h1.out).mono ?_
        rintro e v2 ⟨q1A0, q1n0, q1c0, q1A1, q1n1, q1c1, rfl, oq1, bb⟩
        replace oq0 := oq0.next bb
        replace bl := next_trans bl bb
        replace bs := next_trans bs bb
        have zqv2 := bb.size
        clear bb
        go_wp2_with fail
        refine hK.out _ _ ?_ (fun hHeld => ?_)
        · exact ⟨(show v2.cell? ⟨w.heap.size, 0, none⟩ = some (v0_0) from (rA0.next bl).cell 0), (show v2.cell? ⟨w.heap.size + 1, 0, none⟩ = some (v1_0) from (rA1.next bl).cell 0), (show v2.cell? ⟨w.heap.size + 1, 1, none⟩ = some (v1_1) from (rA1.next bl).cell 1)⟩
        clear hK K
        try simp only [Act.put, List.setIfInBounds_toArray, List.set_cons_zero, List.set_cons_succ, List.getElem_toArray, List.getElem_cons_zero, List.getElem_cons_succ]
        refine wpAnyH_ready (rs := [4, 5]) (by kernel_rfl) (by simp) (AllReadyH.cons rfl (fun K hK => ?_) (AllReadyH.cons rfl (fun K hK => ?_) AllReadyH.nil))
        · skip
          try simp only [Act.put, List.setIfInBounds_toArray, List.set_cons_zero, List.set_cons_succ, List.getElem_toArray, List.getElem_cons_zero, List.getElem_cons_succ]
          rw [if_pos (by rfl)]
          go_simp
          refine (specRenamedRule _ _ _ d0 d1 _ oq0.rd oq1.rd h0.out h1.out).mono ?_
          rintro e v3 ⟨wA0, wn0, wc0, wA1, wn1, wc1, he, o0, bb⟩
          rw [HY.out] at o0
          subst he
          replace oq0 := oq0.next bb
          replace oq1 := oq1.next bb
          replace bl := next_trans bl bb
          replace bs := next_trans bs bb
          have zqv3 := bb.size
          clear bb
          clear oq0 oq1
          go_wp2_with fail
          refine hK.out _ _ ?_ (fun hHeld => ?_)
          · exact ⟨(show v3.cell? ⟨w.heap.size, 0, none⟩ = some (v0_0) from (rA0.next bl).cell 0), (show v3.cell? ⟨w.heap.size + 1, 0, none⟩ = some (v1_0) from (rA1.next bl).cell 0), (show v3.cell? ⟨w.heap.size + 1, 1, none⟩ = some (v1_1) from (rA1.next bl).cell 1)⟩
          clear hK K
          try simp only [Act.put, List.setIfInBounds_toArray, List.set_cons_zero, List.set_cons_succ, List.getElem_toArray, List.getElem_cons_zero, List.getElem_cons_succ]
          refine wpAnyH_ready (rs := [5]) (by kernel_rfl) (by simp) (AllReadyH.cons rfl (fun K hK => ?_) AllReadyH.nil)
          try simp only [Act.put, List.setIfInBounds_toArray, List.set_cons_zero, List.set_cons_succ, List.getElem_toArray, List.getElem_cons_zero, List.getElem_cons_succ]
          rw [if_pos (by rfl)]
          go_simp
          obtain ⟨v4, hw⟩ : ∃ W, W = (v3.alloc (.cells #[.slice none 0 0, .slice none 0 0] 35)) := ⟨_, rfl⟩
          rw [← hw]
          have rg : Row v4 v3.heap.size 35 #[.slice none 0 0, .slice none 0 0] := by rw [hw]; exact Row.new _ _ _
          have bb : Below v3.heap.size v3 v4 := by rw [hw]; exact (Below.refl _ _).alloc (Nat.le_refl _) _
          have ygg : v3.heap.size < v4.heap.size := rg.lt
          have hgB : w2.drew.heap.size ≤ v3.heap.size := bs.size
          clear hw
          replace o0 := o0.next bb
          replace bl := next_trans bl bb
          replace bs := next_trans bs bb
          have zqv4 := bb.size
          clear bb
          refine hK.out _ _ ?_ (fun hHeld => ?_)
          · exact ⟨(show v4.cell? ⟨w.heap.size, 0, none⟩ = some (v0_0) from (rA0.next bl).cell 0), (show v4.cell? ⟨w.heap.size + 1, 0, none⟩ = some (v1_0) from (rA1.next bl).cell 0), (show v4.cell? ⟨w.heap.size + 1, 1, none⟩ = some (v1_1) from (rA1.next bl).cell 1)⟩
          clear hK K
          try simp only [Act.put, List.setIfInBounds_toArray, List.set_cons_zero, List.set_cons_succ, List.getElem_toArray, List.getElem_cons_zero, List.getElem_cons_succ]
          have cg0 : (v4).cell? ⟨v3.heap.size, 0, none⟩ = some (.slice none 0 0) := (rg).cell 0
          have fg0 : (v4).frozen? ⟨v3.heap.size, 0, none⟩ = false := (rg).free 0
          have cg1 : ((v4).setCell ⟨v3.heap.size, 0, none⟩ (.slice wA0 wn0 wc0)).cell? ⟨v3.heap.size, 1, none⟩ = some (.slice none 0 0) := (Row.put (rg) 0 (.slice wA0 wn0 wc0)).cell 1
          have fg1 : ((v4).setCell ⟨v3.heap.size, 0, none⟩ (.slice wA0 wn0 wc0)).frozen? ⟨v3.heap.size, 1, none⟩ = false := (Row.put (rg) 0 (.slice wA0 wn0 wc0)).free 1
          have hne0 : v3.heap.size ≠ w.heap.size := by omega
          have hne1 : v3.heap.size ≠ w.heap.size + 1 := by omega
          refine wpAnyH_ready (rs := [6]) (by kernel_rfl) (by simp) (AllReadyH.cons rfl (fun K hK => ?_) AllReadyH.nil)
          try simp only [Act.put, List.setIfInBounds_toArray, List.set_cons_zero, List.set_cons_succ, List.getElem_toArray, List.getElem_cons_zero, List.getElem_cons_succ]
          rw [if_pos (by rfl)]
          go_simp
          refine hK.out _ _ ?_ (fun hHeld => ?_)
          · exact ⟨(far_cell hne0 (far_cell hne0 (show v4.cell? ⟨w.heap.size, 0, none⟩ = some (v0_0) from (rA0.next bl).cell 0))), (far_cell hne1 (far_cell hne1 (show v4.cell? ⟨w.heap.size + 1, 0, none⟩ = some (v1_0) from (rA1.next bl).cell 0))), (far_cell hne1 (far_cell hne1 (show v4.cell? ⟨w.heap.size + 1, 1, none⟩ = some (v1_1) from (rA1.next bl).cell 1)))⟩
          clear hK K
          try simp only [Act.put, List.setIfInBounds_toArray, List.set_cons_zero, List.set_cons_succ, List.getElem_toArray, List.getElem_cons_zero, List.getElem_cons_succ]
          refine wpAnyH_done (by kernel_rfl) ?_ _
          have F := boxed_put (W := w2.drew) o0 rg (by omega) bs hgB
          clear cg0 fg0 cg1 fg1 bl rg o0 bs hne0 hne1
          go_wp2_with fail
          go_meet
          exact F
        · skip
          try simp only [Act.put, List.setIfInBounds_toArray, List.set_cons_zero, List.set_cons_succ, List.getElem_toArray, List.getElem_cons_zero, List.getElem_cons_succ]
          rw [if_pos (by rfl)]
          go_simp
          obtain ⟨v5, hw⟩ : ∃ W, W = (v2.alloc (.cells #[.slice none 0 0, .slice none 0 0] 35)) := ⟨_, rfl⟩
          rw [← hw]
          have rg : Row v5 v2.heap.size 35 #[.slice none 0 0, .slice none 0 0] := by rw [hw]; exact Row.new _ _ _
          have bb : Below v2.heap.size v2 v5 := by rw [hw]; exact (Below.refl _ _).alloc (Nat.le_refl _) _
          have ygg : v2.heap.size < v5.heap.size := rg.lt
          have hgB : w2.drew.heap.size ≤ v2.heap.size := bs.size
          clear hw
          replace oq0 := oq0.next bb
          replace oq1 := oq1.next bb
          replace bl := next_trans bl bb
          replace bs := next_trans bs bb
          have zqv5 := bb.size
          clear bb
          refine hK.out _ _ ?_ (fun hHeld => ?_)
          · exact ⟨(show v5.cell? ⟨w.heap.size, 0, none⟩ = some (v0_0) from (rA0.next bl).cell 0), (show v5.cell? ⟨w.heap.size + 1, 0, none⟩ = some (v1_0) from (rA1.next bl).cell 0), (show v5.cell? ⟨w.heap.size + 1, 1, none⟩ = some (v1_1) from (rA1.next bl).cell 1)⟩
          clear hK K
          try simp only [Act.put, List.setIfInBounds_toArray, List.set_cons_zero, List.set_cons_succ, List.getElem_toArray, List.getElem_cons_zero, List.getElem_cons_succ]
          refine wpAnyH_ready (rs := [4]) (by kernel_rfl) (by simp) (AllReadyH.cons rfl (fun K hK => ?_) AllReadyH.nil)
          try simp only [Act.put, List.setIfInBounds_toArray, List.set_cons_zero, List.set_cons_succ, List.getElem_toArray, List.getElem_cons_zero, List.getElem_cons_succ]
          rw [if_pos (by rfl)]
          go_simp
          refine (specRenamedRule _ _ _ d0 d1 _ oq0.rd oq1.rd h0.out h1.out).mono ?_
          rintro e v6 ⟨wA0, wn0, wc0, wA1, wn1, wc1, he, o0, bb⟩
          rw [HY.out] at o0
          subst he
          replace oq0 := oq0.next bb
          replace oq1 := oq1.next bb
          replace rg := rg.next bb
          replace bl := next_trans bl bb
          replace bs := next_trans bs bb
          have zqv6 := bb.size
          clear bb
          clear oq0 oq1
          go_wp2_with fail
          refine hK.out _ _ ?_ (fun hHeld => ?_)
          · exact ⟨(show v6.cell? ⟨w.heap.size, 0, none⟩ = some (v0_0) from (rA0.next bl).cell 0), (show v6.cell? ⟨w.heap.size + 1, 0, none⟩ = some (v1_0) from (rA1.next bl).cell 0), (show v6.cell? ⟨w.heap.size + 1, 1, none⟩ = some (v1_1) from (rA1.next bl).cell 1)⟩
          clear hK K
          try simp only [Act.put, List.setIfInBounds_toArray, List.set_cons_zero, List.set_cons_succ, List.getElem_toArray, List.getElem_cons_zero, List.getElem_cons_succ]
          have cg0 : (v6).cell? ⟨v2.heap.size, 0, none⟩ = some (.slice none 0 0) := (rg).cell 0
          have fg0 : (v6).frozen? ⟨v2.heap.size, 0, none⟩ = false := (rg).free 0
          have cg1 : ((v6).setCell ⟨v2.heap.size, 0, none⟩ (.slice wA0 wn0 wc0)).cell? ⟨v2.heap.size, 1, none⟩ = some (.slice none 0 0) := (Row.put (rg) 0 (.slice wA0 wn0 wc0)).cell 1
          have fg1 : ((v6).setCell ⟨v2.heap.size, 0, none⟩ (.slice wA0 wn0 wc0)).frozen? ⟨v2.heap.size, 1, none⟩ = false := (Row.put (rg) 0 (.slice wA0 wn0 wc0)).free 1
          have hne0 : v2.heap.size ≠ w.heap.size := by omega
          have hne1 : v2.heap.size ≠ w.heap.size + 1 := by omega
          refine wpAnyH_ready (rs := [6]) (by kernel_rfl) (by simp) (AllReadyH.cons rfl (fun K hK => ?_) AllReadyH.nil)
          try simp only [Act.put, List.setIfInBounds_toArray, List.set_cons_zero, List.set_cons_succ, List.getElem_toArray, List.getElem_cons_zero, List.getElem_cons_succ]
          rw [if_pos (by rfl)]
          go_simp
          refine hK.out _ _ ?_ (fun hHeld => ?_)
          · exact ⟨(far_cell hne0 (far_cell hne0 (show v6.cell? ⟨w.heap.size, 0, none⟩ = some (v0_0) from (rA0.next bl).cell 0))), (far_cell hne1 (far_cell hne1 (show v6.cell? ⟨w.heap.size + 1, 0, none⟩ = some (v1_0) from (rA1.next bl).cell 0))), (far_cell hne1 (far_cell hne1 (show v6.cell? ⟨w.heap.size + 1, 1, none⟩ = some (v1_1) from (rA1.next bl).cell 1)))⟩
          clear hK K
          try simp only [Act.put, List.setIfInBounds_toArray, List.set_cons_zero, List.set_cons_succ, List.getElem_toArray, List.getElem_cons_zero, List.getElem_cons_succ]
          refine wpAnyH_done (by kernel_rfl) ?_ _
          have F := boxed_put (W := w2.drew) o0 rg (by omega) bs hgB
          clear cg0 fg0 cg1 fg1 bl rg o0 bs hne0 hne1
          go_wp2_with fail
          go_meet
          exact F
      · skip
        try simp only [Act.put, List.setIfInBounds_toArray, List.set_cons_zero, List.set_cons_succ, List.getElem_toArray, List.getElem_cons_zero, List.getElem_cons_succ]
        rw [if_pos (by rfl)]
        go_simp
        obtain ⟨v7, hw⟩ : ∃ W, W = (v1.alloc (.cells #[.slice none 0 0, .slice none 0 0] 35)) := ⟨_, rfl⟩
        rw [← hw]
        have rg : Row v7 v1.heap.size 35 #[.slice none 0 0, .slice none 0 0] := by rw [hw]; exact Row.new _ _ _
        have bb : Below v1.heap.size v1 v7 := by rw [hw]; exact (Below.refl _ _).alloc (Nat.le_refl _) _
        have ygg : v1.heap.size < v7.heap.size := rg.lt
        have hgB : w2.drew.heap.size ≤ v1.heap.size := bs.size
        clear hw
        replace oq0 := oq0.next bb
        replace bl := next_trans bl bb
        replace bs := next_trans bs bb
        have zqv7 := bb.size
        clear bb
        refine hK.out _ _ ?_ (fun hHeld => ?_)
        · exact ⟨(show v7.cell? ⟨w.heap.size, 0, none⟩ = some (v0_0) from (rA0.next bl).cell 0), (show v7.cell? ⟨w.heap.size + 1, 0, none⟩ = some (v1_0) from (rA1.next bl).cell 0), (show v7.cell? ⟨w.heap.size + 1, 1, none⟩ = some (v1_1) from (rA1.next bl).cell 1)⟩
        clear hK K
        try simp only [Act.put, List.setIfInBounds_toArray, List.set_cons_zero, List.set_cons_succ, List.getElem_toArray, List.getElem_cons_zero, List.getElem_cons_succ]
        refine wpAnyH_ready (rs := [3]) (by kernel_rfl) (by simp) (AllReadyH.cons rfl (fun K hK => ?_) AllReadyH.nil)
        try simp only [Act.put, List.setIfInBounds_toArray, List.set_cons_zero, List.set_cons_succ, List.getElem_toArray, List.getElem_cons_zero, List.getElem_cons_succ]
        rw [if_pos (by rfl)]
        go_simp
        refine (toK_Rule _ _ d1 _ (s1.next bl) h1.out).mono ?_
        rintro e v8 ⟨q1A0, q1n0, q1c0, q1A1, q1n1, q1c1, rfl, oq1, bb⟩
        replace oq0 := oq0.next bb
        replace rg := rg.next bb
        replace bl := next_trans bl bb
        replace bs := next_trans bs bb
        have zqv8 := bb.size
        clear bb
        go_wp2_with fail
        refine hK.out _ _ ?_ (fun hHeld => ?_)
        · exact ⟨(show v8.cell? ⟨w.heap.size, 0, none⟩ = some (v0_0) from (rA0.next bl).cell 0), (show v8.cell? ⟨w.heap.size + 1, 0, none⟩ = some (v1_0) from (rA1.next bl).cell 0), (show v8.cell? ⟨w.heap.size + 1, 1, none⟩ = some (v1_1) from (rA1.next bl).cell 1)⟩
        clear hK K
        try simp only [Act.put, List.setIfInBounds_toArray, List.set_cons_zero, List.set_cons_succ, List.getElem_toArray, List.getElem_cons_zero, List.getElem_cons_succ]
        refine wpAnyH_ready (rs := [4]) (by kernel_rfl) (by simp) (AllReadyH.cons rfl (fun K hK => ?_) AllReadyH.nil)
        try simp only [Act.put, List.setIfInBounds_toArray, List.set_cons_zero, List.set_cons_succ, List.getElem_toArray, List.getElem_cons_zero, List.getElem_cons_succ]
        rw [if_pos (by rfl)]
        go_simp
        refine (specRenamedRule _ _ _ d0 d1 _ oq0.rd oq1.rd h0.out h1.out).mono ?_
        rintro e v9 ⟨wA0, wn0, wc0, wA1, wn1, wc1, he, o0, bb⟩
        rw [HY.out] at o0
        subst he
        replace oq0 := oq0.next bb
        replace rg := rg.next bb
        replace oq1 := oq1.next bb
        replace bl := next_trans bl bb
        replace bs := next_trans bs bb
        have zqv9 := bb.size
        clear bb
        clear oq0 oq1
        go_wp2_with fail
        refine hK.out _ _ ?_ (fun hHeld => ?_)
        · exact ⟨(show v9.cell? ⟨w.heap.size, 0, none⟩ = some (v0_0) from (rA0.next bl).cell 0), (show v9.cell? ⟨w.heap.size + 1, 0, none⟩ = some (v1_0) from (rA1.next bl).cell 0), (show v9.cell? ⟨w.heap.size + 1, 1, none⟩ = some (v1_1) from (rA1.next bl).cell 1)⟩
        clear hK K
        try simp only [Act.put, List.setIfInBounds_toArray, List.set_cons_zero, List.set_cons_succ, List.getElem_toArray, List.getElem_cons_zero, List.getElem_cons_succ]
        have cg0 : (v9).cell? ⟨v1.heap.size, 0, none⟩ = some (.slice none 0 0) := (rg).cell 0
        have fg0 : (v9).frozen? ⟨v1.heap.size, 0, none⟩ = false := (rg).free 0
        have cg1 : ((v9).setCell ⟨v1.heap.size, 0, none⟩ (.slice wA0 wn0 wc0)).cell? ⟨v1.heap.size, 1, none⟩ = some (.slice none 0 0) := (Row.put (rg) 0 (.slice wA0 wn0 wc0)).cell 1
        have fg1 : ((v9).setCell ⟨v1.heap.size, 0, none⟩ (.slice wA0 wn0 wc0)).frozen? ⟨v1.heap.size, 1, none⟩ = false := (Row.put (rg) 0 (.slice wA0 wn0 wc0)).free 1
        have hne0 : v1.heap.size ≠ w.heap.size := by omega
        have hne1 : v1.heap.size ≠ w.heap.size + 1 := by omega
        refine wpAnyH_ready (rs := [6]) (by kernel_rfl) (by simp) (AllReadyH.cons rfl (fun K hK => ?_) AllReadyH.nil)
        try simp only [Act.put, List.setIfInBounds_toArray, List.set_cons_zero, List.set_cons_succ, List.getElem_toArray, List.getElem_cons_zero, List.getElem_cons_succ]
        rw [if_pos (by rfl)]
        go_simp
        refine hK.out _ _ ?_ (fun hHeld => ?_)
        · exact ⟨(far_cell hne0 (far_cell hne0 (show v9.cell? ⟨w.heap.size, 0, none⟩ = some (v0_0) from (rA0.next bl).cell 0))), (far_cell hne1 (far_cell hne1 (show v9.cell? ⟨w.heap.size + 1, 0, none⟩ = some (v1_0) from (rA1.next bl).cell 0))), (far_cell hne1 (far_cell hne1 (show v9.cell? ⟨w.heap.size + 1, 1, none⟩ = some (v1_1) from (rA1.next bl).cell 1)))⟩
        clear hK K
        try simp only [Act.put, List.setIfInBounds_toArray, List.set_cons_zero, List.set_cons_succ, List.getElem_toArray, List.getElem_cons_zero, List.getElem_cons_succ]
        refine wpAnyH_done (by kernel_rfl) ?_ _
        have F := boxed_put (W := w2.drew) o0 rg (by omega) bs hgB
        clear cg0 fg0 cg1 fg1 bl rg o0 bs hne0 hne1
        go_wp2_with fail
        go_meet
        exact F
    · skip
      try simp only [Act.put, List.setIfInBounds_toArray, List.set_cons_zero, List.set_cons_succ, List.getElem_toArray, List.getElem_cons_zero, List.getElem_cons_succ]
      rw [if_pos (by rfl)]
      go_simp
      obtain ⟨v10, hw⟩ : ∃ W, W = (w2.alloc (.cells #[.slice none 0 0, .slice none 0 0] 35)).drew := ⟨_, rfl⟩
      rw [← hw]
      have rg : Row v10 w2.heap.size 35 #[.slice none 0 0, .slice none 0 0] := by rw [hw]; exact Row.new _ _ _
      have bb : Below w2.drew.heap.size w2.drew v10 := by rw [hw]; exact (Below.refl _ _).alloc (Nat.le_refl _) _
      have ygg : w2.heap.size < v10.heap.size := rg.lt
      have hgB : w2.drew.heap.size ≤ w2.heap.size := bs.size
      clear hw
      replace bl := next_trans bl bb
      replace bs := next_trans bs bb
      have zqv10 := bb.size
      clear bb
      refine hK.out _ _ ?_ (fun hHeld => ?_)
      · exact ⟨(show v10.cell? ⟨w.heap.size, 0, none⟩ = some (v0_0) from (rA0.next bl).cell 0), (show v10.cell? ⟨w.heap.size + 1, 0, none⟩ = some (v1_0) from (rA1.next bl).cell 0), (show v10.cell? ⟨w.heap.size + 1, 1, none⟩ = some (v1_1) from (rA1.next bl).cell 1)⟩
      clear hK K
      try simp only [Act.put, List.setIfInBounds_toArray, List.set_cons_zero, List.set_cons_succ, List.getElem_toArray, List.getElem_cons_zero, List.getElem_cons_succ]
      refine wpAnyH_ready (rs := [1]) (by kernel_rfl) (by simp) (AllReadyH.cons rfl (fun K hK => ?_) AllReadyH.nil)
      try simp only [Act.put, List.setIfInBounds_toArray, List.set_cons_zero, List.set_cons_succ, List.getElem_toArray, List.getElem_cons_zero, List.getElem_cons_succ]
      rw [if_pos (by rfl)]
      go_simp
      refine (toK_Sig _ d0 _ (s0.next bl) h0.out).mono ?_
      rintro e v11 ⟨q0A0, q0n0, q0c0, rfl, oq0, bb⟩
      replace rg := rg.next bb
      replace bl := next_trans bl bb
      replace bs := next_trans bs bb
      have zqv11 := bb.size
      clear bb
      go_wp2_with fail
      refine hK.out _ _ ?_ (fun hHeld => ?_)
      · exact ⟨(show v11.cell? ⟨w.heap.size, 0, none⟩ = some (v0_0) from (rA0.next bl).cell 0), (show v11.cell? ⟨w.heap.size + 1, 0, none⟩ = some (v1_0) from (rA1.next bl).cell 0), (show v11.cell? ⟨w.heap.size + 1, 1, none⟩ = some (v1_1) from (rA1.next bl).cell 1)⟩
      clear hK K
      try simp only [Act.put, List.setIfInBounds_toArray, List.set_cons_zero, List.set_cons_succ, List.getElem_toArray, List.getElem_cons_zero, List.getElem_cons_succ]
      refine wpAnyH_ready (rs := [3]) (by kernel_rfl) (by simp) (AllReadyH.cons rfl (fun K hK => ?_) AllReadyH.nil)
      try simp only [Act.put, List.setIfInBounds_toArray, List.set_cons_zero, List.set_cons_succ, List.getElem_toArray, List.getElem_cons_zero, List.getElem_cons_succ]
      rw [if_pos (by rfl)]
      go_simp
      refine (toK_Rule _ _ d1 _ (s1.next bl) h1.out).mono ?_
      rintro e v12 ⟨q1A0, q1n0, q1c0, q1A1, q1n1, q1c1, rfl, oq1, bb⟩
      replace rg := rg.next bb
      replace oq0 := oq0.next bb
      replace bl := next_trans bl bb
      replace bs := next_trans bs bb
      have zqv12 := bb.size
      clear bb
      go_wp2_with fail
      refine hK.out _ _ ?_ (fun hHeld => ?_)
      · exact ⟨(show v12.cell? ⟨w.heap.size, 0, none⟩ = some (v0_0) from (rA0.next bl).cell 0), (show v12.cell? ⟨w.heap.size + 1, 0, none⟩ = some (v1_0) from (rA1.next bl).cell 0), (show v12.cell? ⟨w.heap.size + 1, 1, none⟩ = some (v1_1) from (rA1.next bl).cell 1)⟩
      clear hK K
      try simp only [Act.put, List.setIfInBounds_toArray, List.set_cons_zero, List.set_cons_succ, List.getElem_toArray, List.getElem_cons_zero, List.getElem_cons_succ]
      refine wpAnyH_ready (rs := [4]) (by kernel_rfl) (by simp) (AllReadyH.cons rfl (fun K hK => ?_) AllReadyH.nil)
      try simp only [Act.put, List.setIfInBounds_toArray, List.set_cons_zero, List.set_cons_succ, List.getElem_toArray, List.getElem_cons_zero, List.getElem_cons_succ]
      rw [if_pos (by rfl)]
      go_simp
      refine (specRenamedRule _ _ _ d0 d1 _ oq0.rd oq1.rd h0.out h1.out).mono ?_
      rintro e v13 ⟨wA0, wn0, wc0, wA1, wn1, wc1, he, o0, bb⟩
      rw [HY.out] at o0
      subst he
      replace rg := rg.next bb
      replace oq0 := oq0.next bb
      replace oq1 := oq1.next bb
      replace bl := next_trans bl bb
      replace bs := next_trans bs bb
      have zqv13 := bb.size
      clear bb
      clear oq0 oq1
      go_wp2_with fail
      refine hK.out _ _ ?_ (fun hHeld => ?_)
      · exact ⟨(show v13.cell? ⟨w.heap.size, 0, none⟩ = some (v0_0) from (rA0.next bl).cell 0), (show v13.cell? ⟨w.heap.size + 1, 0, none⟩ = some (v1_0) from (rA1.next bl).cell 0), (show v13.cell? ⟨w.heap.size + 1, 1, none⟩ = some (v1_1) from (rA1.next bl).cell 1)⟩
      clear hK K
      try simp only [Act.put, List.setIfInBounds_toArray, List.set_cons_zero, List.set_cons_succ, List.getElem_toArray, List.getElem_cons_zero, List.getElem_cons_succ]
      have cg0 : (v13).cell? ⟨w2.heap.size, 0, none⟩ = some (.slice none 0 0) := (rg).cell 0
      have fg0 : (v13).frozen? ⟨w2.heap.size, 0, none⟩ = false := (rg).free 0
      have cg1 : ((v13).setCell ⟨w2.heap.size, 0, none⟩ (.slice wA0 wn0 wc0)).cell? ⟨w2.heap.size, 1, none⟩ = some (.slice none 0 0) := (Row.put (rg) 0 (.slice wA0 wn0 wc0)).cell 1
      have fg1 : ((v13).setCell ⟨w2.heap.size, 0, none⟩ (.slice wA0 wn0 wc0)).frozen? ⟨w2.heap.size, 1, none⟩ = false := (Row.put (rg) 0 (.slice wA0 wn0 wc0)).free 1
      have hne0 : w2.heap.size ≠ w.heap.size := by omega
      have hne1 : w2.heap.size ≠ w.heap.size + 1 := by omega
      refine wpAnyH_ready (rs := [6]) (by kernel_rfl) (by simp) (AllReadyH.cons rfl (fun K hK => ?_) AllReadyH.nil)
      try simp only [Act.put, List.setIfInBounds_toArray, List.set_cons_zero, List.set_cons_succ, List.getElem_toArray, List.getElem_cons_zero, List.getElem_cons_succ]
      rw [if_pos (by rfl)]
      go_simp
      refine hK.out _ _ ?_ (fun hHeld => ?_)
      · exact ⟨(far_cell hne0 (far_cell hne0 (show v13.cell? ⟨w.heap.size, 0, none⟩ = some (v0_0) from (rA0.next bl).cell 0))), (far_cell hne1 (far_cell hne1 (show v13.cell? ⟨w.heap.size + 1, 0, none⟩ = some (v1_0) from (rA1.next bl).cell 0))), (far_cell hne1 (far_cell hne1 (show v13.cell? ⟨w.heap.size + 1, 1, none⟩ = some (v1_1) from (rA1.next bl).cell 1)))⟩
      clear hK K
      try simp only [Act.put, List.setIfInBounds_toArray, List.set_cons_zero, List.set_cons_succ, List.getElem_toArray, List.getElem_cons_zero, List.getElem_cons_succ]
      refine wpAnyH_done (by kernel_rfl) ?_ _
      have F := boxed_put (W := w2.drew) o0 rg (by omega) bs hgB
      clear cg0 fg0 cg1 fg1 bl rg o0 bs hne0 hne1
      go_wp2_with fail
      go_meet
      exact F
  case rest =>
    rename World => w3
    obtain ⟨bw, wA0, wn0, wc0, wA1, wn1, wc1, rfl, rw, sw, bb⟩ := hcut
    replace bel := next_trans bel bb
    have zw3 := bb.size
    clear bb
    have belw := Below.refl w3.heap.size w3
    have cA0_0 : w3.cell? ⟨w.heap.size, 0, none⟩ = some (v0_0) := (rA0.next bel).cell 0
    have cA1_0 : w3.cell? ⟨w.heap.size + 1, 0, none⟩ = some (v1_0) := (rA1.next bel).cell 0
    have cA1_1 : w3.cell? ⟨w.heap.size + 1, 1, none⟩ = some (v1_1) := (rA1.next bel).cell 1
    have cw_0 : w3.cell? ⟨bw, 0, none⟩ = some (.slice wA0 wn0 wc0) := (rw.next belw).cell 0
    have cw_1 : w3.cell? ⟨bw, 1, none⟩ = some (.slice wA1 wn1 wc1) := (rw.next belw).cell 1
    go_wp2_with fail
    refine (toK_Sig _ d0 _ (s0.next bel) h0.out).mono ?_
    rintro e w4 ⟨x0A0, x0n0, x0c0, rfl, ox0, bb⟩
    replace bel := next_trans bel bb
    replace belw := next_trans belw bb
    have zw4 := bb.size
    clear bb
    clear cA0_0 cA1_0 cA1_1 cw_0 cw_1
    have cA0_0 : w4.cell? ⟨w.heap.size, 0, none⟩ = some (v0_0) := (rA0.next bel).cell 0
    have cA1_0 : w4.cell? ⟨w.heap.size + 1, 0, none⟩ = some (v1_0) := (rA1.next bel).cell 0
    have cA1_1 : w4.cell? ⟨w.heap.size + 1, 1, none⟩ = some (v1_1) := (rA1.next bel).cell 1
    have cw_0 : w4.cell? ⟨bw, 0, none⟩ = some (.slice wA0 wn0 wc0) := (rw.next belw).cell 0
    have cw_1 : w4.cell? ⟨bw, 1, none⟩ = some (.slice wA1 wn1 wc1) := (rw.next belw).cell 1
    have dA0_0 : (w4.alloc (.cells #[.slice x0A0 x0n0 x0c0] 26)).cell? ⟨w.heap.size, 0, none⟩ = some (v0_0) := ((rA0.next bel).alloc _).cell 0
    have dA1_0 : (w4.alloc (.cells #[.slice x0A0 x0n0 x0c0] 26)).cell? ⟨w.heap.size + 1, 0, none⟩ = some (v1_0) := ((rA1.next bel).alloc _).cell 0
    have dA1_1 : (w4.alloc (.cells #[.slice x0A0 x0n0 x0c0] 26)).cell? ⟨w.heap.size + 1, 1, none⟩ = some (v1_1) := ((rA1.next bel).alloc _).cell 1
    have dw_0 : (w4.alloc (.cells #[.slice x0A0 x0n0 x0c0] 26)).cell? ⟨bw, 0, none⟩ = some (.slice wA0 wn0 wc0) := ((rw.next belw).alloc _).cell 0
    have dw_1 : (w4.alloc (.cells #[.slice x0A0 x0n0 x0c0] 26)).cell? ⟨bw, 1, none⟩ = some (.slice wA1 wn1 wc1) := ((rw.next belw).alloc _).cell 1
    go_wp2_with fail
    obtain ⟨w5, hw⟩ : ∃ W, W = w4.alloc (.cells #[.slice x0A0 x0n0 x0c0] 26) := ⟨_, rfl⟩
    rw [← hw]
    have rx0 : Row w5 w4.heap.size 26 #[.slice x0A0 x0n0 x0c0] := by rw [hw]; exact Row.new _ _ _
    have bb : Below w4.heap.size w4 w5 := by rw [hw]; exact (Below.refl _ _).alloc (Nat.le_refl _) _
    have yrx0 : w4.heap.size < w5.heap.size := by rw [hw]; simp
    clear hw
    replace ox0 := ox0.next bb
    replace bel := next_trans bel bb
    replace belw := next_trans belw bb
    have zw5 := bb.size
    clear bb
    clear dA0_0 dA1_0 dA1_1 dw_0 dw_1
    clear cA0_0 cA1_0 cA1_1 cw_0 cw_1
    have cA0_0 : w5.cell? ⟨w.heap.size, 0, none⟩ = some (v0_0) := (rA0.next bel).cell 0
    have cA1_0 : w5.cell? ⟨w.heap.size + 1, 0, none⟩ = some (v1_0) := (rA1.next bel).cell 0
    have cA1_1 : w5.cell? ⟨w.heap.size + 1, 1, none⟩ = some (v1_1) := (rA1.next bel).cell 1
    have cw_0 : w5.cell? ⟨bw, 0, none⟩ = some (.slice wA0 wn0 wc0) := (rw.next belw).cell 0
    have cw_1 : w5.cell? ⟨bw, 1, none⟩ = some (.slice wA1 wn1 wc1) := (rw.next belw).cell 1
    have cx0_0 : w5.cell? ⟨w4.heap.size, 0, none⟩ = some (.slice x0A0 x0n0 x0c0) := (rx0).cell 0
    refine (toK_Rule _ _ d1 _ (s1.next bel) h1.out).mono ?_
    rintro e w6 ⟨x1A0, x1n0, x1c0, x1A1, x1n1, x1c1, rfl, ox1, bb⟩
    replace ox0 := ox0.next bb
    replace rx0 := rx0.next bb
    replace bel := next_trans bel bb
    replace belw := next_trans belw bb
    have zw6 := bb.size
    clear bb
    clear cA0_0 cA1_0 cA1_1 cw_0 cw_1 cx0_0
    have cA0_0 : w6.cell? ⟨w.heap.size, 0, none⟩ = some (v0_0) := (rA0.next bel).cell 0
    have cA1_0 : w6.cell? ⟨w.heap.size + 1, 0, none⟩ = some (v1_0) := (rA1.next bel).cell 0
    have cA1_1 : w6.cell? ⟨w.heap.size + 1, 1, none⟩ = some (v1_1) := (rA1.next bel).cell 1
    have cw_0 : w6.cell? ⟨bw, 0, none⟩ = some (.slice wA0 wn0 wc0) := (rw.next belw).cell 0
    have cw_1 : w6.cell? ⟨bw, 1, none⟩ = some (.slice wA1 wn1 wc1) := (rw.next belw).cell 1
    have cx0_0 : w6.cell? ⟨w4.heap.size, 0, none⟩ = some (.slice x0A0 x0n0 x0c0) := (rx0).cell 0
    have dA0_0 : (w6.alloc (.cells #[.slice x1A0 x1n0 x1c0, .slice x1A1 x1n1 x1c1] 35)).cell? ⟨w.heap.size, 0, none⟩ = some (v0_0) := ((rA0.next bel).alloc _).cell 0
    have dA1_0 : (w6.alloc (.cells #[.slice x1A0 x1n0 x1c0, .slice x1A1 x1n1 x1c1] 35)).cell? ⟨w.heap.size + 1, 0, none⟩ = some (v1_0) := ((rA1.next bel).alloc _).cell 0
    have dA1_1 : (w6.alloc (.cells #[.slice x1A0 x1n0 x1c0, .slice x1A1 x1n1 x1c1] 35)).cell? ⟨w.heap.size + 1, 1, none⟩ = some (v1_1) := ((rA1.next bel).alloc _).cell 1
    have dw_0 : (w6.alloc (.cells #[.slice x1A0 x1n0 x1c0, .slice x1A1 x1n1 x1c1] 35)).cell? ⟨bw, 0, none⟩ = some (.slice wA0 wn0 wc0) := ((rw.next belw).alloc _).cell 0
    have dw_1 : (w6.alloc (.cells #[.slice x1A0 x1n0 x1c0, .slice x1A1 x1n1 x1c1] 35)).cell? ⟨bw, 1, none⟩ = some (.slice wA1 wn1 wc1) := ((rw.next belw).alloc _).cell 1
    have dx0_0 : (w6.alloc (.cells #[.slice x1A0 x1n0 x1c0, .slice x1A1 x1n1 x1c1] 35)).cell? ⟨w4.heap.size, 0, none⟩ = some (.slice x0A0 x0n0 x0c0) := ((rx0).alloc _).cell 0
    go_wp2_with fail
    obtain ⟨w7, hw⟩ : ∃ W, W = w6.alloc (.cells #[.slice x1A0 x1n0 x1c0, .slice x1A1 x1n1 x1c1] 35) := ⟨_, rfl⟩
    rw [← hw]
    have rx1 : Row w7 w6.heap.size 35 #[.slice x1A0 x1n0 x1c0, .slice x1A1 x1n1 x1c1] := by rw [hw]; exact Row.new _ _ _
    have bb : Below w6.heap.size w6 w7 := by rw [hw]; exact (Below.refl _ _).alloc (Nat.le_refl _) _
    have yrx1 : w6.heap.size < w7.heap.size := by rw [hw]; simp
    clear hw
    replace ox0 := ox0.next bb
    replace rx0 := rx0.next bb
    replace ox1 := ox1.next bb
    replace bel := next_trans bel bb
    replace belw := next_trans belw bb
    have zw7 := bb.size
    clear bb
    clear dA0_0 dA1_0 dA1_1 dw_0 dw_1 dx0_0
    clear cA0_0 cA1_0 cA1_1 cw_0 cw_1 cx0_0
    have cA0_0 : w7.cell? ⟨w.heap.size, 0, none⟩ = some (v0_0) := (rA0.next bel).cell 0
    have cA1_0 : w7.cell? ⟨w.heap.size + 1, 0, none⟩ = some (v1_0) := (rA1.next bel).cell 0
    have cA1_1 : w7.cell? ⟨w.heap.size + 1, 1, none⟩ = some (v1_1) := (rA1.next bel).cell 1
    have cw_0 : w7.cell? ⟨bw, 0, none⟩ = some (.slice wA0 wn0 wc0) := (rw.next belw).cell 0
    have cw_1 : w7.cell? ⟨bw, 1, none⟩ = some (.slice wA1 wn1 wc1) := (rw.next belw).cell 1
    have cx0_0 : w7.cell? ⟨w4.heap.size, 0, none⟩ = some (.slice x0A0 x0n0 x0c0) := (rx0).cell 0
    have cx1_0 : w7.cell? ⟨w6.heap.size, 0, none⟩ = some (.slice x1A0 x1n0 x1c0) := (rx1).cell 0
    have cx1_1 : w7.cell? ⟨w6.heap.size, 1, none⟩ = some (.slice x1A1 x1n1 x1c1) := (rx1).cell 1
    refine (implRenamedRule _ _ _ d0 d1 _ ox0.rd ox1.rd h0.out h1.out).mono ?_
    rintro e w8 ⟨gA0, gn0, gc0, gA1, gn1, gc1, he, o0, bb⟩
    rw [HY.out] at o0
    subst he
    replace ox0 := ox0.next bb
    replace rx0 := rx0.next bb
    replace ox1 := ox1.next bb
    replace rx1 := rx1.next bb
    replace bel := next_trans bel bb
    replace belw := next_trans belw bb
    have zw8 := bb.size
    clear bb
    have og := o0
    clear o0
    clear cA0_0 cA1_0 cA1_1 cw_0 cw_1 cx0_0 cx1_0 cx1_1
    have cA0_0 : w8.cell? ⟨w.heap.size, 0, none⟩ = some (v0_0) := (rA0.next bel).cell 0
    have cA1_0 : w8.cell? ⟨w.heap.size + 1, 0, none⟩ = some (v1_0) := (rA1.next bel).cell 0
    have cA1_1 : w8.cell? ⟨w.heap.size + 1, 1, none⟩ = some (v1_1) := (rA1.next bel).cell 1
    have cw_0 : w8.cell? ⟨bw, 0, none⟩ = some (.slice wA0 wn0 wc0) := (rw.next belw).cell 0
    have cw_1 : w8.cell? ⟨bw, 1, none⟩ = some (.slice wA1 wn1 wc1) := (rw.next belw).cell 1
    have cx0_0 : w8.cell? ⟨w4.heap.size, 0, none⟩ = some (.slice x0A0 x0n0 x0c0) := (rx0).cell 0
    have cx1_0 : w8.cell? ⟨w6.heap.size, 0, none⟩ = some (.slice x1A0 x1n0 x1c0) := (rx1).cell 0
    have cx1_1 : w8.cell? ⟨w6.heap.size, 1, none⟩ = some (.slice x1A1 x1n1 x1c1) := (rx1).cell 1
    have dA0_0 : (w8.alloc (.cells #[.slice gA0 gn0 gc0, .slice gA1 gn1 gc1] 35)).cell? ⟨w.heap.size, 0, none⟩ = some (v0_0) := ((rA0.next bel).alloc _).cell 0
    have dA1_0 : (w8.alloc (.cells #[.slice gA0 gn0 gc0, .slice gA1 gn1 gc1] 35)).cell? ⟨w.heap.size + 1, 0, none⟩ = some (v1_0) := ((rA1.next bel).alloc _).cell 0
    have dA1_1 : (w8.alloc (.cells #[.slice gA0 gn0 gc0, .slice gA1 gn1 gc1] 35)).cell? ⟨w.heap.size + 1, 1, none⟩ = some (v1_1) := ((rA1.next bel).alloc _).cell 1
    have dw_0 : (w8.alloc (.cells #[.slice gA0 gn0 gc0, .slice gA1 gn1 gc1] 35)).cell? ⟨bw, 0, none⟩ = some (.slice wA0 wn0 wc0) := ((rw.next belw).alloc _).cell 0
    have dw_1 : (w8.alloc (.cells #[.slice gA0 gn0 gc0, .slice gA1 gn1 gc1] 35)).cell? ⟨bw, 1, none⟩ = some (.slice wA1 wn1 wc1) := ((rw.next belw).alloc _).cell 1
    have dx0_0 : (w8.alloc (.cells #[.slice gA0 gn0 gc0, .slice gA1 gn1 gc1] 35)).cell? ⟨w4.heap.size, 0, none⟩ = some (.slice x0A0 x0n0 x0c0) := ((rx0).alloc _).cell 0
    have dx1_0 : (w8.alloc (.cells #[.slice gA0 gn0 gc0, .slice gA1 gn1 gc1] 35)).cell? ⟨w6.heap.size, 0, none⟩ = some (.slice x1A0 x1n0 x1c0) := ((rx1).alloc _).cell 0
    have dx1_1 : (w8.alloc (.cells #[.slice gA0 gn0 gc0, .slice gA1 gn1 gc1] 35)).cell? ⟨w6.heap.size, 1, none⟩ = some (.slice x1A1 x1n1 x1c1) := ((rx1).alloc _).cell 1
    go_wp2_with fail
    obtain ⟨w9, hw⟩ : ∃ W, W = w8.alloc (.cells #[.slice gA0 gn0 gc0, .slice gA1 gn1 gc1] 35) := ⟨_, rfl⟩
    rw [← hw]
    have rg : Row w9 w8.heap.size 35 #[.slice gA0 gn0 gc0, .slice gA1 gn1 gc1] := by rw [hw]; exact Row.new _ _ _
    have bb : Below w8.heap.size w8 w9 := by rw [hw]; exact (Below.refl _ _).alloc (Nat.le_refl _) _
    have yrg : w8.heap.size < w9.heap.size := by rw [hw]; simp
    clear hw
    replace ox0 := ox0.next bb
    replace rx0 := rx0.next bb
    replace ox1 := ox1.next bb
    replace rx1 := rx1.next bb
    replace og := og.next bb
    replace bel := next_trans bel bb
    replace belw := next_trans belw bb
    have zw9 := bb.size
    clear bb
    clear dA0_0 dA1_0 dA1_1 dw_0 dw_1 dx0_0 dx1_0 dx1_1
    clear cA0_0 cA1_0 cA1_1 cw_0 cw_1 cx0_0 cx1_0 cx1_1
    have cA0_0 : w9.cell? ⟨w.heap.size, 0, none⟩ = some (v0_0) := (rA0.next bel).cell 0
    have cA1_0 : w9.cell? ⟨w.heap.size + 1, 0, none⟩ = some (v1_0) := (rA1.next bel).cell 0
    have cA1_1 : w9.cell? ⟨w.heap.size + 1, 1, none⟩ = some (v1_1) := (rA1.next bel).cell 1
    have cw_0 : w9.cell? ⟨bw, 0, none⟩ = some (.slice wA0 wn0 wc0) := (rw.next belw).cell 0
    have cw_1 : w9.cell? ⟨bw, 1, none⟩ = some (.slice wA1 wn1 wc1) := (rw.next belw).cell 1
    have cx0_0 : w9.cell? ⟨w4.heap.size, 0, none⟩ = some (.slice x0A0 x0n0 x0c0) := (rx0).cell 0
    have cx1_0 : w9.cell? ⟨w6.heap.size, 0, none⟩ = some (.slice x1A0 x1n0 x1c0) := (rx1).cell 0
    have cx1_1 : w9.cell? ⟨w6.heap.size, 1, none⟩ = some (.slice x1A1 x1n1 x1c1) := (rx1).cell 1
    have cg_0 : w9.cell? ⟨w8.heap.size, 0, none⟩ = some (.slice gA0 gn0 gc0) := (rg).cell 0
    have cg_1 : w9.cell? ⟨w8.heap.size, 1, none⟩ = some (.slice gA1 gn1 gc1) := (rg).cell 1
    refine (eqK_Rule _ _ _ _ ys _ og.rd (sw.next belw) hlen.out).mono ?_
    rintro e w10 ⟨rfl, bb⟩
    replace ox0 := ox0.next bb
    replace rx0 := rx0.next bb
    replace ox1 := ox1.next bb
    replace rx1 := rx1.next bb
    replace og := og.next bb
    replace rg := rg.next bb
    replace bel := next_trans bel bb
    replace belw := next_trans belw bb
    have zw10 := bb.size
    clear bb
    clear cA0_0 cA1_0 cA1_1 cw_0 cw_1 cx0_0 cx1_0 cx1_1 cg_0 cg_1
    have cA0_0 : w10.cell? ⟨w.heap.size, 0, none⟩ = some (v0_0) := (rA0.next bel).cell 0
    have cA1_0 : w10.cell? ⟨w.heap.size + 1, 0, none⟩ = some (v1_0) := (rA1.next bel).cell 0
    have cA1_1 : w10.cell? ⟨w.heap.size + 1, 1, none⟩ = some (v1_1) := (rA1.next bel).cell 1
    have cw_0 : w10.cell? ⟨bw, 0, none⟩ = some (.slice wA0 wn0 wc0) := (rw.next belw).cell 0
    have cw_1 : w10.cell? ⟨bw, 1, none⟩ = some (.slice wA1 wn1 wc1) := (rw.next belw).cell 1
    have cx0_0 : w10.cell? ⟨w4.heap.size, 0, none⟩ = some (.slice x0A0 x0n0 x0c0) := (rx0).cell 0
    have cx1_0 : w10.cell? ⟨w6.heap.size, 0, none⟩ = some (.slice x1A0 x1n0 x1c0) := (rx1).cell 0
    have cx1_1 : w10.cell? ⟨w6.heap.size, 1, none⟩ = some (.slice x1A1 x1n1 x1c1) := (rx1).cell 1
    have cg_0 : w10.cell? ⟨w8.heap.size, 0, none⟩ = some (.slice gA0 gn0 gc0) := (rg).cell 0
    have cg_1 : w10.cell? ⟨w8.heap.size, 1, none⟩ = some (.slice gA1 gn1 gc1) := (rg).cell 1
    go_wp2_with fail
    replace ox0 := ox0.drew
    replace rx0 := rx0.drew
    replace ox1 := ox1.drew
    replace rx1 := rx1.drew
    replace og := og.drew
    replace rg := rg.drew
    replace bel := bel.drew
    replace belw := belw.drew
    have zdw10 := (drew_below w10).size
    go_region_held3 (fun w' => w'.cell? ⟨w4.heap.size, 0, none⟩ = some (.slice x0A0 x0n0 x0c0) ∧ w'.cell? ⟨w.heap.size, 0, none⟩ = some (v0_0))
      (go_keep)
      (first
        | (go_at_call 40; refine (toK_Sig _ d0 _ (s0.next bel) h0.out).mono ?_; rintro e w11 ⟨t0A0, t0n0, t0c0, rfl, ot, bb⟩; replace ox0 := ox0.next bb; replace rx0 := rx0.next bb; replace ox1 := ox1.next bb; replace rx1 := rx1.next bb; replace og := og.next bb; replace rg := rg.next bb; replace bel := next_trans bel bb; replace belw := next_trans belw bb; have k0_0w11 : w11.cell? ⟨w.heap.size, 0, none⟩ = some (v0_0) := (rA0.next bel).cell 0; have l0_0w11 : w11.cell? ⟨w4.heap.size, 0, none⟩ = some (.slice x0A0 x0n0 x0c0) := rx0.cell 0; have zqw11 := bb.size; clear bb)
        | (go_at_call 42; refine (eqK_Sig _ _ d0 _ ox0.rd ot.rd h0.out).mono ?_; rintro e w12 ⟨rfl, bb⟩; replace ox0 := ox0.next bb; replace rx0 := rx0.next bb; replace ox1 := ox1.next bb; replace rx1 := rx1.next bb; replace og := og.next bb; replace rg := rg.next bb; replace bel := next_trans bel bb; replace belw := next_trans belw bb; have k0_0w12 : w12.cell? ⟨w.heap.size, 0, none⟩ = some (v0_0) := (rA0.next bel).cell 0; have l0_0w12 : w12.cell? ⟨w4.heap.size, 0, none⟩ = some (.slice x0A0 x0n0 x0c0) := rx0.cell 0; have zqw12 := bb.size; clear bb ot))
    clear k0_0w11 l0_0w11 k0_0w12 l0_0w12
    clear cA0_0 cA1_0 cA1_1 cw_0 cw_1 cx0_0 cx1_0 cx1_1 cg_0 cg_1
    have cA0_0 : w12.cell? ⟨w.heap.size, 0, none⟩ = some (v0_0) := (rA0.next bel).cell 0
    have cA1_0 : w12.cell? ⟨w.heap.size + 1, 0, none⟩ = some (v1_0) := (rA1.next bel).cell 0
    have cA1_1 : w12.cell? ⟨w.heap.size + 1, 1, none⟩ = some (v1_1) := (rA1.next bel).cell 1
    have cw_0 : w12.cell? ⟨bw, 0, none⟩ = some (.slice wA0 wn0 wc0) := (rw.next belw).cell 0
    have cw_1 : w12.cell? ⟨bw, 1, none⟩ = some (.slice wA1 wn1 wc1) := (rw.next belw).cell 1
    have cx0_0 : w12.cell? ⟨w4.heap.size, 0, none⟩ = some (.slice x0A0 x0n0 x0c0) := (rx0).cell 0
    have cx1_0 : w12.cell? ⟨w6.heap.size, 0, none⟩ = some (.slice x1A0 x1n0 x1c0) := (rx1).cell 0
    have cx1_1 : w12.cell? ⟨w6.heap.size, 1, none⟩ = some (.slice x1A1 x1n1 x1c1) := (rx1).cell 1
    have cg_0 : w12.cell? ⟨w8.heap.size, 0, none⟩ = some (.slice gA0 gn0 gc0) := (rg).cell 0
    have cg_1 : w12.cell? ⟨w8.heap.size, 1, none⟩ = some (.slice gA1 gn1 gc1) := (rg).cell 1
    go_wp2_with fail
    replace ox0 := ox0.drew
    replace rx0 := rx0.drew
    replace ox1 := ox1.drew
    replace rx1 := rx1.drew
    replace og := og.drew
    replace rg := rg.drew
    replace bel := bel.drew
    replace belw := belw.drew
    have zdw12 := (drew_below w12).size
    go_region_held3 (fun w' => w'.cell? ⟨w6.heap.size, 0, none⟩ = some (.slice x1A0 x1n0 x1c0) ∧ w'.cell? ⟨w6.heap.size, 1, none⟩ = some (.slice x1A1 x1n1 x1c1) ∧ w'.cell? ⟨w.heap.size + 1, 0, none⟩ = some (v1_0) ∧ w'.cell? ⟨w.heap.size + 1, 1, none⟩ = some (v1_1))
      (go_keep)
      (first
        | (go_at_call 41; refine (toK_Rule _ _ d1 _ (s1.next bel) h1.out).mono ?_; rintro e w13 ⟨t1A0, t1n0, t1c0, t1A1, t1n1, t1c1, rfl, ot, bb⟩; replace ox0 := ox0.next bb; replace rx0 := rx0.next bb; replace ox1 := ox1.next bb; replace rx1 := rx1.next bb; replace og := og.next bb; replace rg := rg.next bb; replace bel := next_trans bel bb; replace belw := next_trans belw bb; have k1_0w13 : w13.cell? ⟨w.heap.size + 1, 0, none⟩ = some (v1_0) := (rA1.next bel).cell 0; have k1_1w13 : w13.cell? ⟨w.heap.size + 1, 1, none⟩ = some (v1_1) := (rA1.next bel).cell 1; have l1_0w13 : w13.cell? ⟨w6.heap.size, 0, none⟩ = some (.slice x1A0 x1n0 x1c0) := rx1.cell 0; have l1_1w13 : w13.cell? ⟨w6.heap.size, 1, none⟩ = some (.slice x1A1 x1n1 x1c1) := rx1.cell 1; have zqw13 := bb.size; clear bb)
        | (go_at_call 43; refine (eqK_Rule _ _ _ _ d1 _ ox1.rd ot.rd h1.out).mono ?_; rintro e w14 ⟨rfl, bb⟩; replace ox0 := ox0.next bb; replace rx0 := rx0.next bb; replace ox1 := ox1.next bb; replace rx1 := rx1.next bb; replace og := og.next bb; replace rg := rg.next bb; replace bel := next_trans bel bb; replace belw := next_trans belw bb; have k1_0w14 : w14.cell? ⟨w.heap.size + 1, 0, none⟩ = some (v1_0) := (rA1.next bel).cell 0; have k1_1w14 : w14.cell? ⟨w.heap.size + 1, 1, none⟩ = some (v1_1) := (rA1.next bel).cell 1; have l1_0w14 : w14.cell? ⟨w6.heap.size, 0, none⟩ = some (.slice x1A0 x1n0 x1c0) := rx1.cell 0; have l1_1w14 : w14.cell? ⟨w6.heap.size, 1, none⟩ = some (.slice x1A1 x1n1 x1c1) := rx1.cell 1; have zqw14 := bb.size; clear bb ot))
    clear k1_0w13 l1_0w13 k1_1w13 l1_1w13 k1_0w14 l1_0w14 k1_1w14 l1_1w14
    clear cA0_0 cA1_0 cA1_1 cw_0 cw_1 cx0_0 cx1_0 cx1_1 cg_0 cg_1
    have cA0_0 : w14.cell? ⟨w.heap.size, 0, none⟩ = some (v0_0) := (rA0.next bel).cell 0
    have cA1_0 : w14.cell? ⟨w.heap.size + 1, 0, none⟩ = some (v1_0) := (rA1.next bel).cell 0
    have cA1_1 : w14.cell? ⟨w.heap.size + 1, 1, none⟩ = some (v1_1) := (rA1.next bel).cell 1
    have cw_0 : w14.cell? ⟨bw, 0, none⟩ = some (.slice wA0 wn0 wc0) := (rw.next belw).cell 0
    have cw_1 : w14.cell? ⟨bw, 1, none⟩ = some (.slice wA1 wn1 wc1) := (rw.next belw).cell 1
    have cx0_0 : w14.cell? ⟨w4.heap.size, 0, none⟩ = some (.slice x0A0 x0n0 x0c0) := (rx0).cell 0
    have cx1_0 : w14.cell? ⟨w6.heap.size, 0, none⟩ = some (.slice x1A0 x1n0 x1c0) := (rx1).cell 0
    have cx1_1 : w14.cell? ⟨w6.heap.size, 1, none⟩ = some (.slice x1A1 x1n1 x1c1) := (rx1).cell 1
    have cg_0 : w14.cell? ⟨w8.heap.size, 0, none⟩ = some (.slice gA0 gn0 gc0) := (rg).cell 0
    have cg_1 : w14.cell? ⟨w8.heap.size, 1, none⟩ = some (.slice gA1 gn1 gc1) := (rg).cell 1
    obtain ⟨Fox0, fox0, nox0, box0⟩ := ox0
    go_wp2_with fail
    refine (markK_Sig _ d0 (1) Fox0 _ fox0 nox0 h0.out (by omega) (by rw [HK0.out]; omega)).mono ?_
    rintro e w15 ⟨he, omox0, onox0⟩
    rw [HK0.out] at he
    have bt := onox0.btw box0
    clear onox0
    clear omox0 fox0 nox0 box0
    subst he
    replace rx0 := Row.btw rx0 bt (by omega)
    replace ox1 := ox1.btw bt (by omega)
    replace rx1 := Row.btw rx1 bt (by omega)
    replace og := og.btw bt (by omega)
    replace rg := Row.btw rg bt (by omega)
    replace bel := Below.btw bel bt (by omega) bel.size
    replace belw := Below.btw belw bt (by omega) belw.size
    have zw15 := bt.size
    clear bt
    clear cA0_0 cA1_0 cA1_1 cw_0 cw_1 cx0_0 cx1_0 cx1_1 cg_0 cg_1
    have cA0_0 : w15.cell? ⟨w.heap.size, 0, none⟩ = some (v0_0) := (rA0.next bel).cell 0
    have cA1_0 : w15.cell? ⟨w.heap.size + 1, 0, none⟩ = some (v1_0) := (rA1.next bel).cell 0
    have cA1_1 : w15.cell? ⟨w.heap.size + 1, 1, none⟩ = some (v1_1) := (rA1.next bel).cell 1
    have cw_0 : w15.cell? ⟨bw, 0, none⟩ = some (.slice wA0 wn0 wc0) := (rw.next belw).cell 0
    have cw_1 : w15.cell? ⟨bw, 1, none⟩ = some (.slice wA1 wn1 wc1) := (rw.next belw).cell 1
    have cx0_0 : w15.cell? ⟨w4.heap.size, 0, none⟩ = some (.slice x0A0 x0n0 x0c0) := (rx0).cell 0
    have cx1_0 : w15.cell? ⟨w6.heap.size, 0, none⟩ = some (.slice x1A0 x1n0 x1c0) := (rx1).cell 0
    have cx1_1 : w15.cell? ⟨w6.heap.size, 1, none⟩ = some (.slice x1A1 x1n1 x1c1) := (rx1).cell 1
    have cg_0 : w15.cell? ⟨w8.heap.size, 0, none⟩ = some (.slice gA0 gn0 gc0) := (rg).cell 0
    have cg_1 : w15.cell? ⟨w8.heap.size, 1, none⟩ = some (.slice gA1 gn1 gc1) := (rg).cell 1
    obtain ⟨Fox1, fox1, nox1, box1⟩ := ox1
    go_wp2_with fail
    refine (markK_Rule _ _ d1 (1 + (k0 : Int)) Fox1 _ fox1 nox1 h1.out (by omega) (by rw [HK1.out]; omega)).mono ?_
    rintro e w16 ⟨he, omox1, onox1⟩
    rw [HK1.out] at he
    have bt := onox1.btw box1
    clear onox1
    clear omox1 fox1 nox1 box1
    subst he
    replace rx0 := Row.btw rx0 bt (by omega)
    replace rx1 := Row.btw rx1 bt (by omega)
    replace og := og.btw bt (by omega)
    replace rg := Row.btw rg bt (by omega)
    replace bel := Below.btw bel bt (by omega) bel.size
    replace belw := Below.btw belw bt (by omega) belw.size
    have zw16 := bt.size
    clear bt
    clear cA0_0 cA1_0 cA1_1 cw_0 cw_1 cx0_0 cx1_0 cx1_1 cg_0 cg_1
    have cA0_0 : w16.cell? ⟨w.heap.size, 0, none⟩ = some (v0_0) := (rA0.next bel).cell 0
    have cA1_0 : w16.cell? ⟨w.heap.size + 1, 0, none⟩ = some (v1_0) := (rA1.next bel).cell 0
    have cA1_1 : w16.cell? ⟨w.heap.size + 1, 1, none⟩ = some (v1_1) := (rA1.next bel).cell 1
    have cw_0 : w16.cell? ⟨bw, 0, none⟩ = some (.slice wA0 wn0 wc0) := (rw.next belw).cell 0
    have cw_1 : w16.cell? ⟨bw, 1, none⟩ = some (.slice wA1 wn1 wc1) := (rw.next belw).cell 1
    have cx0_0 : w16.cell? ⟨w4.heap.size, 0, none⟩ = some (.slice x0A0 x0n0 x0c0) := (rx0).cell 0
    have cx1_0 : w16.cell? ⟨w6.heap.size, 0, none⟩ = some (.slice x1A0 x1n0 x1c0) := (rx1).cell 0
    have cx1_1 : w16.cell? ⟨w6.heap.size, 1, none⟩ = some (.slice x1A1 x1n1 x1c1) := (rx1).cell 1
    have cg_0 : w16.cell? ⟨w8.heap.size, 0, none⟩ = some (.slice gA0 gn0 gc0) := (rg).cell 0
    have cg_1 : w16.cell? ⟨w8.heap.size, 1, none⟩ = some (.slice gA1 gn1 gc1) := (rg).cell 1
    clear rx0
    clear rx1
    clear cA0_0 cA1_0 cA1_1 cw_0 cw_1 cx0_0 cx1_0 cx1_1 cg_0 cg_1
    have cA0_0 : w16.cell? ⟨w.heap.size, 0, none⟩ = some (v0_0) := (rA0.next bel).cell 0
    have cA1_0 : w16.cell? ⟨w.heap.size + 1, 0, none⟩ = some (v1_0) := (rA1.next bel).cell 0
    have cA1_1 : w16.cell? ⟨w.heap.size + 1, 1, none⟩ = some (v1_1) := (rA1.next bel).cell 1
    have cw_0 : w16.cell? ⟨bw, 0, none⟩ = some (.slice wA0 wn0 wc0) := (rw.next belw).cell 0
    have cw_1 : w16.cell? ⟨bw, 1, none⟩ = some (.slice wA1 wn1 wc1) := (rw.next belw).cell 1
    have cg_0 : w16.cell? ⟨w8.heap.size, 0, none⟩ = some (.slice gA0 gn0 gc0) := (rg).cell 0
    have cg_1 : w16.cell? ⟨w8.heap.size, 1, none⟩ = some (.slice gA1 gn1 gc1) := (rg).cell 1
    go_wp2_with fail
    refine (eqK_Rule _ _ _ _ ys _ og.rd (sw.next belw) hlen.out).mono ?_
    rintro e w17 ⟨rfl, bb⟩
    replace og := og.next bb
    replace rg := rg.next bb
    replace bel := next_trans bel bb
    replace belw := next_trans belw bb
    have zw17 := bb.size
    clear bb
    clear cA0_0 cA1_0 cA1_1 cw_0 cw_1 cg_0 cg_1
    have cA0_0 : w17.cell? ⟨w.heap.size, 0, none⟩ = some (v0_0) := (rA0.next bel).cell 0
    have cA1_0 : w17.cell? ⟨w.heap.size + 1, 0, none⟩ = some (v1_0) := (rA1.next bel).cell 0
    have cA1_1 : w17.cell? ⟨w.heap.size + 1, 1, none⟩ = some (v1_1) := (rA1.next bel).cell 1
    have cw_0 : w17.cell? ⟨bw, 0, none⟩ = some (.slice wA0 wn0 wc0) := (rw.next belw).cell 0
    have cw_1 : w17.cell? ⟨bw, 1, none⟩ = some (.slice wA1 wn1 wc1) := (rw.next belw).cell 1
    have cg_0 : w17.cell? ⟨w8.heap.size, 0, none⟩ = some (.slice gA0 gn0 gc0) := (rg).cell 0
    have cg_1 : w17.cell? ⟨w8.heap.size, 1, none⟩ = some (.slice gA1 gn1 gc1) := (rg).cell 1
    obtain ⟨Fog, fog, nog, bog⟩ := og
    go_wp2_with fail
    refine (markK_Rule _ _ ys (1) Fog _ fog nog hlen.out (by omega) (by rw [HCG.out]; omega)).mono ?_
    rintro e w18 ⟨he, omog, onog⟩
    rw [HCG.out] at he
    have bt := onog.btw bog
    clear onog
    have om : Owned w18 (w7.heap.size) (w8.heap.size) sRule [.slice gA0 gn0 gc0, .slice gA1 gn1 gc1] (mkv sRule 1 ys) := ⟨Fog, omog, nog, bog⟩
    clear omog fog nog bog
    subst he
    replace rg := Row.btw rg bt (by omega)
    replace bel := Below.btw bel bt (by omega) bel.size
    replace belw := Below.btw belw bt (by omega) belw.size
    have zw18 := bt.size
    clear bt
    clear cA0_0 cA1_0 cA1_1 cw_0 cw_1 cg_0 cg_1
    have cA0_0 : w18.cell? ⟨w.heap.size, 0, none⟩ = some (v0_0) := (rA0.next bel).cell 0
    have cA1_0 : w18.cell? ⟨w.heap.size + 1, 0, none⟩ = some (v1_0) := (rA1.next bel).cell 0
    have cA1_1 : w18.cell? ⟨w.heap.size + 1, 1, none⟩ = some (v1_1) := (rA1.next bel).cell 1
    have cw_0 : w18.cell? ⟨bw, 0, none⟩ = some (.slice wA0 wn0 wc0) := (rw.next belw).cell 0
    have cw_1 : w18.cell? ⟨bw, 1, none⟩ = some (.slice wA1 wn1 wc1) := (rw.next belw).cell 1
    have cg_0 : w18.cell? ⟨w8.heap.size, 0, none⟩ = some (.slice gA0 gn0 gc0) := (rg).cell 0
    have cg_1 : w18.cell? ⟨w8.heap.size, 1, none⟩ = some (.slice gA1 gn1 gc1) := (rg).cell 1
    go_wp2_with fail
    refine (heldK_Rule _ _ ys 1 _ om.rd hlen.out (by omega) (by rw [HCG.out]; omega)).mono ?_
    rintro e w19 ⟨he, bb⟩
    rw [HCG.out] at he
    subst he
    replace rg := rg.next bb
    replace om := om.next bb
    replace bel := next_trans bel bb
    replace belw := next_trans belw bb
    have zw19 := bb.size
    clear bb
    clear cA0_0 cA1_0 cA1_1 cw_0 cw_1 cg_0 cg_1
    have cA0_0 : w19.cell? ⟨w.heap.size, 0, none⟩ = some (v0_0) := (rA0.next bel).cell 0
    have cA1_0 : w19.cell? ⟨w.heap.size + 1, 0, none⟩ = some (v1_0) := (rA1.next bel).cell 0
    have cA1_1 : w19.cell? ⟨w.heap.size + 1, 1, none⟩ = some (v1_1) := (rA1.next bel).cell 1
    have cw_0 : w19.cell? ⟨bw, 0, none⟩ = some (.slice wA0 wn0 wc0) := (rw.next belw).cell 0
    have cw_1 : w19.cell? ⟨bw, 1, none⟩ = some (.slice wA1 wn1 wc1) := (rw.next belw).cell 1
    have cg_0 : w19.cell? ⟨w8.heap.size, 0, none⟩ = some (.slice gA0 gn0 gc0) := (rg).cell 0
    have cg_1 : w19.cell? ⟨w8.heap.size, 1, none⟩ = some (.slice gA1 gn1 gc1) := (rg).cell 1
    go_upto_region 31 with (fail)
    replace rg := rg.drew
    replace om := om.drew
    replace bel := bel.drew
    replace belw := belw.drew
    have zdw19 := (drew_below w19).size
    go_cut [13] (fun s13 wx => Boxed (w19.drew) ys s13 wx)
    case first =>
      have bs := Below.refl (w19.drew).heap.size (w19.drew)
      have bl := bel
      have zst := bl.size
      have c0S := Lib.hid (show w19.drew.cell? ⟨w.heap.size, 0, none⟩ = some (v0_0) ∧ w19.drew.cell? ⟨w.heap.size + 1, 0, none⟩ = some (v1_0) ∧ w19.drew.cell? ⟨w.heap.size + 1, 1, none⟩ = some (v1_1) from ⟨(show w19.drew.cell? ⟨w.heap.size, 0, none⟩ = some (v0_0) from (rA0.next bl).cell 0), (show w19.drew.cell? ⟨w.heap.size + 1, 0, none⟩ = some (v1_0) from (rA1.next bl).cell 0), (show w19.drew.cell? ⟨w.heap.size + 1, 1, none⟩ = some (v1_1) from (rA1.next bl).cell 1)⟩)
      clear bel belw rg om cA0_0 cA1_0 cA1_1 cw_0 cw_1 cg_0 cg_1
      refine wp_region_held_drew (S := fun w' => w'.cell? ⟨w.heap.size, 0, none⟩ = some (v0_0) ∧ w'.cell? ⟨w.heap.size + 1, 0, none⟩ = some (v1_0) ∧ w'.cell? ⟨w.heap.size + 1, 1, none⟩ = some (v1_1)) (by kernel_rfl) c0S.out (fun hHeld => ?_)
      refine wpAnyH_take (i := 0) (v := ?_) rfl (by kernel_rfl) (by kernel_rfl) (by kernel_rfl) (fun _ _ _ h => h) (Or.inl ⟨by rfl, ?_⟩) (by assumption) ?_
      rotate_left 1
      · (intro w0 hSw; (try dsimp only at hSw); go_simp; try with_reducible rfl)
      try simp only [Act.put, List.setIfInBounds_toArray, List.set_cons_zero, List.set_cons_succ, List.getElem_toArray, List.getElem_cons_zero, List.getElem_cons_succ]
      refine wpAnyH_take (i := 2) (v := ?_) rfl (by kernel_rfl) (by kernel_rfl) (by kernel_rfl) (fun _ _ _ h => h) (Or.inl ⟨by rfl, ?_⟩) (by assumption) ?_
      rotate_left 1
      · (intro w0 hSw; (try dsimp only at hSw); go_simp; try with_reducible rfl)
      try simp only [Act.put, List.setIfInBounds_toArray, List.set_cons_zero, List.set_cons_succ, List.getElem_toArray, List.getElem_cons_zero, List.getElem_cons_succ]
      refine wpAnyH_ready (rs := [1, 5]) (by kernel_rfl) (by simp) (AllReadyH.cons rfl (fun K hK => ?_) (AllReadyH.cons rfl (fun K hK => ?_) AllReadyH.nil))
      · skip
        try simp only [Act.put, List.setIfInBounds_toArray, List.set_cons_zero, List.set_cons_succ, List.getElem_toArray, List.getElem_cons_zero, List.getElem_cons_succ]
        rw [if_pos (by rfl)]
        go_simp
        refine (toK_Sig _ d0 _ (s0.next bl) h0.out).mono ?_
        rintro e v14 ⟨q0A0, q0n0, q0c0, rfl, oq0, bb⟩
        replace bl := next_trans bl bb
        replace bs := next_trans bs bb
        have zqv14 := bb.size
        clear bb
        go_wp2_with fail
        refine hK.out _ _ ?_ (fun hHeld => ?_)
        · exact ⟨(show v14.cell? ⟨w.heap.size, 0, none⟩ = some (v0_0) from (rA0.next bl).cell 0), (show v14.cell? ⟨w.heap.size + 1, 0, none⟩ = some (v1_0) from (rA1.next bl).cell 0), (show v14.cell? ⟨w.heap.size + 1, 1, none⟩ = some (v1_1) from (rA1.next bl).cell 1)⟩
        clear hK K
        try simp only [Act.put, List.setIfInBounds_toArray, List.set_cons_zero, List.set_cons_succ, List.getElem_toArray, List.getElem_cons_zero, List.getElem_cons_succ]
        refine wpAnyH_ready (rs := [3, 5]) (by kernel_rfl) (by simp) (AllReadyH.cons rfl (fun K hK => ?_) (AllReadyH.cons rfl (fun K hK => ?_) AllReadyH.nil))
        · skip
          try simp only [Act.put, List.setIfInBounds_toArray, List.set_cons_zero, List.set_cons_succ, List.getElem_toArray, List.getElem_cons_zero, List.getElem_cons_succ]
          rw [if_pos (by rfl)]
          go_simp
          refine (toK_Rule _ _ d1 _ (s1.next bl) h1.out).mono ?_
          rintro e v15 ⟨q1A0, q1n0, q1c0, q1A1, q1n1, q1c1, rfl, oq1, bb⟩
          replace oq0 := oq0.next bb
          replace bl := next_trans bl bb
          replace bs := next_trans bs bb
          have zqv15 := bb.size
          clear bb
          go_wp2_with fail
          refine hK.out _ _ ?_ (fun hHeld => ?_)
          · exact ⟨(show v15.cell? ⟨w.heap.size, 0, none⟩ = some (v0_0) from (rA0.next bl).cell 0), (show v15.cell? ⟨w.heap.size + 1, 0, none⟩ = some (v1_0) from (rA1.next bl).cell 0), (show v15.cell? ⟨w.heap.size + 1, 1, none⟩ = some (v1_1) from (rA1.next bl).cell 1)⟩
          clear hK K
          try simp only [Act.put, List.setIfInBounds_toArray, List.set_cons_zero, List.set_cons_succ, List.getElem_toArray, List.getElem_cons_zero, List.getElem_cons_succ]
          refine wpAnyH_ready (rs := [4, 5]) (by kernel_rfl) (by simp) (AllReadyH.cons rfl (fun K hK => ?_) (AllReadyH.cons rfl (fun K hK => ?_) AllReadyH.nil))
          · skip
            try simp only [Act.put, List.setIfInBounds_toArray, List.set_cons_zero, List.set_cons_succ, List.getElem_toArray, List.getElem_cons_zero, List.getElem_cons_succ]
            rw [if_pos (by rfl)]
            go_simp
            refine (implRenamedRule _ _ _ d0 d1 _ oq0.rd oq1.rd h0.out h1.out).mono ?_
            rintro e v16 ⟨hA0, hn0, hc0, hA1, hn1, hc1, he, o0, bb⟩
            rw [HY.out] at o0
            subst he
            replace oq0 := oq0.next bb
            replace oq1 := oq1.next bb
            replace bl := next_trans bl bb
            replace bs := next_trans bs bb
            have zqv16 := bb.size
            clear bb
            clear oq0 oq1
            go_wp2_with fail
            refine hK.out _ _ ?_ (fun hHeld => ?_)
            · exact ⟨(show v16.cell? ⟨w.heap.size, 0, none⟩ = some (v0_0) from (rA0.next bl).cell 0), (show v16.cell? ⟨w.heap.size + 1, 0, none⟩ = some (v1_0) from (rA1.next bl).cell 0), (show v16.cell? ⟨w.heap.size + 1, 1, none⟩ = some (v1_1) from (rA1.next bl).cell 1)⟩
            clear hK K
            try simp only [Act.put, List.setIfInBounds_toArray, List.set_cons_zero, List.set_cons_succ, List.getElem_toArray, List.getElem_cons_zero, List.getElem_cons_succ]
            refine wpAnyH_ready (rs := [5]) (by kernel_rfl) (by simp) (AllReadyH.cons rfl (fun K hK => ?_) AllReadyH.nil)
            try simp only [Act.put, List.setIfInBounds_toArray, List.set_cons_zero, List.set_cons_succ, List.getElem_toArray, List.getElem_cons_zero, List.getElem_cons_succ]
            rw [if_pos (by rfl)]
            go_simp
            obtain ⟨v17, hw⟩ : ∃ W, W = (v16.alloc (.cells #[.slice none 0 0, .slice none 0 0] 35)) := ⟨_, rfl⟩
            rw [← hw]
            have rg : Row v17 v16.heap.size 35 #[.slice none 0 0, .slice none 0 0] := by rw [hw]; exact Row.new _ _ _
            have bb : Below v16.heap.size v16 v17 := by rw [hw]; exact (Below.refl _ _).alloc (Nat.le_refl _) _
            have ygg : v16.heap.size < v17.heap.size := rg.lt
            have hgB : w19.drew.heap.size ≤ v16.heap.size := bs.size
            clear hw
            replace o0 := o0.next bb
            replace bl := next_trans bl bb
            replace bs := next_trans bs bb
            have zqv17 := bb.size
            clear bb
            refine hK.out _ _ ?_ (fun hHeld => ?_)
            · exact ⟨(show v17.cell? ⟨w.heap.size, 0, none⟩ = some (v0_0) from (rA0.next bl).cell 0), (show v17.cell? ⟨w.heap.size + 1, 0, none⟩ = some (v1_0) from (rA1.next bl).cell 0), (show v17.cell? ⟨w.heap.size + 1, 1, none⟩ = some (v1_1) from (rA1.next bl).cell 1)⟩
            clear hK K
            try simp only [Act.put, List.setIfInBounds_toArray, List.set_cons_zero, List.set_cons_succ, List.getElem_toArray, List.getElem_cons_zero, List.getElem_cons_succ]
            have cg0 : (v17).cell? ⟨v16.heap.size, 0, none⟩ = some (.slice none 0 0) := (rg).cell 0
            have fg0 : (v17).frozen? ⟨v16.heap.size, 0, none⟩ = false := (rg).free 0
            have cg1 : ((v17).setCell ⟨v16.heap.size, 0, none⟩ (.slice hA0 hn0 hc0)).cell? ⟨v16.heap.size, 1, none⟩ = some (.slice none 0 0) := (Row.put (rg) 0 (.slice hA0 hn0 hc0)).cell 1
            have fg1 : ((v17).setCell ⟨v16.heap.size, 0, none⟩ (.slice hA0 hn0 hc0)).frozen? ⟨v16.heap.size, 1, none⟩ = false := (Row.put (rg) 0 (.slice hA0 hn0 hc0)).free 1
            have hne0 : v16.heap.size ≠ w.heap.size := by omega
            have hne1 : v16.heap.size ≠ w.heap.size + 1 := by omega
            refine wpAnyH_ready (rs := [6]) (by kernel_rfl) (by simp) (AllReadyH.cons rfl (fun K hK => ?_) AllReadyH.nil)
            try simp only [Act.put, List.setIfInBounds_toArray, List.set_cons_zero, List.set_cons_succ, List.getElem_toArray, List.getElem_cons_zero, List.getElem_cons_succ]
            rw [if_pos (by rfl)]
            go_simp
            refine hK.out _ _ ?_ (fun hHeld => ?_)
            · exact ⟨(far_cell hne0 (far_cell hne0 (show v17.cell? ⟨w.heap.size, 0, none⟩ = some (v0_0) from (rA0.next bl).cell 0))), (far_cell hne1 (far_cell hne1 (show v17.cell? ⟨w.heap.size + 1, 0, none⟩ = some (v1_0) from (rA1.next bl).cell 0))), (far_cell hne1 (far_cell hne1 (show v17.cell? ⟨w.heap.size + 1, 1, none⟩ = some (v1_1) from (rA1.next bl).cell 1)))⟩
            clear hK K
            try simp only [Act.put, List.setIfInBounds_toArray, List.set_cons_zero, List.set_cons_succ, List.getElem_toArray, List.getElem_cons_zero, List.getElem_cons_succ]
            refine wpAnyH_done (by kernel_rfl) ?_ _
            have F := boxed_put (W := w19.drew) o0 rg (by omega) bs hgB
            clear cg0 fg0 cg1 fg1 bl rg o0 bs hne0 hne1
            go_wp2_with fail
            go_meet
            exact F
          · skip
            try simp only [Act.put, List.setIfInBounds_toArray, List.set_cons_zero, List.set_cons_succ, List.getElem_toArray, List.getElem_cons_zero, List.getElem_cons_succ]
            rw [if_pos (by rfl)]
            go_simp
            obtain ⟨v18, hw⟩ : ∃ W, W = (v15.alloc (.cells #[.slice none 0 0, .slice none 0 0] 35)) := ⟨_, rfl⟩
            rw [← hw]
            have rg : Row v18 v15.heap.size 35 #[.slice none 0 0, .slice none 0 0] := by rw [hw]; exact Row.new _ _ _
            have bb : Below v15.heap.size v15 v18 := by rw [hw]; exact (Below.refl _ _).alloc (Nat.le_refl _) _
            have ygg : v15.heap.size < v18.heap.size := rg.lt
            have hgB : w19.drew.heap.size ≤ v15.heap.size := bs.size
            clear hw
            replace oq0 := oq0.next bb
            replace oq1 := oq1.next bb
            replace bl := next_trans bl bb
            replace bs := next_trans bs bb
            have zqv18 := bb.size
            clear bb
            refine hK.out _ _ ?_ (fun hHeld => ?_)
            · exact ⟨(show v18.cell? ⟨w.heap.size, 0, none⟩ = some (v0_0) from (rA0.next bl).cell 0), (show v18.cell? ⟨w.heap.size + 1, 0, none⟩ = some (v1_0) from (rA1.next bl).cell 0), (show v18.cell? ⟨w.heap.size + 1, 1, none⟩ = some (v1_1) from (rA1.next bl).cell 1)⟩
            clear hK K
            try simp only [Act.put, List.setIfInBounds_toArray, List.set_cons_zero, List.set_cons_succ, List.getElem_toArray, List.getElem_cons_zero, List.getElem_cons_succ]
            refine wpAnyH_ready (rs := [4]) (by kernel_rfl) (by simp) (AllReadyH.cons rfl (fun K hK => ?_) AllReadyH.nil)
            try simp only [Act.put, List.setIfInBounds_toArray, List.set_cons_zero, List.set_cons_succ, List.getElem_toArray, List.getElem_cons_zero, List.getElem_cons_succ]
            rw [if_pos (by rfl)]
            go_simp
            refine (implRenamedRule _ _ _ d0 d1 _ oq0.rd oq1.rd h0.out h1.out).mono ?_
            rintro e v19 ⟨hA0, hn0, hc0, hA1, hn1, hc1, he, o0, bb⟩
            rw [HY.out] at o0
            subst he
            replace oq0 := oq0.next bb
            replace oq1 := oq1.next bb
            replace rg := rg.next bb
            replace bl := next_trans bl bb
            replace bs := next_trans bs bb
            have zqv19 := bb.size
            clear bb
            clear oq0 oq1
            go_wp2_with fail
            refine hK.out _ _ ?_ (fun hHeld => ?_)
            · exact ⟨(show v19.cell? ⟨w.heap.size, 0, none⟩ = some (v0_0) from (rA0.next bl).cell 0), (show v19.cell? ⟨w.heap.size + 1, 0, none⟩ = some (v1_0) from (rA1.next bl).cell 0), (show v19.cell? ⟨w.heap.size + 1, 1, none⟩ = some (v1_1) from (rA1.next bl).cell 1)⟩
            clear hK K
            try simp only [Act.put, List.setIfInBounds_toArray, List.set_cons_zero, List.set_cons_succ, List.getElem_toArray, List.getElem_cons_zero, List.getElem_cons_succ]
            have cg0 : (v19).cell? ⟨v15.heap.size, 0, none⟩ = some (.slice none 0 0) := (rg).cell 0
            have fg0 : (v19).frozen? ⟨v15.heap.size, 0, none⟩ = false := (rg).free 0
            have cg1 : ((v19).setCell ⟨v15.heap.size, 0, none⟩ (.slice hA0 hn0 hc0)).cell? ⟨v15.heap.size, 1, none⟩ = some (.slice none 0 0) := (Row.put (rg) 0 (.slice hA0 hn0 hc0)).cell 1
            have fg1 : ((v19).setCell ⟨v15.heap.size, 0, none⟩ (.slice hA0 hn0 hc0)).frozen? ⟨v15.heap.size, 1, none⟩ = false := (Row.put (rg) 0 (.slice hA0 hn0 hc0)).free 1
            have hne0 : v15.heap.size ≠ w.heap.size := by omega
            have hne1 : v15.heap.size ≠ w.heap.size + 1 := by omega
            refine wpAnyH_ready (rs := [6]) (by kernel_rfl) (by simp) (AllReadyH.cons rfl (fun K hK => ?_) AllReadyH.nil)
            try simp only [Act.put, List.setIfInBounds_toArray, List.set_cons_zero, List.set_cons_succ, List.getElem_toArray, List.getElem_cons_zero, List.getElem_cons_succ]
            rw [if_pos (by rfl)]
            go_simp
            refine hK.out _ _ ?_ (fun hHeld => ?_)
            · exact ⟨(far_cell hne0 (far_cell hne0 (show v19.cell? ⟨w.heap.size, 0, none⟩ = some (v0_0) from (rA0.next bl).cell 0))), (far_cell hne1 (far_cell hne1 (show v19.cell? ⟨w.heap.size + 1, 0, none⟩ = some (v1_0) from (rA1.next bl).cell 0))), (far_cell hne1 (far_cell hne1 (show v19.cell? ⟨w.heap.size + 1, 1, none⟩ = some (v1_1) from (rA1.next bl).cell 1)))⟩
            clear hK K
            try simp only [Act.put, List.setIfInBounds_toArray, List.set_cons_zero, List.set_cons_succ, List.getElem_toArray, List.getElem_cons_zero, List.getElem_cons_succ]
            refine wpAnyH_done (by kernel_rfl) ?_ _
            have F := boxed_put (W := w19.drew) o0 rg (by omega) bs hgB
            clear cg0 fg0 cg1 fg1 bl rg o0 bs hne0 hne1
            go_wp2_with fail
            go_meet
            exact F
        · skip
          try simp only [Act.put, List.setIfInBounds_toArray, List.set_cons_zero, List.set_cons_succ, List.getElem_toArray, List.getElem_cons_zero, List.getElem_cons_succ]
          rw [if_pos (by rfl)]
          go_simp
          obtain ⟨v20, hw⟩ : ∃ W, W = (v14.alloc (.cells #[.slice none 0 0, .slice none 0 0] 35)) := ⟨_, rfl⟩
          rw [← hw]
          have rg : Row v20 v14.heap.size 35 #[.slice none 0 0, .slice none 0 0] := by rw [hw]; exact Row.new _ _ _
          have bb : Below v14.heap.size v14 v20 := by rw [hw]; exact (Below.refl _ _).alloc (Nat.le_refl _) _
          have ygg : v14.heap.size < v20.heap.size := rg.lt
          have hgB : w19.drew.heap.size ≤ v14.heap.size := bs.size
          clear hw
          replace oq0 := oq0.next bb
          replace bl := next_trans bl bb
          replace bs := next_trans bs bb
          have zqv20 := bb.size
          clear bb
          refine hK.out _ _ ?_ (fun hHeld => ?_)
          · exact ⟨(show v20.cell? ⟨w.heap.size, 0, none⟩ = some (v0_0) from (rA0.next bl).cell 0), (show v20.cell? ⟨w.heap.size + 1, 0, none⟩ = some (v1_0) from (rA1.next bl).cell 0), (show v20.cell? ⟨w.heap.size + 1, 1, none⟩ = some (v1_1) from (rA1.next bl).cell 1)⟩
          clear hK K
          try simp only [Act.put, List.setIfInBounds_toArray, List.set_cons_zero, List.set_cons_succ, List.getElem_toArray, List.getElem_cons_zero, List.getElem_cons_succ]
          refine wpAnyH_ready (rs := [3]) (by kernel_rfl) (by simp) (AllReadyH.cons rfl (fun K hK => ?_) AllReadyH.nil)
          try simp only [Act.put, List.setIfInBounds_toArray, List.set_cons_zero, List.set_cons_succ, List.getElem_toArray, List.getElem_cons_zero, List.getElem_cons_succ]
          rw [if_pos (by rfl)]
          go_simp
          refine (toK_Rule _ _ d1 _ (s1.next bl) h1.out).mono ?_
          rintro e v21 ⟨q1A0, q1n0, q1c0, q1A1, q1n1, q1c1, rfl, oq1, bb⟩
          replace oq0 := oq0.next bb
          replace rg := rg.next bb
          replace bl := next_trans bl bb
          replace bs := next_trans bs bb
          have zqv21 := bb.size
          clear bb
          go_wp2_with fail
          refine hK.out _ _ ?_ (fun hHeld => ?_)
          · exact ⟨(show v21.cell? ⟨w.heap.size, 0, none⟩ = some (v0_0) from (rA0.next bl).cell 0), (show v21.cell? ⟨w.heap.size + 1, 0, none⟩ = some (v1_0) from (rA1.next bl).cell 0), (show v21.cell? ⟨w.heap.size + 1, 1, none⟩ = some (v1_1) from (rA1.next bl).cell 1)⟩
          clear hK K
          try simp only [Act.put, List.setIfInBounds_toArray, List.set_cons_zero, List.set_cons_succ, List.getElem_toArray, List.getElem_cons_zero, List.getElem_cons_succ]
          refine wpAnyH_ready (rs := [4]) (by kernel_rfl) (by simp) (AllReadyH.cons rfl (fun K hK => ?_) AllReadyH.nil)
          try simp only [Act.put, List.setIfInBounds_toArray, List.set_cons_zero, List.set_cons_succ, List.getElem_toArray, List.getElem_cons_zero, List.getElem_cons_succ]
          rw [if_pos (by rfl)]
          go_simp
          refine (implRenamedRule _ _ _ d0 d1 _ oq0.rd oq1.rd h0.out h1.out).mono ?_
          rintro e v22 ⟨hA0, hn0, hc0, hA1, hn1, hc1, he, o0, bb⟩
          rw [HY.out] at o0
          subst he
          replace oq0 := oq0.next bb
          replace rg := rg.next bb
          replace oq1 := oq1.next bb
          replace bl := next_trans bl bb
          replace bs := next_trans bs bb
          have zqv22 := bb.size
          clear bb
          clear oq0 oq1
          go_wp2_with fail
          refine hK.out _ _ ?_ (fun hHeld => ?_)
          · exact ⟨(show v22.cell? ⟨w.heap.size, 0, none⟩ = some (v0_0) from (rA0.next bl).cell 0), (show v22.cell? ⟨w.heap.size + 1, 0, none⟩ = some (v1_0) from (rA1.next bl).cell 0), (show v22.cell? ⟨w.heap.size + 1, 1, none⟩ = some (v1_1) from (rA1.next bl).cell 1)⟩
          clear hK K
          try simp only [Act.put, List.setIfInBounds_toArray, List.set_cons_zero, List.set_cons_succ, List.getElem_toArray, List.getElem_cons_zero, List.getElem_cons_succ]
          have cg0 : (v22).cell? ⟨v14.heap.size, 0, none⟩ = some (.slice none 0 0) := (rg).cell 0
          have fg0 : (v22).frozen? ⟨v14.heap.size, 0, none⟩ = false := (rg).free 0
          have cg1 : ((v22).setCell ⟨v14.heap.size, 0, none⟩ (.slice hA0 hn0 hc0)).cell? ⟨v14.heap.size, 1, none⟩ = some (.slice none 0 0) := (Row.put (rg) 0 (.slice hA0 hn0 hc0)).cell 1
          have fg1 : ((v22).setCell ⟨v14.heap.size, 0, none⟩ (.slice hA0 hn0 hc0)).frozen? ⟨v14.heap.size, 1, none⟩ = false := (Row.put (rg) 0 (.slice hA0 hn0 hc0)).free 1
          have hne0 : v14.heap.size ≠ w.heap.size := by omega
          have hne1 : v14.heap.size ≠ w.heap.size + 1 := by omega
          refine wpAnyH_ready (rs := [6]) (by kernel_rfl) (by simp) (AllReadyH.cons rfl (fun K hK => ?_) AllReadyH.nil)
          try simp only [Act.put, List.setIfInBounds_toArray, List.set_cons_zero, List.set_cons_succ, List.getElem_toArray, List.getElem_cons_zero, List.getElem_cons_succ]
          rw [if_pos (by rfl)]
          go_simp
          refine hK.out _ _ ?_ (fun hHeld => ?_)
          · exact ⟨(far_cell hne0 (far_cell hne0 (show v22.cell? ⟨w.heap.size, 0, none⟩ = some (v0_0) from (rA0.next bl).cell 0))), (far_cell hne1 (far_cell hne1 (show v22.cell? ⟨w.heap.size + 1, 0, none⟩ = some (v1_0) from (rA1.next bl).cell 0))), (far_cell hne1 (far_cell hne1 (show v22.cell? ⟨w.heap.size + 1, 1, none⟩ = some (v1_1) from (rA1.next bl).cell 1)))⟩
          clear hK K
          try simp only [Act.put, List.setIfInBounds_toArray, List.set_cons_zero, List.set_cons_succ, List.getElem_toArray, List.getElem_cons_zero, List.getElem_cons_succ]
          refine wpAnyH_done (by kernel_rfl) ?_ _
          have F := boxed_put (W := w19.drew) o0 rg (by omega) bs hgB
          clear cg0 fg0 cg1 fg1 bl rg o0 bs hne0 hne1
          go_wp2_with fail
          go_meet
          exact F
      · skip
        try simp only [Act.put, List.setIfInBounds_toArray, List.set_cons_zero, List.set_cons_succ, List.getElem_toArray, List.getElem_cons_zero, List.getElem_cons_succ]
        rw [if_pos (by rfl)]
        go_simp
        obtain ⟨v23, hw⟩ : ∃ W, W = (w19.alloc (.cells #[.slice none 0 0, .slice none 0 0] 35)).drew := ⟨_, rfl⟩
        rw [← hw]
        have rg : Row v23 w19.heap.size 35 #[.slice none 0 0, .slice none 0 0] := by rw [hw]; exact Row.new _ _ _
        have bb : Below w19.drew.heap.size w19.drew v23 := by rw [hw]; exact (Below.refl _ _).alloc (Nat.le_refl _) _
        have ygg : w19.heap.size < v23.heap.size := rg.lt
        have hgB : w19.drew.heap.size ≤ w19.heap.size := bs.size
        clear hw
        replace bl := next_trans bl bb
        replace bs := next_trans bs bb
        have zqv23 := bb.size
        clear bb
        refine hK.out _ _ ?_ (fun hHeld => ?_)
        · exact ⟨(show v23.cell? ⟨w.heap.size, 0, none⟩ = some (v0_0) from (rA0.next bl).cell 0), (show v23.cell? ⟨w.heap.size + 1, 0, none⟩ = some (v1_0) from (rA1.next bl).cell 0), (show v23.cell? ⟨w.heap.size + 1, 1, none⟩ = some (v1_1) from (rA1.next bl).cell 1)⟩
        clear hK K
        try simp only [Act.put, List.setIfInBounds_toArray, List.set_cons_zero, List.set_cons_succ, List.getElem_toArray, List.getElem_cons_zero, List.getElem_cons_succ]
        refine wpAnyH_ready (rs := [1]) (by kernel_rfl) (by simp) (AllReadyH.cons rfl (fun K hK => ?_) AllReadyH.nil)
        try simp only [Act.put, List.setIfInBounds_toArray, List.set_cons_zero, List.set_cons_succ, List.getElem_toArray, List.getElem_cons_zero, List.getElem_cons_succ]
        rw [if_pos (by rfl)]
        go_simp
        refine (toK_Sig _ d0 _ (s0.next bl) h0.out).mono ?_
        rintro e v24 ⟨q0A0, q0n0, q0c0, rfl, oq0, bb⟩
        replace rg := rg.next bb
        replace bl := next_trans bl bb
        replace bs := next_trans bs bb
        have zqv24 := bb.size
        clear bb
        go_wp2_with fail
        refine hK.out _ _ ?_ (fun hHeld => ?_)
        · exact ⟨(show v24.cell? ⟨w.heap.size, 0, none⟩ = some (v0_0) from (rA0.next bl).cell 0), (show v24.cell? ⟨w.heap.size + 1, 0, none⟩ = some (v1_0) from (rA1.next bl).cell 0), (show v24.cell? ⟨w.heap.size + 1, 1, none⟩ = some (v1_1) from (rA1.next bl).cell 1)⟩
        clear hK K
        try simp only [Act.put, List.setIfInBounds_toArray, List.set_cons_zero, List.set_cons_succ, List.getElem_toArray, List.getElem_cons_zero, List.getElem_cons_succ]
        refine wpAnyH_ready (rs := [3]) (by kernel_rfl) (by simp) (AllReadyH.cons rfl (fun K hK => ?_) AllReadyH.nil)
        try simp only [Act.put, List.setIfInBounds_toArray, List.set_cons_zero, List.set_cons_succ, List.getElem_toArray, List.getElem_cons_zero, List.getElem_cons_succ]
        rw [if_pos (by rfl)]
        go_simp
        refine (toK_Rule _ _ d1 _ (s1.next bl) h1.out).mono ?_
        rintro e v25 ⟨q1A0, q1n0, q1c0, q1A1, q1n1, q1c1, rfl, oq1, bb⟩
        replace rg := rg.next bb
        replace oq0 := oq0.next bb
        replace bl := next_trans bl bb
        replace bs := next_trans bs bb
        have zqv25 := bb.size
        clear bb
        go_wp2_with fail
        refine hK.out _ _ ?_ (fun hHeld => ?_)
        · exact ⟨(show v25.cell? ⟨w.heap.size, 0, none⟩ = some (v0_0) from (rA0.next bl).cell 0), (show v25.cell? ⟨w.heap.size + 1, 0, none⟩ = some (v1_0) from (rA1.next bl).cell 0), (show v25.cell? ⟨w.heap.size + 1, 1, none⟩ = some (v1_1) from (rA1.next bl).cell 1)⟩
        clear hK K
        try simp only [Act.put, List.setIfInBounds_toArray, List.set_cons_zero, List.set_cons_succ, List.getElem_toArray, List.getElem_cons_zero, List.getElem_cons_succ]
        refine wpAnyH_ready (rs := [4]) (by kernel_rfl) (by simp) (AllReadyH.cons rfl (fun K hK => ?_) AllReadyH.nil)
        try simp only [Act.put, List.setIfInBounds_toArray, List.set_cons_zero, List.set_cons_succ, List.getElem_toArray, List.getElem_cons_zero, List.getElem_cons_succ]
        rw [if_pos (by rfl)]
        go_simp
        refine (implRenamedRule _ _ _ d0 d1 _ oq0.rd oq1.rd h0.out h1.out).mono ?_
        rintro e v26 ⟨hA0, hn0, hc0, hA1, hn1, hc1, he, o0, bb⟩
        rw [HY.out] at o0
        subst he
        replace rg := rg.next bb
        replace oq0 := oq0.next bb
        replace oq1 := oq1.next bb
        replace bl := next_trans bl bb
        replace bs := next_trans bs bb
        have zqv26 := bb.size
        clear bb
        clear oq0 oq1
        go_wp2_with fail
        refine hK.out _ _ ?_ (fun hHeld => ?_)
        · exact ⟨(show v26.cell? ⟨w.heap.size, 0, none⟩ = some (v0_0) from (rA0.next bl).cell 0), (show v26.cell? ⟨w.heap.size + 1, 0, none⟩ = some (v1_0) from (rA1.next bl).cell 0), (show v26.cell? ⟨w.heap.size + 1, 1, none⟩ = some (v1_1) from (rA1.next bl).cell 1)⟩
        clear hK K
        try simp only [Act.put, List.setIfInBounds_toArray, List.set_cons_zero, List.set_cons_succ, List.getElem_toArray, List.getElem_cons_zero, List.getElem_cons_succ]
        have cg0 : (v26).cell? ⟨w19.heap.size, 0, none⟩ = some (.slice none 0 0) := (rg).cell 0
        have fg0 : (v26).frozen? ⟨w19.heap.size, 0, none⟩ = false := (rg).free 0
        have cg1 : ((v26).setCell ⟨w19.heap.size, 0, none⟩ (.slice hA0 hn0 hc0)).cell? ⟨w19.heap.size, 1, none⟩ = some (.slice none 0 0) := (Row.put (rg) 0 (.slice hA0 hn0 hc0)).cell 1
        have fg1 : ((v26).setCell ⟨w19.heap.size, 0, none⟩ (.slice hA0 hn0 hc0)).frozen? ⟨w19.heap.size, 1, none⟩ = false := (Row.put (rg) 0 (.slice hA0 hn0 hc0)).free 1
        have hne0 : w19.heap.size ≠ w.heap.size := by omega
        have hne1 : w19.heap.size ≠ w.heap.size + 1 := by omega
        refine wpAnyH_ready (rs := [6]) (by kernel_rfl) (by simp) (AllReadyH.cons rfl (fun K hK => ?_) AllReadyH.nil)
        try simp only [Act.put, List.setIfInBounds_toArray, List.set_cons_zero, List.set_cons_succ, List.getElem_toArray, List.getElem_cons_zero, List.getElem_cons_succ]
        rw [if_pos (by rfl)]
        go_simp
        refine hK.out _ _ ?_ (fun hHeld => ?_)
        · exact ⟨(far_cell hne0 (far_cell hne0 (show v26.cell? ⟨w.heap.size, 0, none⟩ = some (v0_0) from (rA0.next bl).cell 0))), (far_cell hne1 (far_cell hne1 (show v26.cell? ⟨w.heap.size + 1, 0, none⟩ = some (v1_0) from (rA1.next bl).cell 0))), (far_cell hne1 (far_cell hne1 (show v26.cell? ⟨w.heap.size + 1, 1, none⟩ = some (v1_1) from (rA1.next bl).cell 1)))⟩
        clear hK K
        try simp only [Act.put, List.setIfInBounds_toArray, List.set_cons_zero, List.set_cons_succ, List.getElem_toArray, List.getElem_cons_zero, List.getElem_cons_succ]
        refine wpAnyH_done (by kernel_rfl) ?_ _
        have F := boxed_put (W := w19.drew) o0 rg (by omega) bs hgB
        clear cg0 fg0 cg1 fg1 bl rg o0 bs hne0 hne1
        go_wp2_with fail
        go_meet
        exact F
    case rest =>
      rename World => w20
      obtain ⟨bh, hA0, hn0, hc0, hA1, hn1, hc1, rfl, rh, sh, bb⟩ := hcut
      replace rg := rg.next bb
      replace om := om.next bb
      replace bel := next_trans bel bb
      replace belw := next_trans belw bb
      have zw20 := bb.size
      clear bb
      have belh := Below.refl w20.heap.size w20
      have cA0_0 : w20.cell? ⟨w.heap.size, 0, none⟩ = some (v0_0) := (rA0.next bel).cell 0
      have cA1_0 : w20.cell? ⟨w.heap.size + 1, 0, none⟩ = some (v1_0) := (rA1.next bel).cell 0
      have cA1_1 : w20.cell? ⟨w.heap.size + 1, 1, none⟩ = some (v1_1) := (rA1.next bel).cell 1
      have cw_0 : w20.cell? ⟨bw, 0, none⟩ = some (.slice wA0 wn0 wc0) := (rw.next belw).cell 0
      have cw_1 : w20.cell? ⟨bw, 1, none⟩ = some (.slice wA1 wn1 wc1) := (rw.next belw).cell 1
      have cg_0 : w20.cell? ⟨w8.heap.size, 0, none⟩ = some (.slice gA0 gn0 gc0) := (rg).cell 0
      have cg_1 : w20.cell? ⟨w8.heap.size, 1, none⟩ = some (.slice gA1 gn1 gc1) := (rg).cell 1
      have ch_0 : w20.cell? ⟨bh, 0, none⟩ = some (.slice hA0 hn0 hc0) := (rh.next belh).cell 0
      have ch_1 : w20.cell? ⟨bh, 1, none⟩ = some (.slice hA1 hn1 hc1) := (rh.next belh).cell 1
      go_wp2_with fail
      refine (eqK_Rule _ _ _ _ ys _ (sh.next belh) (sw.next belw) hlen.out).mono ?_
      rintro e w21 ⟨rfl, bb⟩
      replace rg := rg.next bb
      replace om := om.next bb
      replace bel := next_trans bel bb
      replace belw := next_trans belw bb
      replace belh := next_trans belh bb
      have zw21 := bb.size
      clear bb
      clear cA0_0 cA1_0 cA1_1 cw_0 cw_1 cg_0 cg_1 ch_0 ch_1
      have cA0_0 : w21.cell? ⟨w.heap.size, 0, none⟩ = some (v0_0) := (rA0.next bel).cell 0
      have cA1_0 : w21.cell? ⟨w.heap.size + 1, 0, none⟩ = some (v1_0) := (rA1.next bel).cell 0
      have cA1_1 : w21.cell? ⟨w.heap.size + 1, 1, none⟩ = some (v1_1) := (rA1.next bel).cell 1
      have cw_0 : w21.cell? ⟨bw, 0, none⟩ = some (.slice wA0 wn0 wc0) := (rw.next belw).cell 0
      have cw_1 : w21.cell? ⟨bw, 1, none⟩ = some (.slice wA1 wn1 wc1) := (rw.next belw).cell 1
      have cg_0 : w21.cell? ⟨w8.heap.size, 0, none⟩ = some (.slice gA0 gn0 gc0) := (rg).cell 0
      have cg_1 : w21.cell? ⟨w8.heap.size, 1, none⟩ = some (.slice gA1 gn1 gc1) := (rg).cell 1
      have ch_0 : w21.cell? ⟨bh, 0, none⟩ = some (.slice hA0 hn0 hc0) := (rh.next belh).cell 0
      have ch_1 : w21.cell? ⟨bh, 1, none⟩ = some (.slice hA1 hn1 hc1) := (rh.next belh).cell 1
      go_wp2_with fail
      refine (heldK_Rule _ _ ys 1 _ om.rd hlen.out (by omega) (by rw [HCG.out]; omega)).mono ?_
      rintro e w22 ⟨he, bb⟩
      rw [HCG.out] at he
      subst he
      replace rg := rg.next bb
      replace om := om.next bb
      replace bel := next_trans bel bb
      replace belw := next_trans belw bb
      replace belh := next_trans belh bb
      have zw22 := bb.size
      clear bb
      clear cA0_0 cA1_0 cA1_1 cw_0 cw_1 cg_0 cg_1 ch_0 ch_1
      have cA0_0 : w22.cell? ⟨w.heap.size, 0, none⟩ = some (v0_0) := (rA0.next bel).cell 0
      have cA1_0 : w22.cell? ⟨w.heap.size + 1, 0, none⟩ = some (v1_0) := (rA1.next bel).cell 0
      have cA1_1 : w22.cell? ⟨w.heap.size + 1, 1, none⟩ = some (v1_1) := (rA1.next bel).cell 1
      have cw_0 : w22.cell? ⟨bw, 0, none⟩ = some (.slice wA0 wn0 wc0) := (rw.next belw).cell 0
      have cw_1 : w22.cell? ⟨bw, 1, none⟩ = some (.slice wA1 wn1 wc1) := (rw.next belw).cell 1
      have cg_0 : w22.cell? ⟨w8.heap.size, 0, none⟩ = some (.slice gA0 gn0 gc0) := (rg).cell 0
      have cg_1 : w22.cell? ⟨w8.heap.size, 1, none⟩ = some (.slice gA1 gn1 gc1) := (rg).cell 1
      have ch_0 : w22.cell? ⟨bh, 0, none⟩ = some (.slice hA0 hn0 hc0) := (rh.next belh).cell 0
      have ch_1 : w22.cell? ⟨bh, 1, none⟩ = some (.slice hA1 hn1 hc1) := (rh.next belh).cell 1
      have F := Lib.hid (bW.trans (bel.mono bW.size))
      clear bel belw belh rg om bW cA0_0 cA1_0 cA1_1 cw_0 cw_1 cg_0 cg_1 ch_0 ch_1
      go_wp2
      go_ret
      exact ⟨rfl, F.out⟩
end Go.Proofs.Ytdkjafjphgcbjaa.wRenamedRule
end

section
/-
  ARGUMENTS OPENED OVER SHAPES: an argument of a law, as the row's form hands it over, reads as data ('Rd'), its numbers are numbers of 64 bits ('Wf'); whether a type has a shape is reckoned ('fitsB'). Conditions: none; plain lemmas over any program. By an AI agent.
-/
namespace Go.Proofs.Ytdkjafjphgcbjaa.openX
open Go.ChangeShapes Go.WideShapes Go.ChangeAt Go.RowKit Go.Proofs.Ytdkjafjphgcbjaa.base Go.Proofs.Ytdkjafjphgcbjaa.segs Go.Proofs.Ytdkjafjphgcbjaa.shape

/-- every number is one of 64 bits -/
def Wf : (s : Sh) → Dat s → Prop
  | .num, (x : Int) => -9223372036854775808 ≤ x ∧ x ≤ 9223372036854775807
  | .bit, _ => True
  | .row _ s, (d : List (Dat s)) => ∀ j, j < d.length → Wf s (d.getD j (dft s))
  | .cat a b, d => Wf a d.1 ∧ Wf b d.2
mutual
def fitsB (P : Program) : Nat → Sh → TypeId → Bool
  | 0, _, _ => false
  | n + 1, s, t => match P.underlying t with
    | some (.struct fs) => P.cellsOf t == nc s && fitsL P n fs.toList 0 s
    | some (.int .i64) => match s with | .num => true | _ => false
    | some .bool => match s with | .bit => true | _ => false
    | some (.slice e) => match s with | .row _ s' => P.cellsOf e == nc s' && fitsB P n s' e | _ => false
    | _ => false
def fitsL (P : Program) : Nat → List Field → Nat → Sh → Bool
  | 0, _, _, _ => false
  | _ + 1, [], _, _ => false
  | n + 1, [f], k, s => f.offset == k && (P.cellsOf f.type == nc s && fitsB P n s f.type)
  | n + 1, f :: g :: fs, k, s => match s with | .cat a b => f.offset == k && (P.cellsOf f.type == nc a && (fitsB P n a f.type && fitsL P n (g :: fs) (k + nc a) b)) | _ => false
end

section
variable {H : Type} {enc : TypeId × Value → H} {P : Program} {w : World} {held : Bool}
theorem addr_add {b off i : Nat} : (⟨b, off, none⟩ : Addr).add i = ⟨b, off + i, none⟩ := by unfold Addr.add; split <;> simp_all
theorem rd_trod : ∀ n : Nat, (∀ (s : Sh) (t : TypeId) (fuel : Nat) (cs : List Value) (x : DataW H × List MemPlace), fitsB P n s t = true → DataW.trod enc P w 0 (fun _ => true) held fuel t cs = some x → ∃ d, Rd w w.heap.size s cs d ∧ Wf s d) ∧
    (∀ (fs : List Field) (k : Nat) (s : Sh) (cs : List Value) (m : Nat), fitsL P n fs k s = true → (∀ (i : Nat) (f : Field), fs[i]? = some f → ∃ x, DataW.trod enc P w 0 (fun _ => true) held m f.type ((cs.drop f.offset).take (P.cellsOf f.type)) = some x) →
      ∃ d, Rd w w.heap.size s ((cs.drop k).take (nc s)) d ∧ Wf s d) := by
  intro n
  induction n with
  | zero => exact ⟨fun _ _ _ _ _ h => by simp [fitsB] at h, fun _ _ _ _ _ h => by simp [fitsL] at h⟩
  | succ n ih =>
    refine ⟨fun s t fuel cs x hf h => ?_, fun fs k s cs m hf h => ?_⟩
    · unfold fitsB at hf
      split at hf
      · rename_i fs hu
        simp only [Bool.and_eq_true, beq_iff_eq] at hf
        obtain ⟨xs, n', hfu, hx, hlen, hxl, hg⟩ := DataW.trod_struct hu h
        obtain ⟨d, hr, hw⟩ := ih.2 fs.toList 0 s cs n' hf.2 (fun i f hi => by
          have hi' : fs[i]? = some f := by simpa using hi
          have h1 := hg i f hi'
          have hlt : i < fs.size := (Array.getElem?_eq_some_iff.1 hi').1
          exact ⟨xs[i]'(by omega), by rw [h1]; exact List.getElem?_eq_getElem (by omega)⟩)
        rw [List.drop_zero, List.take_of_length_le (by omega)] at hr
        exact ⟨d, hr, hw⟩
      · rename_i hu
        split at hf
        · obtain ⟨z, e1, _, hw⟩ := DataW.trod_int hu h
          refine ⟨z, e1, ?_⟩
          show -9223372036854775808 ≤ z ∧ z ≤ 9223372036854775807
          simpa [Lit.wf, IntKind.min, IntKind.max, IntKind.signed, IntKind.bits] using hw
        · cases hf
      · rename_i hu
        split at hf
        · obtain ⟨z, e1, _⟩ := DataW.trod_bool hu h
          exact ⟨z, e1, trivial⟩
        · cases hf
      · rename_i e hu
        split at hf
        · rename_i e0 s'
          simp only [Bool.and_eq_true, beq_iff_eq] at hf
          rcases Go.Deep.open_slice hu h with ⟨hcs, _⟩ | ⟨a, len, cap, m, n', D, Pl, hcs, _, hl, hm, hmm, _, hi⟩
          · exact ⟨[], ⟨none, 0, 0, hcs, ⟨by omega, by omega, fun _ => rfl⟩, rfl, fun h => absurd h (by omega)⟩, fun j hj => absurd hj (Nat.not_lt_zero _)⟩
          · have hmc : m = cap := by simpa using hmm
            subst hmc
            have hd : ∀ j, j < len → ∃ (es : List Value) (dj : Dat s'), es.length = nc s' ∧ (∀ i, i < nc s' → w.cell? ((a.add (j * nc s')).add i) = es[i]?) ∧ Rd w w.heap.size s' es dj ∧ Wf s' dj := fun j hj => by
              obtain ⟨cs', hc, ht⟩ := hi j (by omega)
              obtain ⟨dj, hr, hw⟩ := ih.1 s' e n' cs' _ hf.2 ht
              rw [hf.1] at hc
              obtain ⟨_, hcl, hat⟩ := World.cells?_some hc
              exact ⟨cs', dj, hcl, hat, hr, hw⟩
            have hspot : 0 < len → a.spot = none := fun h0 => by
              obtain ⟨es, dj, h1, h2, _⟩ := hd 0 h0
              have hp := nc_pos s'
              have h3 := h2 0 (by omega)
              rw [List.getElem?_eq_getElem (by omega)] at h3
              have := World.cell?_spot h3
              simpa [Addr.add] using this
            obtain ⟨ds, hdl, hds⟩ : ∃ ds : List (Dat s'), ds.length = len ∧ ∀ j, j < len → ∃ es : List Value, es.length = nc s' ∧ (∀ i, i < nc s' → w.cell? ((a.add (j * nc s')).add i) = es[i]?) ∧ Rd w w.heap.size s' es (ds.getD j (dft s')) ∧ Wf s' (ds.getD j (dft s')) := by
              refine ⟨(List.range len).map fun j => if hj : j < len then Classical.choose (Classical.choose_spec (hd j hj)) else dft s', by simp, fun j hj => ?_⟩
              refine ⟨Classical.choose (hd j hj), ?_⟩
              have h1 := Classical.choose_spec (Classical.choose_spec (hd j hj))
              have e1 : ((List.range len).map fun j => if hj : j < len then Classical.choose (Classical.choose_spec (hd j hj)) else dft s').getD j (dft s') = Classical.choose (Classical.choose_spec (hd j hj)) := by simp [List.getD, hj]
              rw [e1]
              exact h1
            refine ⟨ds, ⟨some a, len, m, hcs, ⟨hl, by unfold maxLen at hm; omega, fun e => by cases e⟩, hdl, fun h0 => ?_⟩, fun j hj => by
              obtain ⟨es, _, _, _, hw⟩ := hds j (by rw [← hdl]; exact hj)
              exact hw⟩
            obtain ⟨b, off, spot⟩ := a
            have hs := hspot h0
            simp only at hs
            subst hs
            refine ⟨b, off, rfl, ?_, fun j hj => ?_⟩
            · obtain ⟨es, h1, h2, _⟩ := hds 0 h0
              have hp := nc_pos s'
              have h3 := h2 0 (by omega)
              rw [List.getElem?_eq_getElem (by omega)] at h3
              have h4 := World.block_lt_of_cell? _ _ h3
              simpa [addr_add] using h4
            · obtain ⟨es, h1, h2, h3, _⟩ := hds j hj
              refine ⟨es, h1, fun i hi2 => ?_, h3⟩
              have := h2 i (by omega)
              rw [addr_add, addr_add] at this
              exact this
        · cases hf
      · cases hf
    · match fs, hf, h with
      | [], hf, _ => simp [fitsL] at hf
      | [f], hf, h =>
        unfold fitsL at hf
        simp only [Bool.and_eq_true, beq_iff_eq] at hf
        obtain ⟨h1, h2, h3⟩ := hf
        obtain ⟨x, hx⟩ := h 0 f rfl
        rw [h1, h2] at hx
        exact ih.1 s f.type m _ x h3 hx
      | f :: g :: fs, hf, h =>
        cases s with
        | cat a b =>
          unfold fitsL at hf
          simp only [Bool.and_eq_true, beq_iff_eq] at hf
          obtain ⟨h1, h2, h3, h4⟩ := hf
          obtain ⟨x, hx⟩ := h 0 f rfl
          rw [h1, h2] at hx
          obtain ⟨d1, r1, w1⟩ := ih.1 a f.type m _ x h3 hx
          obtain ⟨d2, r2, w2⟩ := ih.2 (g :: fs) (k + nc a) b cs m h4 (fun i f' hi => h (i + 1) f' hi)
          refine ⟨(d1, d2), ⟨_, _, ?_, r1, r2⟩, w1, w2⟩
          show List.take (nc a + nc b) (List.drop k cs) = _
          rw [List.take_add, List.drop_drop]
        | num => simp [fitsL] at hf
        | bit => simp [fitsL] at hf
        | row e s' => simp [fitsL] at hf
/-- a slice, or a number, as an argument -/
theorem open_val {s : Sh} {t : TypeId} {v : Value} {d : DataW H} {p : List MemPlace} {n : Nat} (hf : fitsB P n s t = true) (h : DataW.Trod enc P w 0 (fun _ => true) held t v d p) : ∃ x, Rd w w.heap.size s v.cells.toList x ∧ Wf s x := by
  obtain ⟨fuel, hfu⟩ := h
  exact (rd_trod n).1 s t fuel _ _ hf hfu
end
end Go.Proofs.Ytdkjafjphgcbjaa.openX
end
