/-
  MERGED: my texts Variant, MatchMost, MatchImpl, Big, LawT, WFnMatched, one behind the other, as they are. By an AI agent.
-/
import Derived.Test.YthbhiihhanochaaMFnMatched5
import Derived.Deep.RegionHeld3
import Derived.Deep.WholeRow
import Derived.Deep.QuietTactic
import Derived.BigQuiet
section
/-
  (the regions' walks by wip/tools/reg.py) CONTRACTS: spec.VariantIn, impl.VariantIn. Conditions: the slices read as lists ('Seg'), at most 1048576 numbers. By an AI agent.
-/
namespace Go.Proofs.Ythbhiihhanochaa.variant
open Go.RowKit Go.Proofs.Ythbhiihhanochaa.base Go.Proofs.Ythbhiihhanochaa.ints Go.Proofs.Ythbhiihhanochaa.sig Go.Proofs.Ythbhiihhanochaa.same Go.Proofs.Ythbhiihhanochaa.term Go.Proofs.Ythbhiihhanochaa.termOk Go.Proofs.Ythbhiihhanochaa.marks Go.Proofs.Ythbhiihhanochaa.sym Go.Proofs.Ythbhiihhanochaa.termFacts Go.Proofs.Ythbhiihhanochaa.varsOf Go.Proofs.Ythbhiihhanochaa.renMath Go.Proofs.Ythbhiihhanochaa.rename Go.Proofs.Ythbhiihhanochaa.renImpl
set_option maxRecDepth 100000

/-- what VariantIn answers -/
def variantB (sg a b : List Int) : Bool := termOkB sg a && (termOkB sg b && decide (renL a = renL b))
theorem variant_a {sg a b : List Int} (h : termOkB sg a = false) : variantB sg a b = false := by unfold variantB; rw [h, Bool.false_and]
theorem variant_b {sg a b : List Int} (h : termOkB sg b = false) : variantB sg a b = false := by unfold variantB; rw [h, Bool.false_and, Bool.and_false]
theorem variant_ab {sg a b : List Int} (h : termOkB sg a = true) (h' : termOkB sg b = true) : variantB sg a b = decide (renL a = renL b) := by unfold variantB; rw [h, h', Bool.true_and, Bool.true_and]

set_option maxHeartbeats 4000000 in
theorem specVariantIn (A A' B' : Option Addr) (n c m c' q cq : Nat) (sg a b : List Int) (w : World) (h : Seg w w.heap.size A n sg) (h' : Seg w w.heap.size A' m a) (h2 : Seg w w.heap.size B' q b) (hn : n ≤ 1048576) (hm : m ≤ 1048576) (hq : q ≤ 1048576) :
    Calls Try.prog 85 #[.agg #[.slice A n c], .slice A' m c', .slice B' q cq] w (AnsB w (variantB sg a b)) := by
  obtain ⟨W, hW⟩ : ∃ W, W = w.alloc (.cells #[.slice A n c] 26) := ⟨_, rfl⟩
  have rA : Row W w.heap.size 26 #[.slice A n c] := by rw [hW]; exact Row.new _ _ _
  have bel : Below w.heap.size w W := by rw [hW]; exact (Below.refl _ _).alloc (Nat.le_refl _) _
  have s := h.next bel
  have s1 := h'.next bel
  have s2 := h2.next bel
  have HW := Lib.hid hW
  have L := Lib.hid (specTermOk A A' n c m c' sg a W s s1 hn hm)
  have H1 := Lib.hid h'.1
  have H2 := Lib.hid h2.1
  clear hW h h' h2
  cases hok : termOkB sg a with
  | false =>
    have HS := Lib.hid hok
    clear hok s s1 s2
    go_enter Try.func85, Try.ntmps85
    go_wp2_with fail
    rw [← HW.out]
    refine L.out.mono ?_
    rintro e w1 ⟨he, bb⟩
    rw [HS.out] at he
    subst he
    have F := Lib.hid (ansB (b := variantB sg a b) (a := false) (by rw [variant_a HS.out]) (next_trans bel bb))
    clear bb bel rA
    go_wp2
    go_ret
    exact F.out
  | true =>
    have HS := Lib.hid hok
    clear hok
    go_enter Try.func85, Try.ntmps85
    go_wp2_with fail
    rw [← HW.out]
    refine L.out.mono ?_
    rintro e w1 ⟨he, bb⟩
    rw [HS.out] at he
    subst he
    replace s := s.next bb
    replace s1 := s1.next bb
    replace s2 := s2.next bb
    have cA : w1.cell? ⟨w.heap.size, 0, none⟩ = some (.slice A n c) := (rA.next bb).cell 0
    replace bel := next_trans bel bb
    have L2 := Lib.hid (specTermOk A B' n c q cq sg b w1 s s2 hn hq)
    clear bb L rA
    cases hok2 : termOkB sg b with
    | false =>
      have HS2 := Lib.hid hok2
      clear hok2 s s1 s2
      go_wp2_with fail
      refine L2.out.mono ?_
      rintro e w2 ⟨he, bb⟩
      rw [HS2.out] at he
      subst he
      have F := Lib.hid (ansB (b := variantB sg a b) (a := false) (by rw [variant_b HS2.out]) (next_trans bel bb))
      clear bb bel cA
      go_wp2
      go_ret
      exact F.out
    | true =>
      have HS2 := Lib.hid hok2
      clear hok2
      go_wp2_with fail
      refine L2.out.mono ?_
      rintro e w2 ⟨he, bb⟩
      rw [HS2.out] at he
      subst he
      replace s1 := s1.next bb
      replace s2 := s2.next bb
      replace bel := next_trans bel bb
      clear bb cA L2 s
      go_wp2_with fail
      refine (l2Renamed A' m c' a _ s1 hm).mono ?_
      rintro e w3 ⟨X, xn, xc, rfl, ox, bb⟩
      replace s2 := s2.next bb
      replace bel := next_trans bel bb
      clear bb s1
      go_wp2_with fail
      refine (l2Renamed B' q cq b _ s2 hq).mono ?_
      rintro e w4 ⟨Y, yn, yc, rfl, oy, bb⟩
      have hxn : xn ≤ 1048576 := by rw [Own.len ox, ren_len, H1.out]; exact hm
      have hyn : yn ≤ 1048576 := by rw [Own.len oy, ren_len, H2.out]; exact hq
      have L3 := Lib.hid (specSame X Y xn yn xc yc (renL a) (renL b) w4 (Own.seg (ox.next bb)) (Own.seg oy) hxn hyn)
      replace bel := next_trans bel bb
      clear bb s2 ox oy
      go_wp2_with fail
      refine L3.out.mono ?_
      rintro e w5 ⟨rfl, d, rfl⟩
      have F := Lib.hid (ansB (b := variantB sg a b) (variant_ab HS.out HS2.out).symm (below_drewN bel d))
      clear bel L3
      generalize decide (renL a = renL b) = z at *
      go_wp2
      go_ret
      exact F.out

set_option maxHeartbeats 2000000 in
theorem implVariantIn (A A' B' : Option Addr) (n c m c' q cq : Nat) (sg a b : List Int) (w : World) (h : Seg w w.heap.size A n sg) (h' : Seg w w.heap.size A' m a) (h2 : Seg w w.heap.size B' q b) (hn : n ≤ 1048576) (hm : m ≤ 1048576) (hq : q ≤ 1048576) :
    Calls Try.prog 82 #[.agg #[.slice A n c], .slice A' m c', .slice B' q cq] w (AnsB w (variantB sg a b)) := by
  obtain ⟨W, hW⟩ : ∃ W, W = w.alloc (.cells #[.slice A n c] 26) := ⟨_, rfl⟩
  have rA : Row W w.heap.size 26 #[.slice A n c] := by rw [hW]; exact Row.new _ _ _
  have bel : Below w.heap.size w W := by rw [hW]; exact (Below.refl _ _).alloc (Nat.le_refl _) _
  have s := (h.next bel).drew
  have s1 := (h'.next bel).drew
  have s2 := (h2.next bel).drew
  have HW := Lib.hid hW
  have H1 := Lib.hid h'.1
  have H2 := Lib.hid h2.1
  have cA : W.cell? ⟨w.heap.size, 0, none⟩ = some (.slice A n c) := rA.cell 0
  replace rA := rA.drew
  replace bel := bel.drew
  have L := Lib.hid (implTermOk A A' n c m c' sg a W.drew s s1 hn hm)
  clear hW h h' h2
  cases hok : termOkB sg a with
  | false =>
    have HS := Lib.hid hok
    clear hok s s1 s2
    go_enter Try.func82, Try.ntmps82
    go_wp2_with fail
    rw [← HW.out]
    refine wp_region_held_drew (S := (fun w' => w'.cell? ⟨w.heap.size, 0, none⟩ = some (.slice A n c))) (by kernel_rfl) cA (fun hHeld => ?_)
    refine wpAnyH_take (i := 0) (v := ?_) rfl (by kernel_rfl) (by kernel_rfl) (by kernel_rfl) (fun _ _ _ h => h) (Or.inl ⟨by rfl, ?_⟩) (by assumption) ?_
    rotate_left 1
    · (intro w0 hSw; (try dsimp only at hSw); go_simp; try with_reducible rfl)
    try simp only [Act.put, List.setIfInBounds_toArray, List.set_cons_zero, List.set_cons_succ, List.getElem_toArray, List.getElem_cons_zero, List.getElem_cons_succ]
    refine wpAnyH_take (i := 1) (v := ?_) rfl (by kernel_rfl) (by kernel_rfl) (by kernel_rfl) (fun _ _ _ h => h) (Or.inl ⟨by rfl, ?_⟩) (by assumption) ?_
    rotate_left 1
    · (intro w0 hSw; (try dsimp only at hSw); go_simp; try with_reducible rfl)
    try simp only [Act.put, List.setIfInBounds_toArray, List.set_cons_zero, List.set_cons_succ, List.getElem_toArray, List.getElem_cons_zero, List.getElem_cons_succ]
    refine wpAnyH_ready (rs := [2]) (by kernel_rfl) (by simp) (AllReadyH.cons rfl (fun K hK => ?_) AllReadyH.nil)
    go_simp
    refine L.out.mono ?_; rintro e w1 ⟨he, bb⟩; rw [HS.out] at he; subst he; have c1 : w1.cell? ⟨w.heap.size, 0, none⟩ = some (.slice A n c) := (rA.next bb).cell 0; go_wp2_with fail
    refine hK.out _ _ ?_ (fun hHeld => ?_)
    · first | assumption | (dsimp only; assumption)
    clear hK K
    try simp only [Act.put, List.setIfInBounds_toArray, List.set_cons_zero, List.set_cons_succ, List.getElem_toArray, List.getElem_cons_zero, List.getElem_cons_succ]
    refine wpAnyH_take (i := 3) (v := ?_) rfl (by kernel_rfl) (by kernel_rfl) (by kernel_rfl) (fun _ _ _ h => h) (Or.inl ⟨by rfl, ?_⟩) (by assumption) ?_
    rotate_left 1
    · (intro w0 hSw; (try dsimp only at hSw); go_simp; try with_reducible rfl)
    try simp only [Act.put, List.setIfInBounds_toArray, List.set_cons_zero, List.set_cons_succ, List.getElem_toArray, List.getElem_cons_zero, List.getElem_cons_succ]
    refine wpAnyH_take (i := 4) (v := undef) rfl (by kernel_rfl) (by kernel_rfl) (by kernel_rfl) (fun _ _ _ h => h) (Or.inr ⟨by rfl, rfl⟩) (by assumption) ?_
    try simp only [Act.put, List.setIfInBounds_toArray, List.set_cons_zero, List.set_cons_succ, List.getElem_toArray, List.getElem_cons_zero, List.getElem_cons_succ]
    refine wpAnyH_take (i := 5) (v := undef) rfl (by kernel_rfl) (by kernel_rfl) (by kernel_rfl) (fun _ _ _ h => h) (Or.inr ⟨by rfl, rfl⟩) (by assumption) ?_
    try simp only [Act.put, List.setIfInBounds_toArray, List.set_cons_zero, List.set_cons_succ, List.getElem_toArray, List.getElem_cons_zero, List.getElem_cons_succ]
    refine wpAnyH_take (i := 6) (v := undef) rfl (by kernel_rfl) (by kernel_rfl) (by kernel_rfl) (fun _ _ _ h => h) (Or.inr ⟨by rfl, rfl⟩) (by assumption) ?_
    try simp only [Act.put, List.setIfInBounds_toArray, List.set_cons_zero, List.set_cons_succ, List.getElem_toArray, List.getElem_cons_zero, List.getElem_cons_succ]
    refine wpAnyH_take (i := 7) (v := ?_) rfl (by kernel_rfl) (by kernel_rfl) (by kernel_rfl) (fun _ _ _ h => h) (Or.inl ⟨by rfl, ?_⟩) (by assumption) ?_
    rotate_left 1
    · (intro w0 hSw; (try dsimp only at hSw); go_simp; try with_reducible rfl)
    try simp only [Act.put, List.setIfInBounds_toArray, List.set_cons_zero, List.set_cons_succ, List.getElem_toArray, List.getElem_cons_zero, List.getElem_cons_succ]
    refine wpAnyH_take (i := 8) (v := ?_) rfl (by kernel_rfl) (by kernel_rfl) (by kernel_rfl) (fun _ _ _ h => h) (Or.inl ⟨by rfl, ?_⟩) (by assumption) ?_
    rotate_left 1
    · (intro w0 hSw; (try dsimp only at hSw); go_simp; try with_reducible rfl)
    try simp only [Act.put, List.setIfInBounds_toArray, List.set_cons_zero, List.set_cons_succ, List.getElem_toArray, List.getElem_cons_zero, List.getElem_cons_succ]
    refine wpAnyH_take (i := 9) (v := undef) rfl (by kernel_rfl) (by kernel_rfl) (by kernel_rfl) (fun _ _ _ h => h) (Or.inr ⟨by rfl, rfl⟩) (by assumption) ?_
    try simp only [Act.put, List.setIfInBounds_toArray, List.set_cons_zero, List.set_cons_succ, List.getElem_toArray, List.getElem_cons_zero, List.getElem_cons_succ]
    refine wpAnyH_take (i := 10) (v := undef) rfl (by kernel_rfl) (by kernel_rfl) (by kernel_rfl) (fun _ _ _ h => h) (Or.inr ⟨by rfl, rfl⟩) (by assumption) ?_
    try simp only [Act.put, List.setIfInBounds_toArray, List.set_cons_zero, List.set_cons_succ, List.getElem_toArray, List.getElem_cons_zero, List.getElem_cons_succ]
    refine wpAnyH_take (i := 11) (v := undef) rfl (by kernel_rfl) (by kernel_rfl) (by kernel_rfl) (fun _ _ _ h => h) (Or.inr ⟨by rfl, rfl⟩) (by assumption) ?_
    try simp only [Act.put, List.setIfInBounds_toArray, List.set_cons_zero, List.set_cons_succ, List.getElem_toArray, List.getElem_cons_zero, List.getElem_cons_succ]
    refine wpAnyH_take (i := 12) (v := undef) rfl (by kernel_rfl) (by kernel_rfl) (by kernel_rfl) (fun _ _ _ h => h) (Or.inr ⟨by rfl, rfl⟩) (by assumption) ?_
    try simp only [Act.put, List.setIfInBounds_toArray, List.set_cons_zero, List.set_cons_succ, List.getElem_toArray, List.getElem_cons_zero, List.getElem_cons_succ]
    refine wpAnyH_take (i := 13) (v := undef) rfl (by kernel_rfl) (by kernel_rfl) (by kernel_rfl) (fun _ _ _ h => h) (Or.inr ⟨by rfl, rfl⟩) (by assumption) ?_
    try simp only [Act.put, List.setIfInBounds_toArray, List.set_cons_zero, List.set_cons_succ, List.getElem_toArray, List.getElem_cons_zero, List.getElem_cons_succ]
    refine wpAnyH_take (i := 14) (v := undef) rfl (by kernel_rfl) (by kernel_rfl) (by kernel_rfl) (fun _ _ _ h => h) (Or.inr ⟨by rfl, rfl⟩) (by assumption) ?_
    try simp only [Act.put, List.setIfInBounds_toArray, List.set_cons_zero, List.set_cons_succ, List.getElem_toArray, List.getElem_cons_zero, List.getElem_cons_succ]
    refine wpAnyH_take (i := 15) (v := undef) rfl (by kernel_rfl) (by kernel_rfl) (by kernel_rfl) (fun _ _ _ h => h) (Or.inr ⟨by rfl, rfl⟩) (by assumption) ?_
    try simp only [Act.put, List.setIfInBounds_toArray, List.set_cons_zero, List.set_cons_succ, List.getElem_toArray, List.getElem_cons_zero, List.getElem_cons_succ]
    refine wpAnyH_take (i := 16) (v := ?_) rfl (by kernel_rfl) (by kernel_rfl) (by kernel_rfl) (fun _ _ _ h => h) (Or.inl ⟨by rfl, ?_⟩) (by assumption) ?_
    rotate_left 1
    · (intro w0 hSw; (try dsimp only at hSw); go_simp; try with_reducible rfl)
    try simp only [Act.put, List.setIfInBounds_toArray, List.set_cons_zero, List.set_cons_succ, List.getElem_toArray, List.getElem_cons_zero, List.getElem_cons_succ]
    refine wpAnyH_take (i := 17) (v := ?_) rfl (by kernel_rfl) (by kernel_rfl) (by kernel_rfl) (fun _ _ _ h => h) (Or.inl ⟨by rfl, ?_⟩) (by assumption) ?_
    rotate_left 1
    · (intro w0 hSw; (try dsimp only at hSw); go_simp; try with_reducible rfl)
    try simp only [Act.put, List.setIfInBounds_toArray, List.set_cons_zero, List.set_cons_succ, List.getElem_toArray, List.getElem_cons_zero, List.getElem_cons_succ]
    refine wpAnyH_done (by kernel_rfl) ?_ _
    have F := Lib.hid (ansB (b := variantB sg a b) (a := false) (by rw [variant_a HS.out]) (next_trans bel bb))
    go_wp2
    go_ret
    exact F.out
  | true =>
    have HS := Lib.hid hok
    clear hok
    cases hok2 : termOkB sg b with
    | false =>
      have HS2 := Lib.hid hok2
      clear hok2
      go_enter Try.func82, Try.ntmps82
      go_wp2_with fail
      rw [← HW.out]
      refine wp_region_held_drew (S := (fun w' => w'.cell? ⟨w.heap.size, 0, none⟩ = some (.slice A n c))) (by kernel_rfl) cA (fun hHeld => ?_)
      refine wpAnyH_take (i := 0) (v := ?_) rfl (by kernel_rfl) (by kernel_rfl) (by kernel_rfl) (fun _ _ _ h => h) (Or.inl ⟨by rfl, ?_⟩) (by assumption) ?_
      rotate_left 1
      · (intro w0 hSw; (try dsimp only at hSw); go_simp; try with_reducible rfl)
      try simp only [Act.put, List.setIfInBounds_toArray, List.set_cons_zero, List.set_cons_succ, List.getElem_toArray, List.getElem_cons_zero, List.getElem_cons_succ]
      refine wpAnyH_take (i := 1) (v := ?_) rfl (by kernel_rfl) (by kernel_rfl) (by kernel_rfl) (fun _ _ _ h => h) (Or.inl ⟨by rfl, ?_⟩) (by assumption) ?_
      rotate_left 1
      · (intro w0 hSw; (try dsimp only at hSw); go_simp; try with_reducible rfl)
      try simp only [Act.put, List.setIfInBounds_toArray, List.set_cons_zero, List.set_cons_succ, List.getElem_toArray, List.getElem_cons_zero, List.getElem_cons_succ]
      refine wpAnyH_ready (rs := [2]) (by kernel_rfl) (by simp) (AllReadyH.cons rfl (fun K hK => ?_) AllReadyH.nil)
      go_simp
      refine L.out.mono ?_; rintro e w1 ⟨he, bb⟩; rw [HS.out] at he; subst he; have t0 := s.next bb; have t1 := s1.next bb; have t2 := s2.next bb; have tr := rA.next bb; have tb := next_trans bel bb; have c1 : w1.cell? ⟨w.heap.size, 0, none⟩ = some (.slice A n c) := tr.cell 0; clear s s1 s2 rA bel bb L; go_wp2_with fail
      refine hK.out _ _ ?_ (fun hHeld => ?_)
      · first | assumption | (dsimp only; assumption)
      clear hK K
      try simp only [Act.put, List.setIfInBounds_toArray, List.set_cons_zero, List.set_cons_succ, List.getElem_toArray, List.getElem_cons_zero, List.getElem_cons_succ]
      refine wpAnyH_take (i := 3) (v := ?_) rfl (by kernel_rfl) (by kernel_rfl) (by kernel_rfl) (fun _ _ _ h => h) (Or.inl ⟨by rfl, ?_⟩) (by assumption) ?_
      rotate_left 1
      · (intro w0 hSw; (try dsimp only at hSw); go_simp; try with_reducible rfl)
      try simp only [Act.put, List.setIfInBounds_toArray, List.set_cons_zero, List.set_cons_succ, List.getElem_toArray, List.getElem_cons_zero, List.getElem_cons_succ]
      refine wpAnyH_take (i := 4) (v := ?_) rfl (by kernel_rfl) (by kernel_rfl) (by kernel_rfl) (fun _ _ _ h => h) (Or.inl ⟨by rfl, ?_⟩) (by assumption) ?_
      rotate_left 1
      · (intro w0 hSw; (try dsimp only at hSw); go_simp; try with_reducible rfl)
      try simp only [Act.put, List.setIfInBounds_toArray, List.set_cons_zero, List.set_cons_succ, List.getElem_toArray, List.getElem_cons_zero, List.getElem_cons_succ]
      refine wpAnyH_take (i := 5) (v := ?_) rfl (by kernel_rfl) (by kernel_rfl) (by kernel_rfl) (fun _ _ _ h => h) (Or.inl ⟨by rfl, ?_⟩) (by assumption) ?_
      rotate_left 1
      · (intro w0 hSw; (try dsimp only at hSw); go_simp; try with_reducible rfl)
      try simp only [Act.put, List.setIfInBounds_toArray, List.set_cons_zero, List.set_cons_succ, List.getElem_toArray, List.getElem_cons_zero, List.getElem_cons_succ]
      refine wpAnyH_ready (rs := [6]) (by kernel_rfl) (by simp) (AllReadyH.cons rfl (fun K hK => ?_) AllReadyH.nil)
      go_simp
      refine (implTermOk A B' n c q cq sg b w1 t0 t2 hn hq).mono ?_; rintro e w2 ⟨he, bb2⟩; rw [HS2.out] at he; subst he; have u0 := t0.next bb2; have u1 := t1.next bb2; have u2 := t2.next bb2; have ur := tr.next bb2; have ub := next_trans tb bb2; have c2 : w2.cell? ⟨w.heap.size, 0, none⟩ = some (.slice A n c) := ur.cell 0; clear t0 t1 t2 tr tb bb2; go_wp2_with fail
      refine hK.out _ _ ?_ (fun hHeld => ?_)
      · first | assumption | (dsimp only; assumption)
      clear hK K
      try simp only [Act.put, List.setIfInBounds_toArray, List.set_cons_zero, List.set_cons_succ, List.getElem_toArray, List.getElem_cons_zero, List.getElem_cons_succ]
      refine wpAnyH_take (i := 7) (v := ?_) rfl (by kernel_rfl) (by kernel_rfl) (by kernel_rfl) (fun _ _ _ h => h) (Or.inl ⟨by rfl, ?_⟩) (by assumption) ?_
      rotate_left 1
      · (intro w0 hSw; (try dsimp only at hSw); go_simp; try with_reducible rfl)
      try simp only [Act.put, List.setIfInBounds_toArray, List.set_cons_zero, List.set_cons_succ, List.getElem_toArray, List.getElem_cons_zero, List.getElem_cons_succ]
      refine wpAnyH_take (i := 8) (v := ?_) rfl (by kernel_rfl) (by kernel_rfl) (by kernel_rfl) (fun _ _ _ h => h) (Or.inl ⟨by rfl, ?_⟩) (by assumption) ?_
      rotate_left 1
      · (intro w0 hSw; (try dsimp only at hSw); go_simp; try with_reducible rfl)
      try simp only [Act.put, List.setIfInBounds_toArray, List.set_cons_zero, List.set_cons_succ, List.getElem_toArray, List.getElem_cons_zero, List.getElem_cons_succ]
      refine wpAnyH_take (i := 9) (v := undef) rfl (by kernel_rfl) (by kernel_rfl) (by kernel_rfl) (fun _ _ _ h => h) (Or.inr ⟨by rfl, rfl⟩) (by assumption) ?_
      try simp only [Act.put, List.setIfInBounds_toArray, List.set_cons_zero, List.set_cons_succ, List.getElem_toArray, List.getElem_cons_zero, List.getElem_cons_succ]
      refine wpAnyH_take (i := 10) (v := undef) rfl (by kernel_rfl) (by kernel_rfl) (by kernel_rfl) (fun _ _ _ h => h) (Or.inr ⟨by rfl, rfl⟩) (by assumption) ?_
      try simp only [Act.put, List.setIfInBounds_toArray, List.set_cons_zero, List.set_cons_succ, List.getElem_toArray, List.getElem_cons_zero, List.getElem_cons_succ]
      refine wpAnyH_take (i := 11) (v := undef) rfl (by kernel_rfl) (by kernel_rfl) (by kernel_rfl) (fun _ _ _ h => h) (Or.inr ⟨by rfl, rfl⟩) (by assumption) ?_
      try simp only [Act.put, List.setIfInBounds_toArray, List.set_cons_zero, List.set_cons_succ, List.getElem_toArray, List.getElem_cons_zero, List.getElem_cons_succ]
      refine wpAnyH_take (i := 12) (v := undef) rfl (by kernel_rfl) (by kernel_rfl) (by kernel_rfl) (fun _ _ _ h => h) (Or.inr ⟨by rfl, rfl⟩) (by assumption) ?_
      try simp only [Act.put, List.setIfInBounds_toArray, List.set_cons_zero, List.set_cons_succ, List.getElem_toArray, List.getElem_cons_zero, List.getElem_cons_succ]
      refine wpAnyH_take (i := 13) (v := undef) rfl (by kernel_rfl) (by kernel_rfl) (by kernel_rfl) (fun _ _ _ h => h) (Or.inr ⟨by rfl, rfl⟩) (by assumption) ?_
      try simp only [Act.put, List.setIfInBounds_toArray, List.set_cons_zero, List.set_cons_succ, List.getElem_toArray, List.getElem_cons_zero, List.getElem_cons_succ]
      refine wpAnyH_take (i := 14) (v := undef) rfl (by kernel_rfl) (by kernel_rfl) (by kernel_rfl) (fun _ _ _ h => h) (Or.inr ⟨by rfl, rfl⟩) (by assumption) ?_
      try simp only [Act.put, List.setIfInBounds_toArray, List.set_cons_zero, List.set_cons_succ, List.getElem_toArray, List.getElem_cons_zero, List.getElem_cons_succ]
      refine wpAnyH_take (i := 15) (v := undef) rfl (by kernel_rfl) (by kernel_rfl) (by kernel_rfl) (fun _ _ _ h => h) (Or.inr ⟨by rfl, rfl⟩) (by assumption) ?_
      try simp only [Act.put, List.setIfInBounds_toArray, List.set_cons_zero, List.set_cons_succ, List.getElem_toArray, List.getElem_cons_zero, List.getElem_cons_succ]
      refine wpAnyH_take (i := 16) (v := ?_) rfl (by kernel_rfl) (by kernel_rfl) (by kernel_rfl) (fun _ _ _ h => h) (Or.inl ⟨by rfl, ?_⟩) (by assumption) ?_
      rotate_left 1
      · (intro w0 hSw; (try dsimp only at hSw); go_simp; try with_reducible rfl)
      try simp only [Act.put, List.setIfInBounds_toArray, List.set_cons_zero, List.set_cons_succ, List.getElem_toArray, List.getElem_cons_zero, List.getElem_cons_succ]
      refine wpAnyH_take (i := 17) (v := ?_) rfl (by kernel_rfl) (by kernel_rfl) (by kernel_rfl) (fun _ _ _ h => h) (Or.inl ⟨by rfl, ?_⟩) (by assumption) ?_
      rotate_left 1
      · (intro w0 hSw; (try dsimp only at hSw); go_simp; try with_reducible rfl)
      try simp only [Act.put, List.setIfInBounds_toArray, List.set_cons_zero, List.set_cons_succ, List.getElem_toArray, List.getElem_cons_zero, List.getElem_cons_succ]
      refine wpAnyH_done (by kernel_rfl) ?_ _
      have F := Lib.hid (ansB (b := variantB sg a b) (a := false) (by rw [variant_b HS2.out]) ub)
      go_wp2
      go_ret
      exact F.out
    | true =>
      have HS2 := Lib.hid hok2
      clear hok2
      obtain ⟨z, hz⟩ : ∃ z, variantB sg a b = z := ⟨_, rfl⟩
      rw [hz]
      have EQ := Lib.hid (show decide (renI sg a = renI sg b) = z by rw [← hz, variant_ab HS.out HS2.out]; unfold renI; rw [if_pos HS.out, if_pos HS2.out])
      clear hz
      go_enter Try.func82, Try.ntmps82
      go_wp2_with fail
      rw [← HW.out]
      refine wp_region_held_drew (S := (fun w' => w'.cell? ⟨w.heap.size, 0, none⟩ = some (.slice A n c))) (by kernel_rfl) cA (fun hHeld => ?_)
      refine wpAnyH_take (i := 0) (v := ?_) rfl (by kernel_rfl) (by kernel_rfl) (by kernel_rfl) (fun _ _ _ h => h) (Or.inl ⟨by rfl, ?_⟩) (by assumption) ?_
      rotate_left 1
      · (intro w0 hSw; (try dsimp only at hSw); go_simp; try with_reducible rfl)
      try simp only [Act.put, List.setIfInBounds_toArray, List.set_cons_zero, List.set_cons_succ, List.getElem_toArray, List.getElem_cons_zero, List.getElem_cons_succ]
      refine wpAnyH_take (i := 1) (v := ?_) rfl (by kernel_rfl) (by kernel_rfl) (by kernel_rfl) (fun _ _ _ h => h) (Or.inl ⟨by rfl, ?_⟩) (by assumption) ?_
      rotate_left 1
      · (intro w0 hSw; (try dsimp only at hSw); go_simp; try with_reducible rfl)
      try simp only [Act.put, List.setIfInBounds_toArray, List.set_cons_zero, List.set_cons_succ, List.getElem_toArray, List.getElem_cons_zero, List.getElem_cons_succ]
      refine wpAnyH_ready (rs := [2]) (by kernel_rfl) (by simp) (AllReadyH.cons rfl (fun K hK => ?_) AllReadyH.nil)
      go_simp
      refine L.out.mono ?_; rintro e w1 ⟨he, bb⟩; rw [HS.out] at he; subst he; have t0 := s.next bb; have t1 := s1.next bb; have t2 := s2.next bb; have tr := rA.next bb; have tb := next_trans bel bb; have c1 : w1.cell? ⟨w.heap.size, 0, none⟩ = some (.slice A n c) := tr.cell 0; clear s s1 s2 rA bel bb L; go_wp2_with fail
      refine hK.out _ _ ?_ (fun hHeld => ?_)
      · first | assumption | (dsimp only; assumption)
      clear hK K
      try simp only [Act.put, List.setIfInBounds_toArray, List.set_cons_zero, List.set_cons_succ, List.getElem_toArray, List.getElem_cons_zero, List.getElem_cons_succ]
      refine wpAnyH_take (i := 3) (v := ?_) rfl (by kernel_rfl) (by kernel_rfl) (by kernel_rfl) (fun _ _ _ h => h) (Or.inl ⟨by rfl, ?_⟩) (by assumption) ?_
      rotate_left 1
      · (intro w0 hSw; (try dsimp only at hSw); go_simp; try with_reducible rfl)
      try simp only [Act.put, List.setIfInBounds_toArray, List.set_cons_zero, List.set_cons_succ, List.getElem_toArray, List.getElem_cons_zero, List.getElem_cons_succ]
      refine wpAnyH_take (i := 4) (v := ?_) rfl (by kernel_rfl) (by kernel_rfl) (by kernel_rfl) (fun _ _ _ h => h) (Or.inl ⟨by rfl, ?_⟩) (by assumption) ?_
      rotate_left 1
      · (intro w0 hSw; (try dsimp only at hSw); go_simp; try with_reducible rfl)
      try simp only [Act.put, List.setIfInBounds_toArray, List.set_cons_zero, List.set_cons_succ, List.getElem_toArray, List.getElem_cons_zero, List.getElem_cons_succ]
      refine wpAnyH_take (i := 5) (v := ?_) rfl (by kernel_rfl) (by kernel_rfl) (by kernel_rfl) (fun _ _ _ h => h) (Or.inl ⟨by rfl, ?_⟩) (by assumption) ?_
      rotate_left 1
      · (intro w0 hSw; (try dsimp only at hSw); go_simp; try with_reducible rfl)
      try simp only [Act.put, List.setIfInBounds_toArray, List.set_cons_zero, List.set_cons_succ, List.getElem_toArray, List.getElem_cons_zero, List.getElem_cons_succ]
      refine wpAnyH_ready (rs := [6]) (by kernel_rfl) (by simp) (AllReadyH.cons rfl (fun K hK => ?_) AllReadyH.nil)
      go_simp
      refine (implTermOk A B' n c q cq sg b w1 t0 t2 hn hq).mono ?_; rintro e w2 ⟨he, bb2⟩; rw [HS2.out] at he; subst he; have u0 := t0.next bb2; have u1 := t1.next bb2; have u2 := t2.next bb2; have ur := tr.next bb2; have ub := next_trans tb bb2; have c2 : w2.cell? ⟨w.heap.size, 0, none⟩ = some (.slice A n c) := ur.cell 0; clear t0 t1 t2 tr tb bb2; go_wp2_with fail
      refine hK.out _ _ ?_ (fun hHeld => ?_)
      · first | assumption | (dsimp only; assumption)
      clear hK K
      try simp only [Act.put, List.setIfInBounds_toArray, List.set_cons_zero, List.set_cons_succ, List.getElem_toArray, List.getElem_cons_zero, List.getElem_cons_succ]
      refine wpAnyH_take (i := 7) (v := ?_) rfl (by kernel_rfl) (by kernel_rfl) (by kernel_rfl) (fun _ _ _ h => h) (Or.inl ⟨by rfl, ?_⟩) (by assumption) ?_
      rotate_left 1
      · (intro w0 hSw; (try dsimp only at hSw); go_simp; try with_reducible rfl)
      try simp only [Act.put, List.setIfInBounds_toArray, List.set_cons_zero, List.set_cons_succ, List.getElem_toArray, List.getElem_cons_zero, List.getElem_cons_succ]
      refine wpAnyH_take (i := 8) (v := ?_) rfl (by kernel_rfl) (by kernel_rfl) (by kernel_rfl) (fun _ _ _ h => h) (Or.inl ⟨by rfl, ?_⟩) (by assumption) ?_
      rotate_left 1
      · (intro w0 hSw; (try dsimp only at hSw); go_simp; try with_reducible rfl)
      try simp only [Act.put, List.setIfInBounds_toArray, List.set_cons_zero, List.set_cons_succ, List.getElem_toArray, List.getElem_cons_zero, List.getElem_cons_succ]
      refine wpAnyH_take (i := 9) (v := ?_) rfl (by kernel_rfl) (by kernel_rfl) (by kernel_rfl) (fun _ _ _ h => h) (Or.inl ⟨by rfl, ?_⟩) (by assumption) ?_
      rotate_left 1
      · (intro w0 hSw; (try dsimp only at hSw); go_simp; try with_reducible rfl)
      try simp only [Act.put, List.setIfInBounds_toArray, List.set_cons_zero, List.set_cons_succ, List.getElem_toArray, List.getElem_cons_zero, List.getElem_cons_succ]
      refine wpAnyH_take (i := 10) (v := ?_) rfl (by kernel_rfl) (by kernel_rfl) (by kernel_rfl) (fun _ _ _ h => h) (Or.inl ⟨by rfl, ?_⟩) (by assumption) ?_
      rotate_left 1
      · (intro w0 hSw; (try dsimp only at hSw); go_simp; try with_reducible rfl)
      try simp only [Act.put, List.setIfInBounds_toArray, List.set_cons_zero, List.set_cons_succ, List.getElem_toArray, List.getElem_cons_zero, List.getElem_cons_succ]
      refine wpAnyH_take (i := 12) (v := ?_) rfl (by kernel_rfl) (by kernel_rfl) (by kernel_rfl) (fun _ _ _ h => h) (Or.inl ⟨by rfl, ?_⟩) (by assumption) ?_
      rotate_left 1
      · (intro w0 hSw; (try dsimp only at hSw); go_simp; try with_reducible rfl)
      try simp only [Act.put, List.setIfInBounds_toArray, List.set_cons_zero, List.set_cons_succ, List.getElem_toArray, List.getElem_cons_zero, List.getElem_cons_succ]
      refine wpAnyH_take (i := 13) (v := ?_) rfl (by kernel_rfl) (by kernel_rfl) (by kernel_rfl) (fun _ _ _ h => h) (Or.inl ⟨by rfl, ?_⟩) (by assumption) ?_
      rotate_left 1
      · (intro w0 hSw; (try dsimp only at hSw); go_simp; try with_reducible rfl)
      try simp only [Act.put, List.setIfInBounds_toArray, List.set_cons_zero, List.set_cons_succ, List.getElem_toArray, List.getElem_cons_zero, List.getElem_cons_succ]
      refine wpAnyH_ready (rs := [11]) (by kernel_rfl) (by simp) (AllReadyH.cons rfl (fun K hK => ?_) AllReadyH.nil)
      go_simp
      refine (implRenamed A A' n c m c' sg a w2 u0 u1 hn hm).mono ?_; rintro e w3 ⟨X, xn, xc, rfl, ox, bb3⟩; have v0 := u0.next bb3; have v2 := u2.next bb3; have vr := ur.next bb3; have vb := next_trans ub bb3; have c3 : w3.cell? ⟨w.heap.size, 0, none⟩ = some (.slice A n c) := vr.cell 0; clear u0 u1 u2 ur ub bb3; go_wp2_with fail
      refine hK.out _ _ ?_ (fun hHeld => ?_)
      · first | assumption | (dsimp only; assumption)
      clear hK K
      try simp only [Act.put, List.setIfInBounds_toArray, List.set_cons_zero, List.set_cons_succ, List.getElem_toArray, List.getElem_cons_zero, List.getElem_cons_succ]
      refine wpAnyH_ready (rs := [14]) (by kernel_rfl) (by simp) (AllReadyH.cons rfl (fun K hK => ?_) AllReadyH.nil)
      go_simp
      refine (implRenamed A B' n c q cq sg b w3 v0 v2 hn hq).mono ?_; rintro e w4 ⟨Y, yn, yc, rfl, oy, bb4⟩; have ox4 := ox.next bb4; have zr := vr.next bb4; have zb := next_trans vb bb4; have c4 : w4.cell? ⟨w.heap.size, 0, none⟩ = some (.slice A n c) := zr.cell 0; have hxn : xn ≤ 1048576 := (by rw [Own.len ox]; exact renI_len H1.out hm); have hyn : yn ≤ 1048576 := (by rw [Own.len oy]; exact renI_len H2.out hq); clear v0 v2 vr vb bb4 ox; go_wp2_with fail
      refine hK.out _ _ ?_ (fun hHeld => ?_)
      · first | assumption | (dsimp only; assumption)
      clear hK K
      try simp only [Act.put, List.setIfInBounds_toArray, List.set_cons_zero, List.set_cons_succ, List.getElem_toArray, List.getElem_cons_zero, List.getElem_cons_succ]
      refine wpAnyH_ready (rs := [15]) (by kernel_rfl) (by simp) (AllReadyH.cons rfl (fun K hK => ?_) AllReadyH.nil)
      go_simp
      refine (implSame X Y xn yn xc yc (renI sg a) (renI sg b) w4 (Own.seg ox4) (Own.seg oy) hxn hyn).mono ?_; rintro e w5 ⟨he, d, rfl⟩; rw [EQ.out] at he; subst he; have c5 : (w4.drewN d).cell? ⟨w.heap.size, 0, none⟩ = some (.slice A n c) := (zr.drewN d).cell 0; go_wp2_with fail
      refine hK.out _ _ ?_ (fun hHeld => ?_)
      · first | assumption | (dsimp only; assumption)
      clear hK K
      try simp only [Act.put, List.setIfInBounds_toArray, List.set_cons_zero, List.set_cons_succ, List.getElem_toArray, List.getElem_cons_zero, List.getElem_cons_succ]
      refine wpAnyH_take (i := 16) (v := ?_) rfl (by kernel_rfl) (by kernel_rfl) (by kernel_rfl) (fun _ _ _ h => h) (Or.inl ⟨by rfl, ?_⟩) (by assumption) ?_
      rotate_left 1
      · (intro w0 hSw; (try dsimp only at hSw); go_simp; try with_reducible rfl)
      try simp only [Act.put, List.setIfInBounds_toArray, List.set_cons_zero, List.set_cons_succ, List.getElem_toArray, List.getElem_cons_zero, List.getElem_cons_succ]
      refine wpAnyH_take (i := 17) (v := ?_) rfl (by kernel_rfl) (by kernel_rfl) (by kernel_rfl) (fun _ _ _ h => h) (Or.inl ⟨by rfl, ?_⟩) (by assumption) ?_
      rotate_left 1
      · (intro w0 hSw; (try dsimp only at hSw); go_simp; try with_reducible rfl)
      try simp only [Act.put, List.setIfInBounds_toArray, List.set_cons_zero, List.set_cons_succ, List.getElem_toArray, List.getElem_cons_zero, List.getElem_cons_succ]
      refine wpAnyH_done (by kernel_rfl) ?_ _
      have F := Lib.hid (ansB (b := z) (a := z) rfl (below_drewN zb d))
      clear ox4 oy zb zr c4 c5
      go_wp2
      go_ret
      exact F.out
end Go.Proofs.Ythbhiihhanochaa.variant
end

section
/-
  CONTRACTS: spec.MostGeneral. Conditions: the slices read as lists ('Seg', 'Segs'), at most 1048576 numbers. (The regions' walks by wip/tools/reg.py.) By an AI agent.
-/
namespace Go.Proofs.Ythbhiihhanochaa.matchMost
open Go.RowKit Go.Proofs.Ythbhiihhanochaa.base Go.Proofs.Ythbhiihhanochaa.ints Go.Proofs.Ythbhiihhanochaa.sig Go.Proofs.Ythbhiihhanochaa.term Go.Proofs.Ythbhiihhanochaa.termOk Go.Proofs.Ythbhiihhanochaa.endAt Go.Proofs.Ythbhiihhanochaa.inside Go.Proofs.Ythbhiihhanochaa.marks Go.Proofs.Ythbhiihhanochaa.app Go.Proofs.Ythbhiihhanochaa.sym Go.Proofs.Ythbhiihhanochaa.segs Go.Proofs.Ythbhiihhanochaa.segsHelp Go.Proofs.Ythbhiihhanochaa.termFacts Go.Proofs.Ythbhiihhanochaa.renMath Go.Proofs.Ythbhiihhanochaa.varsOf Go.Proofs.Ythbhiihhanochaa.variant Go.Proofs.Ythbhiihhanochaa.pathSpec Go.Proofs.Ythbhiihhanochaa.matchMath Go.Proofs.Ythbhiihhanochaa.matchSpec Go.Proofs.Ythbhiihhanochaa.matchList
set_option maxRecDepth 100000

/-- what speaks against i at k -/
def hitB (sg : List Int) (ps : List (List Int)) (i k : Nat) : Bool := moreB sg (ps.getD k []) (ps.getD i []) || (decide (k < i) && variantB sg (ps.getD k []) (ps.getD i []))
def bestK (sg : List Int) (ps : List (List Int)) (i : Nat) : Nat → Bool
  | 0 => true
  | k + 1 => bestK sg ps i k && !hitB sg ps i k
theorem bestK_all {sg : List Int} {ps : List (List Int)} {i : Nat} : ∀ k, bestK sg ps i k = (List.range k).all fun j => !hitB sg ps i j
  | 0 => rfl
  | k + 1 => by
    rw [List.range_succ, List.all_append, ← bestK_all k]
    simp [bestK]
theorem bestK_best {sg : List Int} {ps : List (List Int)} {i : Nat} : bestK sg ps i ps.length = bestB sg ps i := by rw [bestK_all]; rfl
def mgN (sg : List Int) (ps : List (List Int)) : Nat → List Int
  | 0 => []
  | i + 1 => mgN sg ps i ++ (if bestB sg ps i = true then [(i : Int)] else [])
theorem mg_len {sg : List Int} {ps : List (List Int)} : ∀ k, (mgN sg ps k).length ≤ k
  | 0 => by simp [mgN]
  | k + 1 => by
    have := mg_len (sg := sg) (ps := ps) k
    simp only [mgN, List.length_append]
    split <;> simp <;> omega
def mgI (sg : List Int) (ps : List (List Int)) : List Int := if allB sg ps = true then mgN sg ps ps.length else []

def HeadMg (w : World) (A : Option Addr) (n c : Nat) (sg : List Int) (P : Option Addr) (pn : Nat) (ps : List (List Int)) (g : Nat) (out k : Value) (wr : World) : Prop :=
  ∃ (i : Nat) (O : Option Addr) (on oc : Nat), k = .int .i64 i ∧ i + g = pn ∧ out = .slice O on oc ∧ Own wr (w.heap.size + 1) (.slice O on oc) (mgN sg ps i) ∧ Fs w wr A n c sg P pn ps
def InMg (w : World) (A : Option Addr) (n c : Nat) (sg : List Int) (P : Option Addr) (pn : Nat) (ps : List (List Int)) (i : Nat) (O : Option Addr) (on oc : Nat) (g : Nat) (best k : Value) (wr : World) : Prop :=
  ∃ j : Nat, k = .int .i64 j ∧ j + g = pn ∧ best = .bool (bestK sg ps i j) ∧ Own wr (w.heap.size + 1) (.slice O on oc) (mgN sg ps i) ∧ Fs w wr A n c sg P pn ps

set_option maxHeartbeats 4000000 in
theorem specMostGeneral (A P : Option Addr) (n c pn pc : Nat) (sg : List Int) (ps : List (List Int)) (w : World) (h : Seg w w.heap.size A n sg) (hp : Segs w w.heap.size P pn ps) (hn : n ≤ 1048576) (htot : tot ps ≤ 1048576) :
    Calls Try.prog 30 #[.agg #[.slice A n c], .slice P pn pc] w (AnsList w (mgI sg ps)) := by
  obtain ⟨W, hW⟩ : ∃ W, W = (w.alloc (.cells #[.slice A n c] 26)).alloc (.cells #[] 2) := ⟨_, rfl⟩
  have f : Fs w W A n c sg P pn ps := by rw [hW]; exact (Fs.start h hp).alloc _
  have ow : Own W (w.heap.size + 1) (.slice (some ⟨w.heap.size + 1, 0, none⟩) 0 0) [] := by
    rw [hW]
    have := own_empty (w.alloc (.cells #[.slice A n c] 26)) (w.heap.size + 1) (by simp)
    simpa using this
  have HW := Lib.hid hW
  have HL := Lib.hid hp.1
  have HE := Lib.hid (tot_each htot)
  have cA := f.cell
  have cA0 : ((w.alloc (.cells #[.slice A n c] 26)).alloc (.cells #[] 2)).cell? ⟨w.heap.size, 0, none⟩ = some (.slice A n c) := by rw [← hW]; exact cA
  have LP := Lib.hid (l4All A P n c pn pc sg ps W f.s1 (f.s'.more (Nat.le_of_lt f.size)) hn htot)
  clear hW h hp htot
  cases hall : allB sg ps with
  | false =>
    have HS := Lib.hid hall
    have HF := Lib.hid (show mgI sg ps = [] by unfold mgI; rw [if_neg (by rw [hall]; simp)])
    clear hall
    go_enter Try.func30, Try.ntmps30
    go_wp2_with fail
    rw [← HW.out]
    refine LP.out.mono ?_
    rintro e w1 ⟨he, bb⟩
    rw [HS.out] at he
    subst he
    have F := Lib.hid (list_of (w := w) HF.out (Own.next ow bb) (Nat.le_succ _) (f.next bb).b)
    clear f ow bb LP cA cA0
    go_wp2
    go_ret
    exact F.out
  | true =>
    have HSP := Lib.hid hall
    have hp12 : pn ≤ 12 := by have h1 := (all_parts hall).2.1; rw [HL.out] at h1; exact h1
    have HF := Lib.hid (show mgI sg ps = mgN sg ps pn by unfold mgI; rw [if_pos hall, HL.out])
    clear hall
    go_enter Try.func30, Try.ntmps30
    go_wp2_with fail
    rw [← HW.out]
    refine LP.out.mono ?_
    rintro e w1 ⟨he, bb⟩
    rw [HSP.out] at he
    subst he
    have S0 : HeadMg w A n c sg P pn ps pn (.slice (some ⟨w.heap.size + 1, 0, none⟩) 0 0) (.int .i64 0) w1 := ⟨0, _, 0, 0, rfl, by omega, rfl, Own.next ow bb, f.next bb⟩
    have HS0 := Lib.hid S0
    clear S0 f ow bb cA cA0 LP
    go_wp2_with fail
    go_loopg [5, 6] pn (fun g out k wr => HeadMg w A n c sg P pn ps g out k wr)
    case atStart => exact HS0.out
    case round =>
      obtain ⟨i, O, on, oc, rfl, hi, rfl, ho, f⟩ := hrel
      obtain ⟨G, hG⟩ : ∃ G, G = gk := ⟨_, rfl⟩
      subst hG
      clear HS0
      have HI := Lib.hid hi
      clear hi
      have hon : on ≤ 12 := by have h1 := Own.len ho; have h2 := mg_len (sg := sg) (ps := ps) i; have := HI.out; omega
      by_cases hip : i < pn
      · have hGk := Lib.hid (show G - 1 < G ∧ i + 1 + (G - 1) = pn by have := HI.out; omega)
        have HS1 := Lib.hid (show InMg w A n c sg P pn ps i O on oc pn (.bool true) (.int .i64 0) wr from ⟨0, rfl, by omega, rfl, ho, f⟩)
        clear ho f
        go_wp2_with fail
        go_loopg [7, 8] pn (fun g best k wr => InMg w A n c sg P pn ps i O on oc g best k wr)
        case atStart => exact HS1.out
        case round =>
          obtain ⟨k, rfl, hk, rfl, ho, f⟩ := hrel
          clear HS1
          have HK := Lib.hid hk
          clear hk
          by_cases hkp : k < pn
          · have hgk := Lib.hid (show gk - 1 < gk ∧ k + 1 + (gk - 1) = pn by have := HK.out; omega)
            obtain ⟨b, off, D, dn, dc, rfl, hbb, hck, hsk, hcapk⟩ := f.s'.spot hkp
            obtain ⟨b', off', E, en, ec, e', -, hci, hsi, hcapi⟩ := f.s'.spot hip
            injection e' with e'
            injection e' with e1 e2
            subst e1 e2
            have hdn : dn ≤ 1048576 := by have := HE.out k; rw [hsk.1] at this; exact this
            have hen : en ≤ 1048576 := by have := HE.out i; rw [hsi.1] at this; exact this
            have sk : Seg wr.drew wr.drew.heap.size D dn (ps.getD k []) := (hsk.more (Nat.le_of_lt f.size)).drew
            have si : Seg wr.drew wr.drew.heap.size E en (ps.getD i []) := (hsi.more (Nat.le_of_lt f.size)).drew
            obtain ⟨yk, hyk⟩ : ∃ ys, ps.getD k [] = ys := ⟨_, rfl⟩
            obtain ⟨yi, hyi⟩ : ∃ ys, ps.getD i [] = ys := ⟨_, rfl⟩
            rw [hyk] at sk
            rw [hyi] at si
            obtain ⟨bm, hbm⟩ : ∃ b, moreB sg yk yi = b := ⟨_, rfl⟩
            obtain ⟨bv, hbv⟩ : ∃ b, variantB sg yk yi = b := ⟨_, rfl⟩
            have HM := Lib.hid hbm
            have HV := Lib.hid hbv
            have HH := Lib.hid (show bestK sg ps i (k + 1) = (bestK sg ps i k && !(bm || (decide (k < i) && bv))) by simp only [bestK, hitB]; rw [hyk, hyi, hbm, hbv])
            obtain ⟨bb, hbk⟩ : ∃ b, bestK sg ps i k = b := ⟨_, rfl⟩
            rw [hbk] at HH ⊢
            have z0 := f.size
            have HZ := Lib.hid (show b < wr.heap.size by omega)
            have k1 := hcapk.1
            have k2 := hcapk.2.1
            have l1 := hcapi.1
            have l2 := hcapi.2.1
            have cA := f.cell
            have fd := f.drew
            replace ho := Own.drew ho
            have hk60 : k ≤ 12 := by omega
            have i0 : (0 : Int) ≤ (k : Int) := by omega
            have i1 : (k : Int) < (pn : Int) := by omega
            have i2 : (0 : Int) ≤ (i : Int) := by omega
            have i3 : (i : Int) < (pn : Int) := by omega
            clear hsk hsi hcapk hcapi hyk hyi hbm hbv hbk f
            cases bm with
            | true =>
              go_wp2_with fail
              refine wp_region_held_drew (S := (fun w' => w'.cell? ⟨w.heap.size, 0, none⟩ = some (.slice A n c) ∧ w'.cell? ⟨b, off + k, none⟩ = some (.slice D dn dc) ∧ w'.cell? ⟨b, off + i, none⟩ = some (.slice E en ec))) (by kernel_rfl) ⟨cA, hck, hci⟩ (fun hHeld => ?_)
              refine wpAnyH_take (i := 0) (v := ?_) rfl (by kernel_rfl) (by kernel_rfl) (by kernel_rfl) (fun _ _ _ h => h) (Or.inl ⟨by rfl, ?_⟩) (by assumption) ?_
              rotate_left 1
              · (intro w0 hSw; (try dsimp only at hSw); go_simp; try with_reducible rfl)
              try simp only [Act.put, List.setIfInBounds_toArray, List.set_cons_zero, List.set_cons_succ, List.getElem_toArray, List.getElem_cons_zero, List.getElem_cons_succ]
              refine wpAnyH_take (i := 1) (v := ?_) rfl (by kernel_rfl) (by kernel_rfl) (by kernel_rfl) (fun _ _ _ h => h) (Or.inl ⟨by rfl, ?_⟩) (by assumption) ?_
              rotate_left 1
              · (intro w0 hSw; (try dsimp only at hSw); go_simp; try with_reducible rfl)
              try simp only [Act.put, List.setIfInBounds_toArray, List.set_cons_zero, List.set_cons_succ, List.getElem_toArray, List.getElem_cons_zero, List.getElem_cons_succ]
              refine wpAnyH_take (i := 2) (v := ?_) rfl (by kernel_rfl) (by kernel_rfl) (by kernel_rfl) (fun _ _ _ h => h) (Or.inl ⟨by rfl, ?_⟩) (by assumption) ?_
              rotate_left 1
              · (intro w0 hSw; (try dsimp only at hSw); go_simp; try with_reducible rfl)
              try simp only [Act.put, List.setIfInBounds_toArray, List.set_cons_zero, List.set_cons_succ, List.getElem_toArray, List.getElem_cons_zero, List.getElem_cons_succ]
              refine wpAnyH_take (i := 3) (v := ?_) rfl (by kernel_rfl) (by kernel_rfl) (by kernel_rfl) (fun _ _ _ h => h) (Or.inl ⟨by rfl, ?_⟩) (by assumption) ?_
              rotate_left 1
              · (intro w0 hSw; (try dsimp only at hSw); go_simp; try with_reducible rfl)
              try simp only [Act.put, List.setIfInBounds_toArray, List.set_cons_zero, List.set_cons_succ, List.getElem_toArray, List.getElem_cons_zero, List.getElem_cons_succ]
              refine wpAnyH_take (i := 4) (v := ?_) rfl (by kernel_rfl) (by kernel_rfl) (by kernel_rfl) (fun _ _ _ h => h) (Or.inl ⟨by rfl, ?_⟩) (by assumption) ?_
              rotate_left 1
              · (intro w0 hSw; (try dsimp only at hSw); go_simp; try with_reducible rfl)
              try simp only [Act.put, List.setIfInBounds_toArray, List.set_cons_zero, List.set_cons_succ, List.getElem_toArray, List.getElem_cons_zero, List.getElem_cons_succ]
              refine wpAnyH_take (i := 5) (v := ?_) rfl (by kernel_rfl) (by kernel_rfl) (by kernel_rfl) (fun _ _ _ h => h) (Or.inl ⟨by rfl, ?_⟩) (by assumption) ?_
              rotate_left 1
              · (intro w0 hSw; (try dsimp only at hSw); go_simp; try with_reducible rfl)
              try simp only [Act.put, List.setIfInBounds_toArray, List.set_cons_zero, List.set_cons_succ, List.getElem_toArray, List.getElem_cons_zero, List.getElem_cons_succ]
              refine wpAnyH_take (i := 6) (v := ?_) rfl (by kernel_rfl) (by kernel_rfl) (by kernel_rfl) (fun _ _ _ h => h) (Or.inl ⟨by rfl, ?_⟩) (by assumption) ?_
              rotate_left 1
              · (intro w0 hSw; (try dsimp only at hSw); go_simp; try with_reducible rfl)
              try simp only [Act.put, List.setIfInBounds_toArray, List.set_cons_zero, List.set_cons_succ, List.getElem_toArray, List.getElem_cons_zero, List.getElem_cons_succ]
              refine wpAnyH_take (i := 7) (v := ?_) rfl (by kernel_rfl) (by kernel_rfl) (by kernel_rfl) (fun _ _ _ h => h) (Or.inl ⟨by rfl, ?_⟩) (by assumption) ?_
              rotate_left 1
              · (intro w0 hSw; (try dsimp only at hSw); go_simp; try with_reducible rfl)
              try simp only [Act.put, List.setIfInBounds_toArray, List.set_cons_zero, List.set_cons_succ, List.getElem_toArray, List.getElem_cons_zero, List.getElem_cons_succ]
              refine wpAnyH_take (i := 8) (v := ?_) rfl (by kernel_rfl) (by kernel_rfl) (by kernel_rfl) (fun _ _ _ h => h) (Or.inl ⟨by rfl, ?_⟩) (by assumption) ?_
              rotate_left 1
              · (intro w0 hSw; (try dsimp only at hSw); go_simp; try with_reducible rfl)
              try simp only [Act.put, List.setIfInBounds_toArray, List.set_cons_zero, List.set_cons_succ, List.getElem_toArray, List.getElem_cons_zero, List.getElem_cons_succ]
              refine wpAnyH_ready (rs := [9]) (by kernel_rfl) (by simp) (AllReadyH.cons rfl (fun K hK => ?_) AllReadyH.nil)
              try simp only [Act.put, List.setIfInBounds_toArray, List.set_cons_zero, List.set_cons_succ, List.getElem_toArray, List.getElem_cons_zero, List.getElem_cons_succ]
              rw [if_pos (by rfl)]
              go_simp
              refine (specMoreGeneral A D E n c dn dc en ec sg yk yi _ fd.s1 sk si hn hdn hen k1 k2 l1 l2).mono ?_; rintro e w3 ⟨he, b1⟩; rw [HM.out] at he; subst he; have f3 := fd.next b1; have x1 := f3.cell; have x2 : w3.cell? ⟨b, off + k, none⟩ = some (.slice D dn dc) := (b1.cell (p := ⟨b, off + k, none⟩) HZ.out).trans hck; have x3 : w3.cell? ⟨b, off + i, none⟩ = some (.slice E en ec) := (b1.cell (p := ⟨b, off + i, none⟩) HZ.out).trans hci; go_wp2_with fail
              refine hK.out _ _ ?_ (fun hHeld => ?_)
              · first | assumption | (dsimp only; assumption) | exact ⟨by assumption, by assumption⟩ | exact ⟨by assumption, by assumption, by assumption⟩
              clear hK K
              try simp only [Act.put, List.setIfInBounds_toArray, List.set_cons_zero, List.set_cons_succ, List.getElem_toArray, List.getElem_cons_zero, List.getElem_cons_succ]
              refine wpAnyH_take (i := 10) (v := ?_) rfl (by kernel_rfl) (by kernel_rfl) (by kernel_rfl) (fun _ _ _ h => h) (Or.inl ⟨by rfl, ?_⟩) (by assumption) ?_
              rotate_left 1
              · (intro w0 hSw; (try dsimp only at hSw); go_simp; try with_reducible rfl)
              try simp only [Act.put, List.setIfInBounds_toArray, List.set_cons_zero, List.set_cons_succ, List.getElem_toArray, List.getElem_cons_zero, List.getElem_cons_succ]
              refine wpAnyH_take (i := 11) (v := undef) rfl (by kernel_rfl) (by kernel_rfl) (by kernel_rfl) (fun _ _ _ h => h) (Or.inr ⟨by rfl, rfl⟩) (by assumption) ?_
              try simp only [Act.put, List.setIfInBounds_toArray, List.set_cons_zero, List.set_cons_succ, List.getElem_toArray, List.getElem_cons_zero, List.getElem_cons_succ]
              refine wpAnyH_take (i := 12) (v := undef) rfl (by kernel_rfl) (by kernel_rfl) (by kernel_rfl) (fun _ _ _ h => h) (Or.inr ⟨by rfl, rfl⟩) (by assumption) ?_
              try simp only [Act.put, List.setIfInBounds_toArray, List.set_cons_zero, List.set_cons_succ, List.getElem_toArray, List.getElem_cons_zero, List.getElem_cons_succ]
              refine wpAnyH_take (i := 13) (v := undef) rfl (by kernel_rfl) (by kernel_rfl) (by kernel_rfl) (fun _ _ _ h => h) (Or.inr ⟨by rfl, rfl⟩) (by assumption) ?_
              try simp only [Act.put, List.setIfInBounds_toArray, List.set_cons_zero, List.set_cons_succ, List.getElem_toArray, List.getElem_cons_zero, List.getElem_cons_succ]
              refine wpAnyH_take (i := 14) (v := undef) rfl (by kernel_rfl) (by kernel_rfl) (by kernel_rfl) (fun _ _ _ h => h) (Or.inr ⟨by rfl, rfl⟩) (by assumption) ?_
              try simp only [Act.put, List.setIfInBounds_toArray, List.set_cons_zero, List.set_cons_succ, List.getElem_toArray, List.getElem_cons_zero, List.getElem_cons_succ]
              refine wpAnyH_take (i := 15) (v := undef) rfl (by kernel_rfl) (by kernel_rfl) (by kernel_rfl) (fun _ _ _ h => h) (Or.inr ⟨by rfl, rfl⟩) (by assumption) ?_
              try simp only [Act.put, List.setIfInBounds_toArray, List.set_cons_zero, List.set_cons_succ, List.getElem_toArray, List.getElem_cons_zero, List.getElem_cons_succ]
              refine wpAnyH_take (i := 16) (v := undef) rfl (by kernel_rfl) (by kernel_rfl) (by kernel_rfl) (fun _ _ _ h => h) (Or.inr ⟨by rfl, rfl⟩) (by assumption) ?_
              try simp only [Act.put, List.setIfInBounds_toArray, List.set_cons_zero, List.set_cons_succ, List.getElem_toArray, List.getElem_cons_zero, List.getElem_cons_succ]
              refine wpAnyH_take (i := 17) (v := undef) rfl (by kernel_rfl) (by kernel_rfl) (by kernel_rfl) (fun _ _ _ h => h) (Or.inr ⟨by rfl, rfl⟩) (by assumption) ?_
              try simp only [Act.put, List.setIfInBounds_toArray, List.set_cons_zero, List.set_cons_succ, List.getElem_toArray, List.getElem_cons_zero, List.getElem_cons_succ]
              refine wpAnyH_take (i := 18) (v := undef) rfl (by kernel_rfl) (by kernel_rfl) (by kernel_rfl) (fun _ _ _ h => h) (Or.inr ⟨by rfl, rfl⟩) (by assumption) ?_
              try simp only [Act.put, List.setIfInBounds_toArray, List.set_cons_zero, List.set_cons_succ, List.getElem_toArray, List.getElem_cons_zero, List.getElem_cons_succ]
              refine wpAnyH_take (i := 19) (v := undef) rfl (by kernel_rfl) (by kernel_rfl) (by kernel_rfl) (fun _ _ _ h => h) (Or.inr ⟨by rfl, rfl⟩) (by assumption) ?_
              try simp only [Act.put, List.setIfInBounds_toArray, List.set_cons_zero, List.set_cons_succ, List.getElem_toArray, List.getElem_cons_zero, List.getElem_cons_succ]
              refine wpAnyH_take (i := 20) (v := undef) rfl (by kernel_rfl) (by kernel_rfl) (by kernel_rfl) (fun _ _ _ h => h) (Or.inr ⟨by rfl, rfl⟩) (by assumption) ?_
              try simp only [Act.put, List.setIfInBounds_toArray, List.set_cons_zero, List.set_cons_succ, List.getElem_toArray, List.getElem_cons_zero, List.getElem_cons_succ]
              refine wpAnyH_take (i := 21) (v := undef) rfl (by kernel_rfl) (by kernel_rfl) (by kernel_rfl) (fun _ _ _ h => h) (Or.inr ⟨by rfl, rfl⟩) (by assumption) ?_
              try simp only [Act.put, List.setIfInBounds_toArray, List.set_cons_zero, List.set_cons_succ, List.getElem_toArray, List.getElem_cons_zero, List.getElem_cons_succ]
              refine wpAnyH_take (i := 22) (v := undef) rfl (by kernel_rfl) (by kernel_rfl) (by kernel_rfl) (fun _ _ _ h => h) (Or.inr ⟨by rfl, rfl⟩) (by assumption) ?_
              try simp only [Act.put, List.setIfInBounds_toArray, List.set_cons_zero, List.set_cons_succ, List.getElem_toArray, List.getElem_cons_zero, List.getElem_cons_succ]
              refine wpAnyH_take (i := 23) (v := undef) rfl (by kernel_rfl) (by kernel_rfl) (by kernel_rfl) (fun _ _ _ h => h) (Or.inr ⟨by rfl, rfl⟩) (by assumption) ?_
              try simp only [Act.put, List.setIfInBounds_toArray, List.set_cons_zero, List.set_cons_succ, List.getElem_toArray, List.getElem_cons_zero, List.getElem_cons_succ]
              refine wpAnyH_take (i := 24) (v := undef) rfl (by kernel_rfl) (by kernel_rfl) (by kernel_rfl) (fun _ _ _ h => h) (Or.inr ⟨by rfl, rfl⟩) (by assumption) ?_
              try simp only [Act.put, List.setIfInBounds_toArray, List.set_cons_zero, List.set_cons_succ, List.getElem_toArray, List.getElem_cons_zero, List.getElem_cons_succ]
              refine wpAnyH_take (i := 25) (v := undef) rfl (by kernel_rfl) (by kernel_rfl) (by kernel_rfl) (fun _ _ _ h => h) (Or.inr ⟨by rfl, rfl⟩) (by assumption) ?_
              try simp only [Act.put, List.setIfInBounds_toArray, List.set_cons_zero, List.set_cons_succ, List.getElem_toArray, List.getElem_cons_zero, List.getElem_cons_succ]
              refine wpAnyH_take (i := 26) (v := ?_) rfl (by kernel_rfl) (by kernel_rfl) (by kernel_rfl) (fun _ _ _ h => h) (Or.inl ⟨by rfl, ?_⟩) (by assumption) ?_
              rotate_left 1
              · (intro w0 hSw; (try dsimp only at hSw); go_simp; try with_reducible rfl)
              try simp only [Act.put, List.setIfInBounds_toArray, List.set_cons_zero, List.set_cons_succ, List.getElem_toArray, List.getElem_cons_zero, List.getElem_cons_succ]
              refine wpAnyH_done (by kernel_rfl) ?_ _
              have HS2 := Lib.hid (show InMg w A n c sg (some ⟨b, off, none⟩) pn ps i O on oc (gk - 1) (.bool false) (.int .i64 ((k : Int) + 1)) w3 from ⟨k + 1, by simp, hgk.out.2, by rw [HH.out]; simp, Own.next ho b1, f3⟩)
              clear ho fd f3 sk si cA hck hci
              go_wp2
              go_roundg (gk - 1)
              case measure => exact hgk.out.1
              case rel => exact HS2.out
            | false =>
              by_cases hki : k < i
              · have hdk : decide ((k : Int) < (i : Int)) = true := decide_eq_true (by omega)
                have hdi : (k : Int) < (i : Int) := by omega
                have hdn2 : decide (k < i) = true := decide_eq_true hki
                rw [hdn2] at HH
                go_wp2_with fail
                go_region_held3 (fun w' => w'.cell? ⟨w.heap.size, 0, none⟩ = some (.slice A n c) ∧ w'.cell? ⟨b, off + k, none⟩ = some (.slice D dn dc) ∧ w'.cell? ⟨b, off + i, none⟩ = some (.slice E en ec))
                  (first | exact ⟨by assumption, by assumption, by assumption⟩ | go_keep)
                  (first
                    | (go_at_call 49; refine (specMoreGeneral A D E n c dn dc en ec sg yk yi _ fd.s1 sk si hn hdn hen k1 k2 l1 l2).mono ?_; rintro e w3 ⟨he, b1⟩; rw [HM.out] at he; subst he; have f3 := fd.next b1; have x1 := f3.cell; have x2 : w3.cell? ⟨b, off + k, none⟩ = some (.slice D dn dc) := (b1.cell (p := ⟨b, off + k, none⟩) HZ.out).trans hck; have x3 : w3.cell? ⟨b, off + i, none⟩ = some (.slice E en ec) := (b1.cell (p := ⟨b, off + i, none⟩) HZ.out).trans hci)
                    | (go_at_call 85; refine (specVariantIn A D E n c dn dc en ec sg yk yi _ f3.s1 (sk.next b1) (si.next b1) hn hdn hen).mono ?_; rintro e w4 ⟨he, b2⟩; rw [HV.out] at he; subst he; have y1 := (f3.next b2).cell; have y2 : w4.cell? ⟨b, off + k, none⟩ = some (.slice D dn dc) := (b2.cell (p := ⟨b, off + k, none⟩) (Nat.lt_of_lt_of_le HZ.out b1.size)).trans x2; have y3 : w4.cell? ⟨b, off + i, none⟩ = some (.slice E en ec) := (b2.cell (p := ⟨b, off + i, none⟩) (Nat.lt_of_lt_of_le HZ.out b1.size)).trans x3))
                have f4 := f3.next b2
                replace ho := Own.next (Own.next ho b1) b2
                clear x1 x2 x3 y1 y2 y3
                cases bv with
                | true =>
                  have HS2 := Lib.hid (show InMg w A n c sg (some ⟨b, off, none⟩) pn ps i O on oc (gk - 1) (.bool false) (.int .i64 ((k : Int) + 1)) w4 from ⟨k + 1, by simp, hgk.out.2, by rw [HH.out]; simp, ho, f4⟩)
                  clear ho fd f3 sk si cA hck hci
                  go_wp2
                  go_roundg (gk - 1)
                  case measure => exact hgk.out.1
                  case rel => exact HS2.out
                | false =>
                  have HS2 := Lib.hid (show InMg w A n c sg (some ⟨b, off, none⟩) pn ps i O on oc (gk - 1) (.bool bb) (.int .i64 ((k : Int) + 1)) w4 from ⟨k + 1, by simp, hgk.out.2, by rw [HH.out]; simp, ho, f4⟩)
                  clear ho fd f3 sk si cA hck hci
                  go_wp2
                  go_roundg (gk - 1)
                  case measure => exact hgk.out.1
                  case rel => exact HS2.out
              · have hdk : decide ((k : Int) < (i : Int)) = false := decide_eq_false (by omega)
                have hdn2 : decide (k < i) = false := decide_eq_false hki
                rw [hdn2] at HH
                go_wp2_with fail
                refine wp_region_held_drew (S := (fun w' => w'.cell? ⟨w.heap.size, 0, none⟩ = some (.slice A n c) ∧ w'.cell? ⟨b, off + k, none⟩ = some (.slice D dn dc) ∧ w'.cell? ⟨b, off + i, none⟩ = some (.slice E en ec))) (by kernel_rfl) ⟨cA, hck, hci⟩ (fun hHeld => ?_)
                refine wpAnyH_take (i := 0) (v := ?_) rfl (by kernel_rfl) (by kernel_rfl) (by kernel_rfl) (fun _ _ _ h => h) (Or.inl ⟨by rfl, ?_⟩) (by assumption) ?_
                rotate_left 1
                · (intro w0 hSw; (try dsimp only at hSw); go_simp; try with_reducible rfl)
                try simp only [Act.put, List.setIfInBounds_toArray, List.set_cons_zero, List.set_cons_succ, List.getElem_toArray, List.getElem_cons_zero, List.getElem_cons_succ]
                refine wpAnyH_take (i := 1) (v := ?_) rfl (by kernel_rfl) (by kernel_rfl) (by kernel_rfl) (fun _ _ _ h => h) (Or.inl ⟨by rfl, ?_⟩) (by assumption) ?_
                rotate_left 1
                · (intro w0 hSw; (try dsimp only at hSw); go_simp; try with_reducible rfl)
                try simp only [Act.put, List.setIfInBounds_toArray, List.set_cons_zero, List.set_cons_succ, List.getElem_toArray, List.getElem_cons_zero, List.getElem_cons_succ]
                refine wpAnyH_take (i := 2) (v := ?_) rfl (by kernel_rfl) (by kernel_rfl) (by kernel_rfl) (fun _ _ _ h => h) (Or.inl ⟨by rfl, ?_⟩) (by assumption) ?_
                rotate_left 1
                · (intro w0 hSw; (try dsimp only at hSw); go_simp; try with_reducible rfl)
                try simp only [Act.put, List.setIfInBounds_toArray, List.set_cons_zero, List.set_cons_succ, List.getElem_toArray, List.getElem_cons_zero, List.getElem_cons_succ]
                refine wpAnyH_take (i := 3) (v := ?_) rfl (by kernel_rfl) (by kernel_rfl) (by kernel_rfl) (fun _ _ _ h => h) (Or.inl ⟨by rfl, ?_⟩) (by assumption) ?_
                rotate_left 1
                · (intro w0 hSw; (try dsimp only at hSw); go_simp; try with_reducible rfl)
                try simp only [Act.put, List.setIfInBounds_toArray, List.set_cons_zero, List.set_cons_succ, List.getElem_toArray, List.getElem_cons_zero, List.getElem_cons_succ]
                refine wpAnyH_take (i := 4) (v := ?_) rfl (by kernel_rfl) (by kernel_rfl) (by kernel_rfl) (fun _ _ _ h => h) (Or.inl ⟨by rfl, ?_⟩) (by assumption) ?_
                rotate_left 1
                · (intro w0 hSw; (try dsimp only at hSw); go_simp; try with_reducible rfl)
                try simp only [Act.put, List.setIfInBounds_toArray, List.set_cons_zero, List.set_cons_succ, List.getElem_toArray, List.getElem_cons_zero, List.getElem_cons_succ]
                refine wpAnyH_take (i := 5) (v := ?_) rfl (by kernel_rfl) (by kernel_rfl) (by kernel_rfl) (fun _ _ _ h => h) (Or.inl ⟨by rfl, ?_⟩) (by assumption) ?_
                rotate_left 1
                · (intro w0 hSw; (try dsimp only at hSw); go_simp; try with_reducible rfl)
                try simp only [Act.put, List.setIfInBounds_toArray, List.set_cons_zero, List.set_cons_succ, List.getElem_toArray, List.getElem_cons_zero, List.getElem_cons_succ]
                refine wpAnyH_take (i := 6) (v := ?_) rfl (by kernel_rfl) (by kernel_rfl) (by kernel_rfl) (fun _ _ _ h => h) (Or.inl ⟨by rfl, ?_⟩) (by assumption) ?_
                rotate_left 1
                · (intro w0 hSw; (try dsimp only at hSw); go_simp; try with_reducible rfl)
                try simp only [Act.put, List.setIfInBounds_toArray, List.set_cons_zero, List.set_cons_succ, List.getElem_toArray, List.getElem_cons_zero, List.getElem_cons_succ]
                refine wpAnyH_take (i := 7) (v := ?_) rfl (by kernel_rfl) (by kernel_rfl) (by kernel_rfl) (fun _ _ _ h => h) (Or.inl ⟨by rfl, ?_⟩) (by assumption) ?_
                rotate_left 1
                · (intro w0 hSw; (try dsimp only at hSw); go_simp; try with_reducible rfl)
                try simp only [Act.put, List.setIfInBounds_toArray, List.set_cons_zero, List.set_cons_succ, List.getElem_toArray, List.getElem_cons_zero, List.getElem_cons_succ]
                refine wpAnyH_take (i := 8) (v := ?_) rfl (by kernel_rfl) (by kernel_rfl) (by kernel_rfl) (fun _ _ _ h => h) (Or.inl ⟨by rfl, ?_⟩) (by assumption) ?_
                rotate_left 1
                · (intro w0 hSw; (try dsimp only at hSw); go_simp; try with_reducible rfl)
                try simp only [Act.put, List.setIfInBounds_toArray, List.set_cons_zero, List.set_cons_succ, List.getElem_toArray, List.getElem_cons_zero, List.getElem_cons_succ]
                refine wpAnyH_ready (rs := [9]) (by kernel_rfl) (by simp) (AllReadyH.cons rfl (fun K hK => ?_) AllReadyH.nil)
                try simp only [Act.put, List.setIfInBounds_toArray, List.set_cons_zero, List.set_cons_succ, List.getElem_toArray, List.getElem_cons_zero, List.getElem_cons_succ]
                rw [if_pos (by rfl)]
                go_simp
                refine (specMoreGeneral A D E n c dn dc en ec sg yk yi _ fd.s1 sk si hn hdn hen k1 k2 l1 l2).mono ?_; rintro e w3 ⟨he, b1⟩; rw [HM.out] at he; subst he; have f3 := fd.next b1; have x1 := f3.cell; have x2 : w3.cell? ⟨b, off + k, none⟩ = some (.slice D dn dc) := (b1.cell (p := ⟨b, off + k, none⟩) HZ.out).trans hck; have x3 : w3.cell? ⟨b, off + i, none⟩ = some (.slice E en ec) := (b1.cell (p := ⟨b, off + i, none⟩) HZ.out).trans hci; go_wp2_with fail
                refine hK.out _ _ ?_ (fun hHeld => ?_)
                · first | assumption | (dsimp only; assumption) | exact ⟨by assumption, by assumption⟩ | exact ⟨by assumption, by assumption, by assumption⟩
                clear hK K
                try simp only [Act.put, List.setIfInBounds_toArray, List.set_cons_zero, List.set_cons_succ, List.getElem_toArray, List.getElem_cons_zero, List.getElem_cons_succ]
                refine wpAnyH_take (i := 10) (v := ?_) rfl (by kernel_rfl) (by kernel_rfl) (by kernel_rfl) (fun _ _ _ h => h) (Or.inl ⟨by rfl, ?_⟩) (by assumption) ?_
                rotate_left 1
                · (intro w0 hSw; (try dsimp only at hSw); go_simp; try with_reducible rfl)
                try simp only [Act.put, List.setIfInBounds_toArray, List.set_cons_zero, List.set_cons_succ, List.getElem_toArray, List.getElem_cons_zero, List.getElem_cons_succ]
                refine wpAnyH_take (i := 11) (v := ?_) rfl (by kernel_rfl) (by kernel_rfl) (by kernel_rfl) (fun _ _ _ h => h) (Or.inl ⟨by rfl, ?_⟩) (by assumption) ?_
                rotate_left 1
                · (intro w0 hSw; (try dsimp only at hSw); go_simp; try with_reducible rfl)
                try simp only [Act.put, List.setIfInBounds_toArray, List.set_cons_zero, List.set_cons_succ, List.getElem_toArray, List.getElem_cons_zero, List.getElem_cons_succ]
                refine wpAnyH_take (i := 12) (v := ?_) rfl (by kernel_rfl) (by kernel_rfl) (by kernel_rfl) (fun _ _ _ h => h) (Or.inl ⟨by rfl, ?_⟩) (by assumption) ?_
                rotate_left 1
                · (intro w0 hSw; (try dsimp only at hSw); go_simp; try with_reducible rfl)
                try simp only [Act.put, List.setIfInBounds_toArray, List.set_cons_zero, List.set_cons_succ, List.getElem_toArray, List.getElem_cons_zero, List.getElem_cons_succ]
                refine wpAnyH_take (i := 13) (v := ?_) rfl (by kernel_rfl) (by kernel_rfl) (by kernel_rfl) (fun _ _ _ h => h) (Or.inl ⟨by rfl, ?_⟩) (by assumption) ?_
                rotate_left 1
                · (intro w0 hSw; (try dsimp only at hSw); go_simp; try with_reducible rfl)
                try simp only [Act.put, List.setIfInBounds_toArray, List.set_cons_zero, List.set_cons_succ, List.getElem_toArray, List.getElem_cons_zero, List.getElem_cons_succ]
                refine wpAnyH_take (i := 14) (v := ?_) rfl (by kernel_rfl) (by kernel_rfl) (by kernel_rfl) (fun _ _ _ h => h) (Or.inl ⟨by rfl, ?_⟩) (by assumption) ?_
                rotate_left 1
                · (intro w0 hSw; (try dsimp only at hSw); go_simp; try with_reducible rfl)
                try simp only [Act.put, List.setIfInBounds_toArray, List.set_cons_zero, List.set_cons_succ, List.getElem_toArray, List.getElem_cons_zero, List.getElem_cons_succ]
                refine wpAnyH_take (i := 15) (v := undef) rfl (by kernel_rfl) (by kernel_rfl) (by kernel_rfl) (fun _ _ _ h => h) (Or.inr ⟨by rfl, rfl⟩) (by assumption) ?_
                try simp only [Act.put, List.setIfInBounds_toArray, List.set_cons_zero, List.set_cons_succ, List.getElem_toArray, List.getElem_cons_zero, List.getElem_cons_succ]
                refine wpAnyH_take (i := 16) (v := undef) rfl (by kernel_rfl) (by kernel_rfl) (by kernel_rfl) (fun _ _ _ h => h) (Or.inr ⟨by rfl, rfl⟩) (by assumption) ?_
                try simp only [Act.put, List.setIfInBounds_toArray, List.set_cons_zero, List.set_cons_succ, List.getElem_toArray, List.getElem_cons_zero, List.getElem_cons_succ]
                refine wpAnyH_take (i := 17) (v := undef) rfl (by kernel_rfl) (by kernel_rfl) (by kernel_rfl) (fun _ _ _ h => h) (Or.inr ⟨by rfl, rfl⟩) (by assumption) ?_
                try simp only [Act.put, List.setIfInBounds_toArray, List.set_cons_zero, List.set_cons_succ, List.getElem_toArray, List.getElem_cons_zero, List.getElem_cons_succ]
                refine wpAnyH_take (i := 18) (v := undef) rfl (by kernel_rfl) (by kernel_rfl) (by kernel_rfl) (fun _ _ _ h => h) (Or.inr ⟨by rfl, rfl⟩) (by assumption) ?_
                try simp only [Act.put, List.setIfInBounds_toArray, List.set_cons_zero, List.set_cons_succ, List.getElem_toArray, List.getElem_cons_zero, List.getElem_cons_succ]
                refine wpAnyH_take (i := 19) (v := undef) rfl (by kernel_rfl) (by kernel_rfl) (by kernel_rfl) (fun _ _ _ h => h) (Or.inr ⟨by rfl, rfl⟩) (by assumption) ?_
                try simp only [Act.put, List.setIfInBounds_toArray, List.set_cons_zero, List.set_cons_succ, List.getElem_toArray, List.getElem_cons_zero, List.getElem_cons_succ]
                refine wpAnyH_take (i := 20) (v := undef) rfl (by kernel_rfl) (by kernel_rfl) (by kernel_rfl) (fun _ _ _ h => h) (Or.inr ⟨by rfl, rfl⟩) (by assumption) ?_
                try simp only [Act.put, List.setIfInBounds_toArray, List.set_cons_zero, List.set_cons_succ, List.getElem_toArray, List.getElem_cons_zero, List.getElem_cons_succ]
                refine wpAnyH_take (i := 21) (v := undef) rfl (by kernel_rfl) (by kernel_rfl) (by kernel_rfl) (fun _ _ _ h => h) (Or.inr ⟨by rfl, rfl⟩) (by assumption) ?_
                try simp only [Act.put, List.setIfInBounds_toArray, List.set_cons_zero, List.set_cons_succ, List.getElem_toArray, List.getElem_cons_zero, List.getElem_cons_succ]
                refine wpAnyH_take (i := 22) (v := undef) rfl (by kernel_rfl) (by kernel_rfl) (by kernel_rfl) (fun _ _ _ h => h) (Or.inr ⟨by rfl, rfl⟩) (by assumption) ?_
                try simp only [Act.put, List.setIfInBounds_toArray, List.set_cons_zero, List.set_cons_succ, List.getElem_toArray, List.getElem_cons_zero, List.getElem_cons_succ]
                refine wpAnyH_take (i := 23) (v := undef) rfl (by kernel_rfl) (by kernel_rfl) (by kernel_rfl) (fun _ _ _ h => h) (Or.inr ⟨by rfl, rfl⟩) (by assumption) ?_
                try simp only [Act.put, List.setIfInBounds_toArray, List.set_cons_zero, List.set_cons_succ, List.getElem_toArray, List.getElem_cons_zero, List.getElem_cons_succ]
                refine wpAnyH_take (i := 24) (v := undef) rfl (by kernel_rfl) (by kernel_rfl) (by kernel_rfl) (fun _ _ _ h => h) (Or.inr ⟨by rfl, rfl⟩) (by assumption) ?_
                try simp only [Act.put, List.setIfInBounds_toArray, List.set_cons_zero, List.set_cons_succ, List.getElem_toArray, List.getElem_cons_zero, List.getElem_cons_succ]
                refine wpAnyH_take (i := 25) (v := ?_) rfl (by kernel_rfl) (by kernel_rfl) (by kernel_rfl) (fun _ _ _ h => h) (Or.inl ⟨by rfl, ?_⟩) (by assumption) ?_
                rotate_left 1
                · (intro w0 hSw; (try dsimp only at hSw); go_simp; try with_reducible rfl)
                try simp only [Act.put, List.setIfInBounds_toArray, List.set_cons_zero, List.set_cons_succ, List.getElem_toArray, List.getElem_cons_zero, List.getElem_cons_succ]
                refine wpAnyH_take (i := 26) (v := ?_) rfl (by kernel_rfl) (by kernel_rfl) (by kernel_rfl) (fun _ _ _ h => h) (Or.inl ⟨by rfl, ?_⟩) (by assumption) ?_
                rotate_left 1
                · (intro w0 hSw; (try dsimp only at hSw); go_simp; try with_reducible rfl)
                try simp only [Act.put, List.setIfInBounds_toArray, List.set_cons_zero, List.set_cons_succ, List.getElem_toArray, List.getElem_cons_zero, List.getElem_cons_succ]
                refine wpAnyH_done (by kernel_rfl) ?_ _
                have HS2 := Lib.hid (show InMg w A n c sg (some ⟨b, off, none⟩) pn ps i O on oc (gk - 1) (.bool bb) (.int .i64 ((k : Int) + 1)) w3 from ⟨k + 1, by simp, hgk.out.2, by rw [HH.out]; simp, Own.next ho b1, f3⟩)
                clear ho fd f3 sk si cA hck hci
                go_wp2
                go_roundg (gk - 1)
                case measure => exact hgk.out.1
                case rel => exact HS2.out
          · have hkp2 : k = ps.length := by have := HK.out; have := HL.out; omega
            obtain ⟨z, hz⟩ : ∃ z, bestB sg ps i = z := ⟨_, rfl⟩
            have HZ := Lib.hid (show bestK sg ps i k = z by rw [hkp2, bestK_best, hz])
            have HE2 := Lib.hid (show mgN sg ps (i + 1) = mgN sg ps i ++ (if z = true then [(i : Int)] else []) by simp only [mgN]; rw [hz])
            clear hz hkp2
            rw [HZ.out]
            have z1 : w.heap.size + 1 ≤ wr.heap.size := f.size
            cases z with
            | false =>
              have S : HeadMg w A n c sg P pn ps (G - 1) (.slice O on oc) (.int .i64 ((i : Int) + 1)) wr := ⟨i + 1, O, on, oc, by simp, hGk.out.2, rfl, by rw [HE2.out]; simpa using ho, f⟩
              have HSS := Lib.hid S
              clear S ho f
              go_wp2
              go_roundg (G - 1)
              case measure => exact hGk.out.1
              case rel => exact HSS.out
            | true =>
              go_wp2_with (at_builtin; refine app1 rfl _ _ rfl (w.heap.size + 1) O on oc _ rfl (Own.alloc ho _) wr.heap.size 1 (i : Int) rfl ((Row.new _ _ _).cell 0) (by omega) (by simp; omega) ?_; intro O' oc' w7 ho7 b7)
              have S : HeadMg w A n c sg P pn ps (G - 1) (.slice O' (on + 1) oc') (.int .i64 ((i : Int) + 1)) w7 := ⟨i + 1, O', on + 1, oc', by simp, hGk.out.2, rfl, by rw [HE2.out]; exact ho7, (f.alloc _).over b7⟩
              have HSS := Lib.hid S
              clear S ho ho7 f b7
              go_wp2
              go_roundg (G - 1)
              case measure => exact hGk.out.1
              case rel => exact HSS.out
      · have hip2 : i = pn := by have := HI.out; omega
        have F := Lib.hid (list_of (w := w) (show mgI sg ps = mgN sg ps i by rw [HF.out, hip2]) ho (Nat.le_succ _) f.b)
        clear ho f hip2
        go_wp2
        go_ret
        exact F.out
end Go.Proofs.Ythbhiihhanochaa.matchMost
end

section
/-
  CONTRACTS: impl.Matched, InstanceIn, MoreGeneral, termsOk. Conditions: the slices read as lists ('Seg', 'Segs'), at most 1048576 numbers. By an AI agent.
-/
namespace Go.Proofs.Ythbhiihhanochaa.matchImpl
open Go.RowKit Go.Proofs.Ythbhiihhanochaa.base Go.Proofs.Ythbhiihhanochaa.ints Go.Proofs.Ythbhiihhanochaa.sig Go.Proofs.Ythbhiihhanochaa.same Go.Proofs.Ythbhiihhanochaa.term Go.Proofs.Ythbhiihhanochaa.termOk Go.Proofs.Ythbhiihhanochaa.endAt Go.Proofs.Ythbhiihhanochaa.inside Go.Proofs.Ythbhiihhanochaa.marks Go.Proofs.Ythbhiihhanochaa.app Go.Proofs.Ythbhiihhanochaa.sym Go.Proofs.Ythbhiihhanochaa.sub Go.Proofs.Ythbhiihhanochaa.segs Go.Proofs.Ythbhiihhanochaa.segsHelp Go.Proofs.Ythbhiihhanochaa.kinds Go.Proofs.Ythbhiihhanochaa.termFacts Go.Proofs.Ythbhiihhanochaa.termMath Go.Proofs.Ythbhiihhanochaa.posMath Go.Proofs.Ythbhiihhanochaa.plainMath Go.Proofs.Ythbhiihhanochaa.plain Go.Proofs.Ythbhiihhanochaa.plainOf Go.Proofs.Ythbhiihhanochaa.gives Go.Proofs.Ythbhiihhanochaa.cursor Go.Proofs.Ythbhiihhanochaa.fillMath Go.Proofs.Ythbhiihhanochaa.matchMath Go.Proofs.Ythbhiihhanochaa.matchSpec Go.Proofs.Ythbhiihhanochaa.matchList Go.Proofs.Ythbhiihhanochaa.matchMost Go.Proofs.Ythbhiihhanochaa.whole Go.Proofs.Ythbhiihhanochaa.takeMath Go.Proofs.Ythbhiihhanochaa.take Go.Proofs.Ythbhiihhanochaa.extended
set_option maxRecDepth 100000

theorem plain_s0 : plainL (givesL s0) 24 = [] := by
  have h : ∀ i, 0 ≤ i → givesL s0 i = vt i := fun i _ => gives_var (by rw [s0_get]; rfl)
  rw [plain_24 (m := 0) (by omega) h]
  rfl
theorem res_get (R : Option (List (List Int))) : plainL (givesL (R.getD s0)) 24 = resL R := by
  cases R with
  | none => exact plain_s0
  | some s => rfl

set_option maxHeartbeats 1000000 in
theorem implMatched (A P Q : Option Addr) (n c pn pc m mc : Nat) (sg p t : List Int) (w : World) (h : Seg w w.heap.size A n sg) (hp : Seg w w.heap.size P pn p) (ht : Seg w w.heap.size Q m t) (hn : n ≤ 1048576) (hpn : pn ≤ 1048576) (hm : m ≤ 1048576) (hmc : m ≤ mc) (hmc2 : mc ≤ 9223372036854775807) :
    Calls Try.prog 14 #[.agg #[.slice A n c], .slice P pn pc, .slice Q m mc] w (AnsM w (resL (matchO sg p t)) (instB sg p t)) := by
  obtain ⟨W, hW⟩ : ∃ W, W = (w.alloc (.cells #[.slice A n c] 26)).alloc (.cells #[.slice none 0 0] 31) := ⟨_, rfl⟩
  have M : Mr w W A n c sg P pn p Q m t := by rw [hW]; exact Mr.start h hp ht
  have HW := Lib.hid hW
  have L := Lib.hid (implTermOk A P n c pn pc sg p W M.ss M.sp hn hpn)
  have c0 : W.cell? ⟨w.heap.size, 0, none⟩ = some (.slice A n c) := M.r0.cell 0
  have c00 : ((w.alloc (.cells #[.slice A n c] 26)).alloc (.cells #[.slice none 0 0] 31)).cell? ⟨w.heap.size, 0, none⟩ = some (.slice A n c) := by rw [← hW]; exact c0
  clear hW h hp ht
  cases hokp : termOkB sg p with
  | false =>
    have HS := Lib.hid hokp
    clear hokp
    go_enter Try.func14, Try.ntmps14
    go_wp2_with fail
    rw [← HW.out]
    refine L.out.mono ?_
    rintro e w1 ⟨he, bb⟩
    rw [HS.out] at he
    subst he
    replace M := M.next bb
    have cR : w1.cell? ⟨w.heap.size + 1, 0, none⟩ = some (.slice none 0 0) := M.r1.cell 0
    have fR : w1.frozen? ⟨w.heap.size + 1, 0, none⟩ = false := M.r1.free 0
    have F1 := Lib.hid (ansM_off (w := w) (t := t) (.inl HS.out) M.b)
    have F2 := Lib.hid (ansM_off (w := w) (t := t) (.inl HS.out) ((M.b).setCell (p := ⟨w.heap.size + 1, 0, none⟩) (show w.heap.size ≤ w.heap.size + 1 by omega) (.slice none 0 0)))
    clear M L bb c0 c00
    go_wp2
    first
      | exact bodyPost_ret (v := .tuple #[.agg #[.slice none 0 0], .bool false]) (by simp [results, Try.results14, go_sem, cR]) rfl F1.out
      | exact bodyPost_ret (v := .tuple #[.agg #[.slice none 0 0], .bool false]) (by simp [results, Try.results14, go_sem, cR]) rfl F2.out
  | true =>
    have HSP := Lib.hid hokp
    have hp60 : pn ≤ 60 := by have h1 := (termOk_parts hokp).2.1; rw [M.sp.1] at h1; exact h1
    clear hokp
    cases hokt : termOkB sg t with
    | false =>
      have HS := Lib.hid hokt
      clear hokt
      go_enter Try.func14, Try.ntmps14
      go_wp2_with fail
      rw [← HW.out]
      refine L.out.mono ?_
      rintro e w1 ⟨he, bb⟩
      rw [HSP.out] at he
      subst he
      replace M := M.next bb
      clear bb L c0 c00
      have c0 : w1.cell? ⟨w.heap.size, 0, none⟩ = some (.slice A n c) := M.r0.cell 0
      go_wp2_with fail
      refine (implTermOk A Q n c m mc sg t _ M.ss M.st hn hm).mono ?_
      rintro e w2 ⟨he, bb⟩
      rw [HS.out] at he
      subst he
      replace M := M.next bb
      have cR : w2.cell? ⟨w.heap.size + 1, 0, none⟩ = some (.slice none 0 0) := M.r1.cell 0
      have fR : w2.frozen? ⟨w.heap.size + 1, 0, none⟩ = false := M.r1.free 0
      have F1 := Lib.hid (ansM_off (w := w) (p := p) (.inr HS.out) M.b)
      have F2 := Lib.hid (ansM_off (w := w) (p := p) (.inr HS.out) ((M.b).setCell (p := ⟨w.heap.size + 1, 0, none⟩) (show w.heap.size ≤ w.heap.size + 1 by omega) (.slice none 0 0)))
      clear M bb c0
      go_wp2
      first
        | exact bodyPost_ret (v := .tuple #[.agg #[.slice none 0 0], .bool false]) (by simp [results, Try.results14, go_sem, cR]) rfl F1.out
        | exact bodyPost_ret (v := .tuple #[.agg #[.slice none 0 0], .bool false]) (by simp [results, Try.results14, go_sem, cR]) rfl F2.out
    | true =>
      have HST := Lib.hid hokt
      have hm60 : m ≤ 60 := by have h1 := (termOk_parts hokt).2.1; rw [M.st.1] at h1; exact h1
      have HMO := Lib.hid (match_yes HSP.out hokt)
      have HIO := Lib.hid (show instB sg p t = (mst sg t p 0 s0).isSome by unfold instB; rw [HMO.out])
      clear hokt
      go_enter Try.func14, Try.ntmps14
      go_wp2_with fail
      rw [← HW.out]
      refine L.out.mono ?_
      rintro e w1 ⟨he, bb⟩
      rw [HSP.out] at he
      subst he
      replace M := M.next bb
      clear bb L c0 c00
      have c0 : w1.cell? ⟨w.heap.size, 0, none⟩ = some (.slice A n c) := M.r0.cell 0
      go_wp2_with fail
      refine (implTermOk A Q n c m mc sg t _ M.ss M.st hn hm).mono ?_
      rintro e w2 ⟨he, bb⟩
      rw [HST.out] at he
      subst he
      replace M := M.next bb
      clear bb c0
      have c0 : w2.cell? ⟨w.heap.size, 0, none⟩ = some (.slice A n c) := M.r0.cell 0
      have LX : Calls Try.prog 54 #[.agg z24, .slice P pn pc, .agg #[.slice A n c, .slice Q m mc, .int .i64 0]] w2 (AnsExt w2 (mst sg t p 0 s0)) :=
        extended A P Q n c pn pc m mc sg p t 0 z24 s0 w2 M.ss M.sp M.st hn hp60 hm60 hmc hmc2 (by rw [← M.st.1]; exact (term_len HST.out).1) HSP.out HST.out (TabR.new _ _) (fun j => by rw [s0_get]; simp)
      obtain ⟨R, hR⟩ : ∃ R, mst sg t p 0 s0 = R := ⟨_, rfl⟩
      rw [hR] at LX
      have HR := Lib.hid hR
      have HLX := Lib.hid LX
      clear LX hR
      have zw := M.r1.lt
      go_wp2_with (first
        | (refine rowBuild rfl 67 rfl z24 built_b ?_)
        | (go_at_call 54; refine HLX.out.mono ?_; rintro e w3 ⟨cs, rfl, tab, hsz, bb⟩; have one := Lib.hid tab.one; have h24 := Lib.hid tab.1; have bb3 := bb)
        | (refine rowAlloc rfl 67 rfl z24 zero_b ?_)
        | (refine rowStore rfl 67 _ _ rfl w3.heap.size cs z24 67 rfl rfl (heap_alloc_new w3 _) (by rw [h24.out]; exact size_b) (by rw [h24.out]; rfl) one.out ?_; rw [World.setRow_alloc_new])
        | (refine wpList_load_row rfl 67 _ rfl w3.heap.size rfl 67 cs (0, 0) _ (heap_alloc_new w3 _) Try.underlying67 rfl (by rw [h24.out]; exact size_b) ?_))
      have M3 := M.next bb
      have B4 : Below w3.heap.size w3 (w3.alloc (.cells cs 67)) := (Below.refl _ _).alloc (Nat.le_refl _) _
      have tab4 : TabR (w3.alloc (.cells cs 67)) (w3.alloc (.cells cs 67)).heap.size cs (R.getD s0) := (tab.below (B4.mono bb.size)).more (by have := bb.size; simp; omega)
      have LP := Lib.hid (plainB cs (R.getD s0) _ tab4 hsz)
      have M4 := M3.next B4
      have HI2 := Lib.hid (show instB sg p t = R.isSome by rw [HIO.out, HR.out])
      have HM2 := Lib.hid (show resL (matchO sg p t) = resL R by rw [HMO.out, HR.out])
      rw [res_get] at LP
      clear M M3 tab4 tab hsz bb bb3 one h24 HLX B4 c0
      refine LP.out.mono ?_
      rintro e w5 ⟨D, dn, dc, rfl, od, bb⟩
      have M5 := M4.next bb
      have z4 := M4.b.size
      have z5 := M4.r1.lt
      have cR : w5.cell? ⟨w.heap.size + 1, 0, none⟩ = some (.slice none 0 0) := M5.r1.cell 0
      have fR : w5.frozen? ⟨w.heap.size + 1, 0, none⟩ = false := M5.r1.free 0
      obtain ⟨b, hb⟩ : ∃ b, R.isSome = b := ⟨_, rfl⟩
      rw [hb]
      have F : AnsM w (resL (matchO sg p t)) (instB sg p t) (.returned (.tuple #[.agg #[.slice D dn dc], .bool b])) (w5.setCell ⟨w.heap.size + 1, 0, none⟩ (.slice D dn dc)) := by
        rw [HI2.out, HM2.out, hb]
        have hbt : Btw (w.heap.size + 1) (w.heap.size + 2) w5 (w5.setCell ⟨w.heap.size + 1, 0, none⟩ (.slice D dn dc)) := Btw.of_grown (grown_put (World.grownBy.refl _ _) _ _) (fun k hk => by injection hk; omega)
        have o2 := od.btw hbt (.inr (by simp at z5 ⊢; omega))
        exact ⟨D, dn, dc, rfl, o2.wider (by simp at z4 ⊢; omega) (by simp), (M5.b).setCell (p := ⟨w.heap.size + 1, 0, none⟩) (show w.heap.size ≤ w.heap.size + 1 by omega) _⟩
      have HF := Lib.hid F
      clear F od bb M4 M5 HIO hb LP
      go_wp2
      exact bodyPost_ret (v := .tuple #[.agg #[.slice D dn dc], .bool b]) (by simp [results, Try.results14, go_sem, cR]) rfl HF.out

set_option maxHeartbeats 1000000 in
theorem implInstanceIn (A P Q : Option Addr) (n c pn pc m mc : Nat) (sg p t : List Int) (w : World) (h : Seg w w.heap.size A n sg) (hp : Seg w w.heap.size P pn p) (ht : Seg w w.heap.size Q m t) (hn : n ≤ 1048576) (hpn : pn ≤ 1048576) (hm : m ≤ 1048576) (hmc : m ≤ mc) (hmc2 : mc ≤ 9223372036854775807) :
    Calls Try.prog 19 #[.agg #[.slice A n c], .slice P pn pc, .slice Q m mc] w (Tells w (instB sg p t)) := by
  obtain ⟨W, hW⟩ : ∃ W, W = w.alloc (.cells #[.slice A n c] 26) := ⟨_, rfl⟩
  have bW : Below w.heap.size w W := by rw [hW]; exact (Below.refl _ _).alloc (Nat.le_refl _) _
  have HW := Lib.hid hW
  have L := Lib.hid (implMatched A P Q n c pn pc m mc sg p t W (h.next bW) (hp.next bW) (ht.next bW) hn hpn hm hmc hmc2)
  clear hW h hp ht
  generalize instB sg p t = b at *
  go_enter Try.func19, Try.ntmps19
  go_wp2_with fail
  rw [← HW.out]
  refine L.out.mono ?_
  rintro e w1 ⟨D, dn, dc, rfl, od, bb⟩
  have F := Lib.hid (fun o => (show Tells w b (.returned (.bool b)) (w1.alloc o) from ⟨rfl, (next_trans bW bb).alloc (next_trans bW bb).size _⟩))
  clear od bb L bW
  go_wp2
  go_ret
  exact F.out _
set_option maxHeartbeats 1000000 in
theorem implMoreGeneral (A P Q : Option Addr) (n c pn pc m mc : Nat) (sg p t : List Int) (w : World) (h : Seg w w.heap.size A n sg) (hp : Seg w w.heap.size P pn p) (ht : Seg w w.heap.size Q m t) (hn : n ≤ 1048576) (hpn : pn ≤ 1048576) (hm : m ≤ 1048576) (hpc : pn ≤ pc) (hpc2 : pc ≤ 9223372036854775807) (hmc : m ≤ mc) (hmc2 : mc ≤ 9223372036854775807) :
    Calls Try.prog 50 #[.agg #[.slice A n c], .slice P pn pc, .slice Q m mc] w (Tells w (moreB sg p t)) := by
  obtain ⟨W, hW⟩ : ∃ W, W = w.alloc (.cells #[.slice A n c] 26) := ⟨_, rfl⟩
  have f : Fr w W A n c sg Q m t := by rw [hW]; exact Fr.start h ht
  have sp : Seg W W.heap.size P pn p := (hp.below f.b).more (Nat.le_of_lt f.size)
  have HW := Lib.hid hW
  have L := Lib.hid (implInstanceIn A P Q n c pn pc m mc sg p t W f.s1 sp f.t1 hn hpn hm hmc hmc2)
  clear hW h hp ht
  obtain ⟨b1, e1⟩ : ∃ b, instB sg p t = b := ⟨_, rfl⟩
  obtain ⟨b2, e2⟩ : ∃ b, instB sg t p = b := ⟨_, rfl⟩
  have HF := Lib.hid (show moreB sg p t = (b1 && !b2) by unfold moreB; rw [e1, e2])
  rw [e1] at L
  have E2 := Lib.hid e2
  clear e1 e2
  go_enter Try.func50, Try.ntmps50
  go_wp2_with fail
  rw [← HW.out]
  refine L.out.mono ?_
  rintro e w1 ⟨rfl, bb⟩
  replace f := f.next bb
  replace sp := sp.next bb
  have cA := f.cell
  clear bb L
  cases b1 with
  | false =>
    have F := Lib.hid (show Tells w (moreB sg p t) (.returned (.bool false)) w1 from ⟨by rw [HF.out]; rfl, f.b⟩)
    clear f sp cA
    go_wp2
    go_ret
    exact F.out
  | true =>
    go_wp2_with fail
    refine (implInstanceIn A Q P n c m mc pn pc sg t p _ f.s1 f.t1 sp hn hm hpn hpc hpc2).mono ?_
    rintro e w2 ⟨he, bb⟩
    rw [E2.out] at he
    subst he
    have F := Lib.hid (show Tells w (moreB sg p t) (.returned (.bool (!b2))) w2 from ⟨by rw [HF.out]; rfl, (f.next bb).b⟩)
    clear f sp cA bb
    go_wp2
    go_ret
    exact F.out


/-- so many are terms -/
def HeadTo (w : World) (A : Option Addr) (n c : Nat) (sg : List Int) (P : Option Addr) (pn : Nat) (ps : List (List Int)) (i : Value) (wr : World) : Prop :=
  ∃ k : Nat, i = .int .i64 k ∧ k ≤ pn ∧ (∀ j, j < k → termOkB sg (ps.getD j []) = true) ∧ Fs w wr A n c sg P pn ps
set_option maxHeartbeats 1000000 in
theorem implTermsOk (A P : Option Addr) (n c pn pc : Nat) (sg : List Int) (ps : List (List Int)) (w : World) (h : Seg w w.heap.size A n sg) (hp : Segs w w.heap.size P pn ps) (hn : n ≤ 1048576) (ht : tot ps ≤ 1048576) :
    Calls Try.prog 79 #[.agg #[.slice A n c], .slice P pn pc] w (Tells w (termsB sg ps)) := by
  obtain ⟨W, hW⟩ : ∃ W, W = w.alloc (.cells #[.slice A n c] 26) := ⟨_, rfl⟩
  have f : Fs w W A n c sg P pn ps := by rw [hW]; exact Fs.start h hp
  have HW := Lib.hid hW
  have HL := Lib.hid hp.1
  have HE := Lib.hid (tot_each ht)
  have hpn : pn ≤ 1048576 := tot_len hp.1 ht
  clear hW h hp ht
  by_cases hlong : 12 < pn
  · have F := Lib.hid (show Tells w (termsB sg ps) (.returned (.bool false)) W from ⟨by rw [terms_long (by rw [HL.out]; exact hlong)], f.b⟩)
    clear f
    go_enter Try.func79, Try.ntmps79
    go_wp2_with fail
    rw [← HW.out]
    go_ret
    exact F.out
  · have S0 : HeadTo w A n c sg P pn ps (.int .i64 0) W := ⟨0, rfl, Nat.zero_le _, fun j hj => absurd hj (Nat.not_lt_zero _), f⟩
    have HS0 := Lib.hid S0
    clear S0 f
    go_enter Try.func79, Try.ntmps79
    go_wp2_with fail
    rw [← HW.out]
    go_loopw [12] (fun i wr => HeadTo w A n c sg P pn ps i wr) (fun i _ => pn - (intOf i).toNat)
    case atStart => exact HS0.out
    case round =>
      obtain ⟨k, rfl, hk, hlow, f⟩ := hrel
      have HLOW := Lib.hid hlow
      clear hlow HS0
      by_cases hlt : k < pn
      · obtain ⟨b, off, D, dn, dc, rfl, hbb, hc, hsg, hcap⟩ := f.s'.spot hlt
        have hdn : dn ≤ 1048576 := by have := HE.out k; rw [hsg.1] at this; exact this
        have cA := f.cell
        have LT := Lib.hid (implTermOk A D n c dn dc sg (ps.getD k []) wr f.s1 (hsg.more (Nat.le_of_lt f.size)) hn hdn)
        clear hsg hcap
        cases hok : termOkB sg (ps.getD k []) with
        | false =>
          have HS := Lib.hid hok
          clear hok
          go_wp2_with fail
          refine LT.out.mono ?_
          rintro e w1 ⟨he, bb⟩
          rw [HS.out] at he
          subst he
          have F := Lib.hid (show Tells w (termsB sg ps) (.returned (.bool false)) w1 from ⟨by rw [terms_bad (by rw [HL.out]; exact hlt) HS.out], (f.next bb).b⟩)
          clear f bb cA LT hc
          go_wp2
          go_ret
          exact F.out
        | true =>
          have HS := Lib.hid hok
          clear hok
          go_wp2_with fail
          refine LT.out.mono ?_
          rintro e w1 ⟨he, bb⟩
          rw [HS.out] at he
          subst he
          have S : HeadTo w A n c sg (some ⟨b, off, none⟩) pn ps (.int .i64 ((k : Int) + 1)) w1 := ⟨k + 1, by simp, hlt, fun j hj => by
            by_cases e : j = k
            · rw [e]; exact HS.out
            · exact HLOW.out j (by omega), f.next bb⟩
          have HSS := Lib.hid S
          clear S f bb cA LT hc
          go_wp2
          go_roundw
          case rel => exact HSS.out
          case measure => simp [intOf]; omega
      · have F := Lib.hid (show Tells w (termsB sg ps) (.returned (.bool true)) wr from ⟨by rw [terms_good (by rw [HL.out]; omega) (fun i hi => HLOW.out i (by rw [HL.out] at hi; omega))], f.b⟩)
        clear f
        go_wp2
        go_ret
        exact F.out
end Go.Proofs.Ythbhiihhanochaa.matchImpl
end

section
/-
  CONTRACT: laws.big: more than 4096 bytes. Conditions: none. By an AI agent.
-/
namespace Go.Proofs.Ythbhiihhanochaa.bigs
open Go.RowKit Go.Proofs.Ythbhiihhanochaa.base Go.Proofs.Ythbhiihhanochaa.ints

theorem bigAns (A : Option Addr) (n c : Nat) (b : Bool) (w : World) (hb : decide (4096 < n) = b) (hn : n ≤ 9223372036854775807) : Calls Try.prog 12 #[.slice A n c] w fun e w' => w = w' ∧ e = .returned (.bool b) := by
  cases b with
  | true =>
    have h : (4096 : Int) < (n : Int) := by have := of_decide_eq_true hb; omega
    clear hb
    go_enter Try.func12, Try.ntmps12
    go_wp2
    go_ret
    exact ⟨rfl, rfl⟩
  | false =>
    have h : ¬ (4096 : Int) < (n : Int) := by have := of_decide_eq_false hb; omega
    have h2 : decide (4096 < n) = false := hb
    clear hb
    go_enter Try.func12, Try.ntmps12
    go_wp2
    go_ret
    exact ⟨rfl, rfl⟩
end Go.Proofs.Ythbhiihhanochaa.bigs
end

section
/-
  WORDS of the laws' walks: what stands behind a draw of a signature and two terms ('T1'), a variable that holds a substitution ('Sv'); laws.likeInts of two lists that read the same. Conditions: none; plain lemmas. By an AI agent.
-/
namespace Go.Proofs.Ythbhiihhanochaa.lawT
open Go.RowKit Go.Proofs.Ythbhiihhanochaa.base Go.Proofs.Ythbhiihhanochaa.ints Go.Proofs.Ythbhiihhanochaa.segs
set_option maxRecDepth 100000

/-- what stands after the first draw: the signature's variable at v3 -/
structure T1 (w : World) (v3 : Nat) (S : Option Addr) (sn sc : Nat) (sg : List Int) (O : Option Addr) (on : Nat) (p : List Int) (Q : Option Addr) (qn : Nat) (t : List Int) (wr : World) : Prop where
  s : Seg wr wr.heap.size S sn sg
  o : Seg wr wr.heap.size O on p
  q : Seg wr wr.heap.size Q qn t
  r3 : Row wr v3 26 #[.slice S sn sc]
  bel : Below w.heap.size w wr
section
variable {w : World} {v3 : Nat} {S : Option Addr} {sn sc : Nat} {sg : List Int} {O : Option Addr} {on : Nat} {p : List Int} {Q : Option Addr} {qn : Nat} {t : List Int} {wr w' : World}
theorem T1.next (f : T1 w v3 S sn sc sg O on p Q qn t wr) (hb : Below wr.heap.size wr w') : T1 w v3 S sn sc sg O on p Q qn t w' :=
  ⟨f.s.next hb, f.o.next hb, f.q.next hb, f.r3.next hb, next_trans f.bel hb⟩
theorem T1.drew (f : T1 w v3 S sn sc sg O on p Q qn t wr) : T1 w v3 S sn sc sg O on p Q qn t wr.drew := ⟨f.s, f.o, f.q, f.r3, f.bel.drew⟩
theorem T1.cell (f : T1 w v3 S sn sc sg O on p Q qn t wr) : wr.cell? ⟨v3, 0, none⟩ = some (.slice S sn sc) := f.r3.cell 0
end
/-- a variable that holds a substitution -/
structure Sv (wr : World) (v : Nat) (D : Option Addr) (dn dc : Nat) (xss : List (List Int)) : Prop where
  r : Row wr v 31 #[.slice D dn dc]
  s : Segs wr wr.heap.size D dn xss
section
variable {v : Nat} {D : Option Addr} {dn dc : Nat} {xss : List (List Int)} {wr w' : World}
theorem Sv.next (f : Sv wr v D dn dc xss) (hb : Below wr.heap.size wr w') : Sv w' v D dn dc xss := ⟨f.r.next hb, f.s.next hb⟩
theorem Sv.cell (f : Sv wr v D dn dc xss) : wr.cell? ⟨v, 0, none⟩ = some (.slice D dn dc) := f.r.cell 0
end
theorem below_alloc (w : World) (x : Obj) : Below w.heap.size w (w.alloc x) := (Below.refl _ _).alloc (Nat.le_refl _) _
theorem below_drewN (w : World) (d : Nat) : Below w.heap.size w (w.drewN d) := ⟨rfl, rfl, rfl, Nat.le_refl _, fun _ _ => rfl⟩

/-- two lists that read the same are told so -/
theorem like (A A' : Option Addr) (n c c' : Nat) (xs : List Int) (w : World) (h : Seg w w.heap.size A n xs) (h' : Seg w w.heap.size A' n xs) (hn : n ≤ 1048576) :
    Calls Try.prog 24 #[.slice A n c, .slice A' n c'] w fun e w' => e = .returned (.bool true) ∧ ∃ d, w' = w.drewN d := by
  go_enter Try.func24, Try.ntmps24
  go_wp2
  go_loopw [5] (fun i wr => ∃ k d : Nat, k ≤ n ∧ i = .int .i64 k ∧ wr = w.drewN d) (fun i _ => n - (intOf i).toNat)
  case atStart => exact ⟨0, 0, Nat.zero_le _, rfl, rfl⟩
  case round =>
    obtain ⟨k, d, hk, rfl, rfl⟩ := hrel
    by_cases hlt : k < n
    · obtain ⟨b, off, x, rfl, -, hx, ex⟩ := h.spot hlt
      obtain ⟨b', off', y, rfl, -, hy, ey⟩ := h'.spot hlt
      obtain rfl : x = y := by rw [← ex.out, ← ey.out]
      clear h h' ex ey
      go_wp2
      go_quiet (fail)
      go_wp2
      go_roundw
      case rel => exact ⟨k + 1, _, hlt, by simp, rfl⟩
      case measure => simp [intOf]; omega
    · clear h h'
      go_wp2
      go_ret
      exact ⟨rfl, _, rfl⟩
end Go.Proofs.Ythbhiihhanochaa.lawT
end

section
/-
  THE WALK of laws.FnMatched: it returns true, whatever the bytes, and writes nothing that was there. Conditions: the slice holds bytes. By an AI agent.
-/
namespace Go.Proofs.Ythbhiihhanochaa.wFnMatched
open Go.RowKit Go.Proofs.Ythbhiihhanochaa.base Go.Proofs.Ythbhiihhanochaa.ints Go.Proofs.Ythbhiihhanochaa.sig Go.Proofs.Ythbhiihhanochaa.same Go.Proofs.Ythbhiihhanochaa.term Go.Proofs.Ythbhiihhanochaa.cursor Go.Proofs.Ythbhiihhanochaa.termOk Go.Proofs.Ythbhiihhanochaa.marks Go.Proofs.Ythbhiihhanochaa.app Go.Proofs.Ythbhiihhanochaa.sym Go.Proofs.Ythbhiihhanochaa.segs Go.Proofs.Ythbhiihhanochaa.segsHelp Go.Proofs.Ythbhiihhanochaa.dice Go.Proofs.Ythbhiihhanochaa.inside Go.Proofs.Ythbhiihhanochaa.look Go.Proofs.Ythbhiihhanochaa.drawVar Go.Proofs.Ythbhiihhanochaa.drawMatched Go.Proofs.Ythbhiihhanochaa.drawSS Go.Proofs.Ythbhiihhanochaa.varsOf Go.Proofs.Ythbhiihhanochaa.substOk Go.Proofs.Ythbhiihhanochaa.gives Go.Proofs.Ythbhiihhanochaa.filled Go.Proofs.Ythbhiihhanochaa.sameSubst Go.Proofs.Ythbhiihhanochaa.matchMath Go.Proofs.Ythbhiihhanochaa.matchSpec Go.Proofs.Ythbhiihhanochaa.matchImpl Go.Proofs.Ythbhiihhanochaa.matchTot Go.Proofs.Ythbhiihhanochaa.matchFacts Go.Proofs.Ythbhiihhanochaa.bigs Go.Proofs.Ythbhiihhanochaa.lawT

set_option maxRecDepth 100000 in
set_option maxHeartbeats 8000000 in
theorem law (A : Option Addr) (n c : Nat) (_ : List Int) (w : World) (h : SegB w w.heap.size A n) (hN : n ≤ 9223372036854775807) :
    Calls Try.prog 3 #[.slice A n c] w (Fine w) := by
  by_cases hbig : n ≤ 4096
  · have LB := Lib.hid (bigAns A n c false w (by simp; omega) hN)
    go_enter Try.func3, Try.ntmps3
    go_wp2_with fail
    refine LB.out.mono ?_
    rintro e w' ⟨rfl, rfl⟩
    clear LB
    go_wp2_with fail
    refine (drawMatched A n c w h hbig).mono ?_
    rintro e w2 ⟨S, sn, sc, sg, O, on, oc, p, Q, qn, qc, t, rfl, s1, s2, s3, hsn, ⟨hon, hoc⟩, ⟨hqn, hqc⟩, b2⟩
    obtain ⟨v3, h3⟩ : ∃ v, w2.heap.size = v := ⟨_, rfl⟩
    obtain ⟨W, hW⟩ : ∃ W, W = w2.alloc (.cells #[.slice S sn sc] 26) := ⟨_, rfl⟩
    have T : T1 w v3 S sn sc sg O on p Q qn t W := by
      have bb : Below w2.heap.size w2 W := by rw [hW]; exact below_alloc _ _
      exact ⟨s1.next bb, s2.next bb, s3.next bb, by rw [hW, ← h3]; exact Row.new _ _ _, next_trans b2 bb⟩
    have HW := Lib.hid hW
    have H3 := Lib.hid h3
    have c30 : (w2.alloc (.cells #[.slice S sn sc] 26)).cell? ⟨v3, 0, none⟩ = some (.slice S sn sc) := by rw [← hW]; exact T.cell
    have HT := Lib.hid (match_tot (sg := sg) (p := p) (t := t))
    obtain ⟨R, hR⟩ : ∃ R, matchO sg p t = R := ⟨_, rfl⟩
    obtain ⟨b, hb⟩ : ∃ b, R.isSome = b := ⟨_, rfl⟩
    have HR := Lib.hid hR
    have HB := Lib.hid (show instB sg p t = b by unfold instB; rw [hR, hb])
    have HRB := Lib.hid hb
    have hbb := Lib.hid (show (b != b) = false by simp)
    have hBS := Lib.hid h
    clear h hW h3 b2 s1 s2 s3 hR hb
    have c3 := T.cell
    go_wp2_with fail
    rw [← HW.out, H3.out]
    refine (implMatched S O Q sn sc on oc qn qc sg p t W T.s T.o T.q (by omega) (by omega) (by omega) hqc.1 hqc.2.1).mono ?_
    rintro e w4 ⟨D, dn, dc, he, od, bb⟩
    rw [HB.out] at he
    subst he
    rw [HR.out] at od HT
    clear c30
    obtain ⟨v6, h6⟩ : ∃ v, w4.heap.size = v := ⟨_, rfl⟩
    obtain ⟨W5, hW5⟩ : ∃ W, W = w4.alloc (.cells #[.slice D dn dc] 31) := ⟨_, rfl⟩
    have bb5 : Below w4.heap.size w4 W5 := by rw [hW5]; exact below_alloc _ _
    have U6 : Sv W5 v6 D dn dc (resL R) := ⟨by rw [hW5, ← h6]; exact Row.new _ _ _, (od.segs).next bb5⟩
    replace T := (T.next bb).next bb5
    have HW5 := Lib.hid hW5
    have H6 := Lib.hid h6
    have k3 : (w4.alloc (.cells #[.slice D dn dc] 31)).cell? ⟨v3, 0, none⟩ = some (.slice S sn sc) := by rw [← hW5]; exact T.cell
    clear bb bb5 od hW5 h6
    replace c3 := T.cell
    go_wp2_with fail
    rw [← HW5.out, H6.out]
    refine (specMatched S O Q sn sc on oc qn qc sg p t W5 T.s T.o T.q (by omega) (by omega) (by omega) hqc.1 hqc.2.1).mono ?_
    rintro e w6 ⟨E, en, ec, he, oe, bb⟩
    rw [HB.out] at he
    subst he
    rw [HR.out] at oe
    clear k3
    obtain ⟨v8, h8⟩ : ∃ v, w6.heap.size = v := ⟨_, rfl⟩
    obtain ⟨W7, hW7⟩ : ∃ W, W = w6.alloc (.cells #[.slice E en ec] 31) := ⟨_, rfl⟩
    have bb7 : Below w6.heap.size w6 W7 := by rw [hW7]; exact below_alloc _ _
    have U8 : Sv W7 v8 E en ec (resL R) := ⟨by rw [hW7, ← h8]; exact Row.new _ _ _, (oe.segs).next bb7⟩
    replace T := (T.next bb).next bb7
    replace U6 := (U6.next bb).next bb7
    have HW7 := Lib.hid hW7
    have H8 := Lib.hid h8
    have k3 : (w6.alloc (.cells #[.slice E en ec] 31)).cell? ⟨v3, 0, none⟩ = some (.slice S sn sc) := by rw [← hW7]; exact T.cell
    have k6 : (w6.alloc (.cells #[.slice E en ec] 31)).cell? ⟨v6, 0, none⟩ = some (.slice D dn dc) := by rw [← hW7]; exact U6.cell
    have k8 : (w6.alloc (.cells #[.slice E en ec] 31)).cell? ⟨v8, 0, none⟩ = some (.slice E en ec) := by rw [← hW7]; exact U8.cell
    clear bb bb7 oe hW7 h8
    replace c3 := T.cell
    have ebb := hbb.out
    cases b with
    | false =>
      clear U6 U8 k6 k8
      go_wp2_with fail
      rw [← HW7.out, H8.out]
      refine (drawFilled A n c _ (segB_below hBS.out T.bel) hbig).mono ?_
      rintro e w8 ⟨S', sn', sc', sg', B, m, cB, us, V, vn, vc, v, rfl, -, q2, q3, -, hut, hvn, bb⟩
      obtain ⟨v10, h10⟩ : ∃ v, w8.heap.size = v := ⟨_, rfl⟩
      obtain ⟨W9, hW9⟩ : ∃ W, W = (w8.alloc (.cells #[.slice S' sn' sc'] 26)).alloc (.cells #[.slice B m cB] 31) := ⟨_, rfl⟩
      have bb9 : Below w8.heap.size w8 W9 := by rw [hW9]; exact (below_alloc _ _).trans ((below_alloc _ _).mono (by simp))
      have U11 : Sv W9 (v10 + 1) B m cB us := ⟨by rw [hW9, ← h10]; have := Row.new (w8.alloc (.cells #[.slice S' sn' sc'] 26)) 31 #[.slice B m cB]; simpa using this, q2.next bb9⟩
      have sv := q3.next bb9
      replace T := (T.next bb).next bb9
      have HW9 := Lib.hid hW9
      have H10 := Lib.hid h10
      have m3 : ((w8.alloc (.cells #[.slice S' sn' sc'] 26)).alloc (.cells #[.slice B m cB] 31)).cell? ⟨v3, 0, none⟩ = some (.slice S sn sc) := by rw [← hW9]; exact T.cell
      have m11 : ((w8.alloc (.cells #[.slice S' sn' sc'] 26)).alloc (.cells #[.slice B m cB] 31)).cell? ⟨v10 + 1, 0, none⟩ = some (.slice B m cB) := by rw [← hW9]; exact U11.cell
      obtain ⟨b2, hb2⟩ : ∃ b, filledB sg us v = b := ⟨_, rfl⟩
      obtain ⟨xs, hxs⟩ : ∃ x, filledL sg us v = x := ⟨_, rfl⟩
      have HB2 := Lib.hid hb2
      have HXS := Lib.hid hxs
      have hxl : xs.length ≤ 60 := by rw [← hxs]; exact filled_len _ _ _
      clear bb bb9 q2 q3 hW9 h10 hb2 hxs k3
      replace c3 := T.cell
      go_wp2_with fail
      rw [← HW9.out, H10.out]
      refine (specFilledO S B V sn sc m cB vn vc sg us v W9 T.s U11.s sv (by omega) hut (by omega)).mono ?_
      rintro e w10 ⟨X, xn, xc, he, ox, bb⟩
      rw [HB2.out] at he
      subst he
      rw [HXS.out] at ox
      have sx := Own.seg ox
      have hxc := own_cap ox
      have hxn : xn ≤ 60 := by rw [Own.len ox]; exact hxl
      replace T := T.next bb
      replace sv := sv.next bb
      clear bb ox m3 m11 U11
      replace c3 := T.cell
      cases b2 with
      | false =>
        go_wp2_with fail
        refine (implInstanceIn S O Q sn sc on oc qn qc sg p t _ T.s T.o T.q (by omega) (by omega) (by omega) hqc.1 hqc.2.1).mono ?_
        rintro e w12 ⟨he, bb⟩
        rw [HB.out] at he
        subst he
        have TB := Lib.hid (T.next bb).bel
        clear bb T c3
        go_wp2
        go_ret
        exact ⟨rfl, TB.out⟩
      | true =>
        have HI := Lib.hid (show instB sg v xs = true by rw [← HXS.out]; exact fill_inst HB2.out)
        go_wp2_with fail
        refine (implInstanceIn S V X sn sc vn vc xn xc sg v xs _ T.s sv sx (by omega) (by omega) (by omega) hxc.1 hxc.2.1).mono ?_
        rintro e w11 ⟨he, bb⟩
        rw [HI.out] at he
        subst he
        replace T := T.next bb
        clear bb sx sv
        replace c3 := T.cell
        go_wp2_with fail
        refine (implInstanceIn S O Q sn sc on oc qn qc sg p t _ T.s T.o T.q (by omega) (by omega) (by omega) hqc.1 hqc.2.1).mono ?_
        rintro e w12 ⟨he, bb⟩
        rw [HB.out] at he
        subst he
        have TB := Lib.hid (T.next bb).bel
        clear bb T c3
        go_wp2
        go_ret
        exact ⟨rfl, TB.out⟩
    | true =>
      have HV : Hid (substOkB sg (resL R) = true) := by
        obtain ⟨s', hs'⟩ := Option.isSome_iff_exists.1 HRB.out
        rw [hs']
        exact match_valid (HR.out.trans hs')
      have HF : Hid (filledB sg (resL R) p = true ∧ filledL sg (resL R) p = t) := by
        obtain ⟨s', hs'⟩ := Option.isSome_iff_exists.1 HRB.out
        rw [hs']
        exact match_fill (HR.out.trans hs')
      have HSS := Lib.hid (same_self HV.out)
      go_wp2_with fail
      rw [← HW7.out, H8.out]
      refine (specSameSubst S D E sn sc dn dc en ec sg (resL R) (resL R) W7 T.s U6.s U8.s (by omega) HT.out HT.out).mono ?_
      rintro e wq ⟨he, bb⟩
      rw [HSS.out] at he
      subst he
      replace T := T.next bb
      replace U6 := U6.next bb
      clear bb U8 k3 k6 k8
      replace c3 := T.cell
      go_wp2_with fail
      refine (drawFilled A n c _ (segB_below hBS.out T.bel) hbig).mono ?_
      rintro e w8 ⟨S', sn', sc', sg', B, m, cB, us, V, vn, vc, v, rfl, -, q2, q3, -, hut, hvn, bb⟩
      obtain ⟨v10, h10⟩ : ∃ v, w8.heap.size = v := ⟨_, rfl⟩
      obtain ⟨W9, hW9⟩ : ∃ W, W = (w8.alloc (.cells #[.slice S' sn' sc'] 26)).alloc (.cells #[.slice B m cB] 31) := ⟨_, rfl⟩
      have bb9 : Below w8.heap.size w8 W9 := by rw [hW9]; exact (below_alloc _ _).trans ((below_alloc _ _).mono (by simp))
      have U11 : Sv W9 (v10 + 1) B m cB us := ⟨by rw [hW9, ← h10]; have := Row.new (w8.alloc (.cells #[.slice S' sn' sc'] 26)) 31 #[.slice B m cB]; simpa using this, q2.next bb9⟩
      have sv := q3.next bb9
      replace T := (T.next bb).next bb9
      replace U6 := (U6.next bb).next bb9
      have HW9 := Lib.hid hW9
      have H10 := Lib.hid h10
      have m3 : ((w8.alloc (.cells #[.slice S' sn' sc'] 26)).alloc (.cells #[.slice B m cB] 31)).cell? ⟨v3, 0, none⟩ = some (.slice S sn sc) := by rw [← hW9]; exact T.cell
      have m11 : ((w8.alloc (.cells #[.slice S' sn' sc'] 26)).alloc (.cells #[.slice B m cB] 31)).cell? ⟨v10 + 1, 0, none⟩ = some (.slice B m cB) := by rw [← hW9]; exact U11.cell
      obtain ⟨b2, hb2⟩ : ∃ b, filledB sg us v = b := ⟨_, rfl⟩
      obtain ⟨xs, hxs⟩ : ∃ x, filledL sg us v = x := ⟨_, rfl⟩
      have HB2 := Lib.hid hb2
      have HXS := Lib.hid hxs
      have hxl : xs.length ≤ 60 := by rw [← hxs]; exact filled_len _ _ _
      clear bb bb9 q2 q3 hW9 h10 hb2 hxs
      replace c3 := T.cell
      go_wp2_with fail
      rw [← HW9.out, H10.out]
      refine (specFilledO S B V sn sc m cB vn vc sg us v W9 T.s U11.s sv (by omega) hut (by omega)).mono ?_
      rintro e w10 ⟨X, xn, xc, he, ox, bb⟩
      rw [HB2.out] at he
      subst he
      rw [HXS.out] at ox
      have sx := Own.seg ox
      have hxc := own_cap ox
      have hxn : xn ≤ 60 := by rw [Own.len ox]; exact hxl
      replace T := T.next bb
      replace sv := sv.next bb
      replace U6 := U6.next bb
      clear bb ox m3 m11 U11
      replace c3 := T.cell
      cases b2 with
      | false =>
        have c6 := U6.cell
        go_wp2_with fail
        refine (implFilled S D O sn sc dn dc on oc sg (resL R) p _ T.s U6.s T.o (by omega) HT.out (by omega)).mono ?_
        rintro e w12 ⟨Y, yn, yc, he, oy, bb⟩
        rw [HF.out.1] at he
        subst he
        rw [HF.out.2] at oy
        have sy := Own.seg oy
        have hyn : yn ≤ 65 := by rw [Own.len oy, T.q.1]; exact hqn
        replace T := T.next bb
        clear bb oy U6 c3 c6
        go_wp2_with fail
        refine (implSame Y Q yn qn yc qc t t _ sy T.q (by omega) (by omega)).mono ?_
        rintro e w13 ⟨he, d, rfl⟩
        rw [decide_eq_true rfl] at he
        subst he
        have TB := Lib.hid (next_trans T.bel (below_drewN w12 d))
        clear T sy
        go_wp2
        go_ret
        exact ⟨rfl, TB.out⟩
      | true =>
        have HI := Lib.hid (show instB sg v xs = true by rw [← HXS.out]; exact fill_inst HB2.out)
        go_wp2_with fail
        refine (implInstanceIn S V X sn sc vn vc xn xc sg v xs _ T.s sv sx (by omega) (by omega) (by omega) hxc.1 hxc.2.1).mono ?_
        rintro e w11 ⟨he, bb⟩
        rw [HI.out] at he
        subst he
        replace T := T.next bb
        replace U6 := U6.next bb
        clear bb sx sv
        replace c3 := T.cell
        have c6 := U6.cell
        go_wp2_with fail
        refine (implFilled S D O sn sc dn dc on oc sg (resL R) p _ T.s U6.s T.o (by omega) HT.out (by omega)).mono ?_
        rintro e w12 ⟨Y, yn, yc, he, oy, bb⟩
        rw [HF.out.1] at he
        subst he
        rw [HF.out.2] at oy
        have sy := Own.seg oy
        have hyn : yn ≤ 65 := by rw [Own.len oy, T.q.1]; exact hqn
        replace T := T.next bb
        clear bb oy U6 c3 c6
        go_wp2_with fail
        refine (implSame Y Q yn qn yc qc t t _ sy T.q (by omega) (by omega)).mono ?_
        rintro e w13 ⟨he, d, rfl⟩
        rw [decide_eq_true rfl] at he
        subst he
        have TB := Lib.hid (next_trans T.bel (below_drewN w12 d))
        clear T sy
        go_wp2
        go_ret
        exact ⟨rfl, TB.out⟩
  · have LB := Lib.hid (bigAns A n c true w (by simp; omega) hN)
    clear h
    go_enter Try.func3, Try.ntmps3
    go_wp2_with fail
    refine LB.out.mono ?_
    rintro e w' ⟨rfl, rfl⟩
    clear LB
    go_wp2
    go_ret
    exact ⟨rfl, Below.refl _ _⟩
end Go.Proofs.Ythbhiihhanochaa.wFnMatched
end
