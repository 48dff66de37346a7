/-
  MERGED: my texts Same, Variant, Big, WFnRenamed, one behind the other, as they are. By an AI agent.
-/
import Derived.Test.YtfclafbdbdmlhaaMFnRenamed2
import Derived.Deep.RegionHeld3
namespace Go.Proofs.Ytfclafbdbdmlhaa
section
open Go.Lib (hid)
namespace same
open Go.RowKit base ints
set_option maxHeartbeats 400000 in
theorem specSame (A A' : Option Addr) (n m c c' : Nat) (xs ys : List Int) (w : World) (h : Seg w w.heap.size A n xs) (h' : Seg w w.heap.size A' m ys) (hn : n ≤ 1048576) (hm : m ≤ 1048576) :
  Calls Try.prog 64 #[.slice A n c, .slice A' m c'] w (AnsSame w xs ys) := by
 by_cases hnm : n = m
 ·subst hnm
  go_enter Try.func64, Try.ntmps64
  go_wp2
  go_loopw [5] (fun i wr => HeadSame w n xs ys i wr) (fun i _ => n - (intOf i).toNat)
  case atStart => exact ⟨0, 0, Nat.zero_le _, rfl, rfl, fun j h => absurd h (Nat.not_lt_zero _)⟩
  case round =>
   obtain ⟨k, d, hk, rfl, rfl, hc⟩ := hrel
   by_cases hlt : k < n
   ·obtain ⟨b, off, x, rfl, -, hx, ex⟩ := h.spot hlt
    obtain ⟨b', off', y, rfl, -, hx', ey⟩ := h'.spot hlt
    by_cases he : x = y
    ·subst he
     have S := hid (alike_step (w := w) hlt hc ex ey)
     clear hc h h' ex ey
     go_wp2
     go_quiet (fail)
     go_wp2
     go_roundw
     case rel => exact S.out _
     case measure => simp [intOf]; omega
    ·have S := hid (same_not (w := w) ex ey he)
     have hne : (x != y) = true := by simp [he]
     clear hc h h' ex ey he
     go_wp2
     go_quiet (fail)
     go_wp2
     go_ret
     rw [World.drewN_drewN]
     exact S.out _
   ·have S := hid (same_yes (w := w) h.1 h'.1 hlt hc)
    clear hc h h'
    go_wp2
    go_ret
    exact S.out _
 ·have S := hid (same_len (w := w) h.1 h'.1 hnm)
  have hne : ((n : Int) != (m : Int)) = true := by simp; omega
  clear h h'
  go_enter Try.func64, Try.ntmps64
  go_wp2
  go_ret
  exact S.out
set_option maxHeartbeats 400000 in
theorem libEqual (A A' : Option Addr) (n m c c' : Nat) (xs ys : List Int) (w : World) (h : Seg w w.heap.size A n xs) (h' : Seg w w.heap.size A' m ys) (hn : n ≤ 1048576) (hm : m ≤ 1048576) :
  Calls Try.prog 66 #[.slice A n c, .slice A' m c'] w (AnsSame w xs ys) := by
 by_cases hnm : n = m
 ·subst hnm
  go_enter Try.func66, Try.ntmps66
  go_wp2
  go_loopw [13] (fun i wr => HeadSame w n xs ys i wr) (fun i _ => n - (intOf i).toNat)
  case atStart => exact ⟨0, 0, Nat.zero_le _, rfl, rfl, fun j h => absurd h (Nat.not_lt_zero _)⟩
  case round =>
   obtain ⟨k, d, hk, rfl, rfl, hc⟩ := hrel
   by_cases hlt : k < n
   ·obtain ⟨b, off, x, rfl, -, hx, ex⟩ := h.spot hlt
    obtain ⟨b', off', y, rfl, -, hx', ey⟩ := h'.spot hlt
    by_cases he : x = y
    ·subst he
     have S := hid (alike_step (w := w) hlt hc ex ey)
     clear hc h h' ex ey
     go_wp2
     go_quiet (fail)
     go_wp2
     go_roundw
     case rel => exact S.out _
     case measure => simp [intOf]; omega
    ·have S := hid (same_not (w := w) ex ey he)
     have hne : (x != y) = true := by simp [he]
     clear hc h h' ex ey he
     go_wp2
     go_quiet (fail)
     go_wp2
     go_ret
     rw [World.drewN_drewN]
     exact S.out _
   ·have S := hid (same_yes (w := w) h.1 h'.1 hlt hc)
    clear hc h h'
    go_wp2
    go_ret
    exact S.out _
 ·have S := hid (same_len (w := w) h.1 h'.1 hnm)
  have hne : ((n : Int) != (m : Int)) = true := by simp; omega
  clear h h'
  go_enter Try.func66, Try.ntmps66
  go_wp2
  go_ret
  exact S.out
theorem implSame (A A' : Option Addr) (n m c c' : Nat) (xs ys : List Int) (w : World) (h : Seg w w.heap.size A n xs) (h' : Seg w w.heap.size A' m ys) (hn : n ≤ 1048576) (hm : m ≤ 1048576) :
  Calls Try.prog 16 #[.slice A n c, .slice A' m c'] w (AnsSame w xs ys) := by
 have L := hid (libEqual A A' n m c c' xs ys w h h' hn hm)
 clear h h'
 go_enter Try.func16, Try.ntmps16
 go_wp2_with fail
 refine L.out.mono ?_
 rintro e w' ⟨rfl, d, rfl⟩
 go_wp2
 go_ret
 exact ⟨rfl, d, rfl⟩
end same
end
section
open Go.Lib (hid)
open List (setIfInBounds_toArray set_cons_zero set_cons_succ getElem_toArray getElem_cons_zero getElem_cons_succ)
namespace variant
open Go.RowKit base ints sig same term termOk marks sym termFacts varsOf renMath rename renImpl
set_option maxRecDepth 100000
def variantB (sg a b : List Int) : Bool := termOkB sg a && (termOkB sg b && decide (renL a = renL b))
theorem variant_a {sg a b : List Int} (h : termOkB sg a = false) : variantB sg a b = false := by unfold variantB; rw [h, Bool.false_and]
theorem variant_b {sg a b : List Int} (h : termOkB sg b = false) : variantB sg a b = false := by unfold variantB; rw [h, Bool.false_and, Bool.and_false]
theorem variant_ab {sg a b : List Int} (h : termOkB sg a = true) (h' : termOkB sg b = true) : variantB sg a b = decide (renL a = renL b) := by unfold variantB; rw [h, h', Bool.true_and, Bool.true_and]
set_option maxHeartbeats 4000000 in
theorem specVariantIn (A A' B' : Option Addr) (n c m c' q cq : Nat) (sg a b : List Int) (w : World) (h : Seg w w.heap.size A n sg) (h' : Seg w w.heap.size A' m a) (h2 : Seg w w.heap.size B' q b) (hn : n ≤ 1048576) (hm : m ≤ 1048576) (hq : q ≤ 1048576) :
  Calls Try.prog 15 #[.agg #[.slice A n c], .slice A' m c', .slice B' q cq] w (AnsB w (variantB sg a b)) := by
 obtain ⟨W, hW⟩ : ∃ W, W = w.alloc (.cells #[.slice A n c] 26) := ⟨_, rfl⟩
 have rA : Row W w.heap.size 26 #[.slice A n c] := by rw [hW]; exact Row.new _ _ _
 have bel : Below w.heap.size w W := by rw [hW]; exact (Below.refl _ _).alloc (Nat.le_refl _) _
 have s := h.next bel
 have s1 := h'.next bel
 have s2 := h2.next bel
 have HW := hid hW
 have L := hid (specTermOk A A' n c m c' sg a W s s1 hn hm)
 have H1 := hid h'.1
 have H2 := hid h2.1
 clear hW h h' h2
 cases hok : termOkB sg a with
 | false =>
  have HS := hid hok
  clear hok s s1 s2
  go_enter Try.func15, Try.ntmps15
  go_wp2_with fail
  rw [← HW.out]
  refine L.out.mono ?_
  rintro e w1 ⟨he, bb⟩
  rw [HS.out] at he
  subst he
  have F := hid (ansB (b := variantB sg a b) (a := false) (by rw [variant_a HS.out]) (next_trans bel bb))
  clear bb bel rA
  go_wp2
  go_ret
  exact F.out
 | true =>
  have HS := hid hok
  clear hok
  go_enter Try.func15, Try.ntmps15
  go_wp2_with fail
  rw [← HW.out]
  refine L.out.mono ?_
  rintro e w1 ⟨he, bb⟩
  rw [HS.out] at he
  subst he
  replace s := s.next bb
  replace s1 := s1.next bb
  replace s2 := s2.next bb
  have cA : w1.cell? ⟨w.heap.size, 0, none⟩ = some (.slice A n c) := (rA.next bb).cell 0
  replace bel := next_trans bel bb
  have L2 := hid (specTermOk A B' n c q cq sg b w1 s s2 hn hq)
  clear bb L rA
  cases hok2 : termOkB sg b with
  | false =>
   have HS2 := hid hok2
   clear hok2 s s1 s2
   go_wp2_with fail
   refine L2.out.mono ?_
   rintro e w2 ⟨he, bb⟩
   rw [HS2.out] at he
   subst he
   have F := hid (ansB (b := variantB sg a b) (a := false) (by rw [variant_b HS2.out]) (next_trans bel bb))
   clear bb bel cA
   go_wp2
   go_ret
   exact F.out
  | true =>
   have HS2 := hid hok2
   clear hok2
   go_wp2_with fail
   refine L2.out.mono ?_
   rintro e w2 ⟨he, bb⟩
   rw [HS2.out] at he
   subst he
   replace s1 := s1.next bb
   replace s2 := s2.next bb
   replace bel := next_trans bel bb
   clear bb cA L2 s
   go_wp2_with fail
   refine (l2Renamed A' m c' a _ s1 hm).mono ?_
   rintro e w3 ⟨X, xn, xc, rfl, ox, bb⟩
   replace s2 := s2.next bb
   replace bel := next_trans bel bb
   clear bb s1
   go_wp2_with fail
   refine (l2Renamed B' q cq b _ s2 hq).mono ?_
   rintro e w4 ⟨Y, yn, yc, rfl, oy, bb⟩
   have hxn : xn ≤ 1048576 := by rw [Own.len ox, ren_len, H1.out]; exact hm
   have hyn : yn ≤ 1048576 := by rw [Own.len oy, ren_len, H2.out]; exact hq
   have L3 := hid (specSame X Y xn yn xc yc (renL a) (renL b) w4 (Own.seg (ox.next bb)) (Own.seg oy) hxn hyn)
   replace bel := next_trans bel bb
   clear bb s2 ox oy
   go_wp2_with fail
   refine L3.out.mono ?_
   rintro e w5 ⟨rfl, d, rfl⟩
   have F := hid (ansB (b := variantB sg a b) (variant_ab HS.out HS2.out).symm (below_drewN bel d))
   clear bel L3
   generalize decide (renL a = renL b) = z at *
   go_wp2
   go_ret
   exact F.out
set_option maxHeartbeats 2000000 in
theorem implVariantIn (A A' B' : Option Addr) (n c m c' q cq : Nat) (sg a b : List Int) (w : World) (h : Seg w w.heap.size A n sg) (h' : Seg w w.heap.size A' m a) (h2 : Seg w w.heap.size B' q b) (hn : n ≤ 1048576) (hm : m ≤ 1048576) (hq : q ≤ 1048576) :
  Calls Try.prog 14 #[.agg #[.slice A n c], .slice A' m c', .slice B' q cq] w (AnsB w (variantB sg a b)) := by
 obtain ⟨W, hW⟩ : ∃ W, W = w.alloc (.cells #[.slice A n c] 26) := ⟨_, rfl⟩
 have rA : Row W w.heap.size 26 #[.slice A n c] := by rw [hW]; exact Row.new _ _ _
 have bel : Below w.heap.size w W := by rw [hW]; exact (Below.refl _ _).alloc (Nat.le_refl _) _
 have s := (h.next bel).drew
 have s1 := (h'.next bel).drew
 have s2 := (h2.next bel).drew
 have HW := hid hW
 have H1 := hid h'.1
 have H2 := hid h2.1
 have cA : W.cell? ⟨w.heap.size, 0, none⟩ = some (.slice A n c) := rA.cell 0
 replace rA := rA.drew
 replace bel := bel.drew
 have L := hid (implTermOk A A' n c m c' sg a W.drew s s1 hn hm)
 clear hW h h' h2
 cases hok : termOkB sg a with
 | false =>
  have HS := hid hok
  clear hok s s1 s2
  go_enter Try.func14, Try.ntmps14
  go_wp2_with fail
  rw [← HW.out]
  refine wp_region_held_drew (S := (fun w' => w'.cell? ⟨w.heap.size, 0, none⟩ = some (.slice A n c))) (by kernel_rfl) cA (fun hHeld => ?_)
  refine wpAnyH_take (i := 0) (v := ?_) rfl (by kernel_rfl) (by kernel_rfl) (by kernel_rfl) (fun _ _ _ h => h) (Or.inl ⟨by rfl, ?_⟩) (by assumption) ?_
  rotate_left 1
  ·(intro w0 hSw; (try dsimp only at hSw); go_simp; try with_reducible rfl)
  try simp only [Act.put, setIfInBounds_toArray, set_cons_zero, set_cons_succ, getElem_toArray, getElem_cons_zero, getElem_cons_succ]
  refine wpAnyH_take (i := 1) (v := ?_) rfl (by kernel_rfl) (by kernel_rfl) (by kernel_rfl) (fun _ _ _ h => h) (Or.inl ⟨by rfl, ?_⟩) (by assumption) ?_
  rotate_left 1
  ·(intro w0 hSw; (try dsimp only at hSw); go_simp; try with_reducible rfl)
  try simp only [Act.put, setIfInBounds_toArray, set_cons_zero, set_cons_succ, getElem_toArray, getElem_cons_zero, getElem_cons_succ]
  refine wpAnyH_ready (rs := [2]) (by kernel_rfl) (by simp) (AllReadyH.cons rfl (fun K hK => ?_) AllReadyH.nil)
  go_simp
  refine L.out.mono ?_; rintro e w1 ⟨he, bb⟩; rw [HS.out] at he; subst he; have c1 : w1.cell? ⟨w.heap.size, 0, none⟩ = some (.slice A n c) := (rA.next bb).cell 0; go_wp2_with fail
  refine hK.out _ _ ?_ (fun hHeld => ?_)
  ·first | assumption | (dsimp only; assumption)
  clear hK K
  try simp only [Act.put, setIfInBounds_toArray, set_cons_zero, set_cons_succ, getElem_toArray, getElem_cons_zero, getElem_cons_succ]
  refine wpAnyH_take (i := 3) (v := ?_) rfl (by kernel_rfl) (by kernel_rfl) (by kernel_rfl) (fun _ _ _ h => h) (Or.inl ⟨by rfl, ?_⟩) (by assumption) ?_
  rotate_left 1
  ·(intro w0 hSw; (try dsimp only at hSw); go_simp; try with_reducible rfl)
  try simp only [Act.put, setIfInBounds_toArray, set_cons_zero, set_cons_succ, getElem_toArray, getElem_cons_zero, getElem_cons_succ]
  refine wpAnyH_take (i := 4) (v := undef) rfl (by kernel_rfl) (by kernel_rfl) (by kernel_rfl) (fun _ _ _ h => h) (Or.inr ⟨by rfl, rfl⟩) (by assumption) ?_
  try simp only [Act.put, setIfInBounds_toArray, set_cons_zero, set_cons_succ, getElem_toArray, getElem_cons_zero, getElem_cons_succ]
  refine wpAnyH_take (i := 5) (v := undef) rfl (by kernel_rfl) (by kernel_rfl) (by kernel_rfl) (fun _ _ _ h => h) (Or.inr ⟨by rfl, rfl⟩) (by assumption) ?_
  try simp only [Act.put, setIfInBounds_toArray, set_cons_zero, set_cons_succ, getElem_toArray, getElem_cons_zero, getElem_cons_succ]
  refine wpAnyH_take (i := 6) (v := undef) rfl (by kernel_rfl) (by kernel_rfl) (by kernel_rfl) (fun _ _ _ h => h) (Or.inr ⟨by rfl, rfl⟩) (by assumption) ?_
  try simp only [Act.put, setIfInBounds_toArray, set_cons_zero, set_cons_succ, getElem_toArray, getElem_cons_zero, getElem_cons_succ]
  refine wpAnyH_take (i := 7) (v := ?_) rfl (by kernel_rfl) (by kernel_rfl) (by kernel_rfl) (fun _ _ _ h => h) (Or.inl ⟨by rfl, ?_⟩) (by assumption) ?_
  rotate_left 1
  ·(intro w0 hSw; (try dsimp only at hSw); go_simp; try with_reducible rfl)
  try simp only [Act.put, setIfInBounds_toArray, set_cons_zero, set_cons_succ, getElem_toArray, getElem_cons_zero, getElem_cons_succ]
  refine wpAnyH_take (i := 8) (v := ?_) rfl (by kernel_rfl) (by kernel_rfl) (by kernel_rfl) (fun _ _ _ h => h) (Or.inl ⟨by rfl, ?_⟩) (by assumption) ?_
  rotate_left 1
  ·(intro w0 hSw; (try dsimp only at hSw); go_simp; try with_reducible rfl)
  try simp only [Act.put, setIfInBounds_toArray, set_cons_zero, set_cons_succ, getElem_toArray, getElem_cons_zero, getElem_cons_succ]
  refine wpAnyH_take (i := 9) (v := undef) rfl (by kernel_rfl) (by kernel_rfl) (by kernel_rfl) (fun _ _ _ h => h) (Or.inr ⟨by rfl, rfl⟩) (by assumption) ?_
  try simp only [Act.put, setIfInBounds_toArray, set_cons_zero, set_cons_succ, getElem_toArray, getElem_cons_zero, getElem_cons_succ]
  refine wpAnyH_take (i := 10) (v := undef) rfl (by kernel_rfl) (by kernel_rfl) (by kernel_rfl) (fun _ _ _ h => h) (Or.inr ⟨by rfl, rfl⟩) (by assumption) ?_
  try simp only [Act.put, setIfInBounds_toArray, set_cons_zero, set_cons_succ, getElem_toArray, getElem_cons_zero, getElem_cons_succ]
  refine wpAnyH_take (i := 11) (v := undef) rfl (by kernel_rfl) (by kernel_rfl) (by kernel_rfl) (fun _ _ _ h => h) (Or.inr ⟨by rfl, rfl⟩) (by assumption) ?_
  try simp only [Act.put, setIfInBounds_toArray, set_cons_zero, set_cons_succ, getElem_toArray, getElem_cons_zero, getElem_cons_succ]
  refine wpAnyH_take (i := 12) (v := undef) rfl (by kernel_rfl) (by kernel_rfl) (by kernel_rfl) (fun _ _ _ h => h) (Or.inr ⟨by rfl, rfl⟩) (by assumption) ?_
  try simp only [Act.put, setIfInBounds_toArray, set_cons_zero, set_cons_succ, getElem_toArray, getElem_cons_zero, getElem_cons_succ]
  refine wpAnyH_take (i := 13) (v := undef) rfl (by kernel_rfl) (by kernel_rfl) (by kernel_rfl) (fun _ _ _ h => h) (Or.inr ⟨by rfl, rfl⟩) (by assumption) ?_
  try simp only [Act.put, setIfInBounds_toArray, set_cons_zero, set_cons_succ, getElem_toArray, getElem_cons_zero, getElem_cons_succ]
  refine wpAnyH_take (i := 14) (v := undef) rfl (by kernel_rfl) (by kernel_rfl) (by kernel_rfl) (fun _ _ _ h => h) (Or.inr ⟨by rfl, rfl⟩) (by assumption) ?_
  try simp only [Act.put, setIfInBounds_toArray, set_cons_zero, set_cons_succ, getElem_toArray, getElem_cons_zero, getElem_cons_succ]
  refine wpAnyH_take (i := 15) (v := undef) rfl (by kernel_rfl) (by kernel_rfl) (by kernel_rfl) (fun _ _ _ h => h) (Or.inr ⟨by rfl, rfl⟩) (by assumption) ?_
  try simp only [Act.put, setIfInBounds_toArray, set_cons_zero, set_cons_succ, getElem_toArray, getElem_cons_zero, getElem_cons_succ]
  refine wpAnyH_take (i := 16) (v := ?_) rfl (by kernel_rfl) (by kernel_rfl) (by kernel_rfl) (fun _ _ _ h => h) (Or.inl ⟨by rfl, ?_⟩) (by assumption) ?_
  rotate_left 1
  ·(intro w0 hSw; (try dsimp only at hSw); go_simp; try with_reducible rfl)
  try simp only [Act.put, setIfInBounds_toArray, set_cons_zero, set_cons_succ, getElem_toArray, getElem_cons_zero, getElem_cons_succ]
  refine wpAnyH_take (i := 17) (v := ?_) rfl (by kernel_rfl) (by kernel_rfl) (by kernel_rfl) (fun _ _ _ h => h) (Or.inl ⟨by rfl, ?_⟩) (by assumption) ?_
  rotate_left 1
  ·(intro w0 hSw; (try dsimp only at hSw); go_simp; try with_reducible rfl)
  try simp only [Act.put, setIfInBounds_toArray, set_cons_zero, set_cons_succ, getElem_toArray, getElem_cons_zero, getElem_cons_succ]
  refine wpAnyH_done (by kernel_rfl) ?_ _
  have F := hid (ansB (b := variantB sg a b) (a := false) (by rw [variant_a HS.out]) (next_trans bel bb))
  go_wp2
  go_ret
  exact F.out
 | true =>
  have HS := hid hok
  clear hok
  cases hok2 : termOkB sg b with
  | false =>
   have HS2 := hid hok2
   clear hok2
   go_enter Try.func14, Try.ntmps14
   go_wp2_with fail
   rw [← HW.out]
   refine wp_region_held_drew (S := (fun w' => w'.cell? ⟨w.heap.size, 0, none⟩ = some (.slice A n c))) (by kernel_rfl) cA (fun hHeld => ?_)
   refine wpAnyH_take (i := 0) (v := ?_) rfl (by kernel_rfl) (by kernel_rfl) (by kernel_rfl) (fun _ _ _ h => h) (Or.inl ⟨by rfl, ?_⟩) (by assumption) ?_
   rotate_left 1
   ·(intro w0 hSw; (try dsimp only at hSw); go_simp; try with_reducible rfl)
   try simp only [Act.put, setIfInBounds_toArray, set_cons_zero, set_cons_succ, getElem_toArray, getElem_cons_zero, getElem_cons_succ]
   refine wpAnyH_take (i := 1) (v := ?_) rfl (by kernel_rfl) (by kernel_rfl) (by kernel_rfl) (fun _ _ _ h => h) (Or.inl ⟨by rfl, ?_⟩) (by assumption) ?_
   rotate_left 1
   ·(intro w0 hSw; (try dsimp only at hSw); go_simp; try with_reducible rfl)
   try simp only [Act.put, setIfInBounds_toArray, set_cons_zero, set_cons_succ, getElem_toArray, getElem_cons_zero, getElem_cons_succ]
   refine wpAnyH_ready (rs := [2]) (by kernel_rfl) (by simp) (AllReadyH.cons rfl (fun K hK => ?_) AllReadyH.nil)
   go_simp
   refine L.out.mono ?_; rintro e w1 ⟨he, bb⟩; rw [HS.out] at he; subst he; have t0 := s.next bb; have t1 := s1.next bb; have t2 := s2.next bb; have tr := rA.next bb; have tb := next_trans bel bb; have c1 : w1.cell? ⟨w.heap.size, 0, none⟩ = some (.slice A n c) := tr.cell 0; clear s s1 s2 rA bel bb L; go_wp2_with fail
   refine hK.out _ _ ?_ (fun hHeld => ?_)
   ·first | assumption | (dsimp only; assumption)
   clear hK K
   try simp only [Act.put, setIfInBounds_toArray, set_cons_zero, set_cons_succ, getElem_toArray, getElem_cons_zero, getElem_cons_succ]
   refine wpAnyH_take (i := 3) (v := ?_) rfl (by kernel_rfl) (by kernel_rfl) (by kernel_rfl) (fun _ _ _ h => h) (Or.inl ⟨by rfl, ?_⟩) (by assumption) ?_
   rotate_left 1
   ·(intro w0 hSw; (try dsimp only at hSw); go_simp; try with_reducible rfl)
   try simp only [Act.put, setIfInBounds_toArray, set_cons_zero, set_cons_succ, getElem_toArray, getElem_cons_zero, getElem_cons_succ]
   refine wpAnyH_take (i := 4) (v := ?_) rfl (by kernel_rfl) (by kernel_rfl) (by kernel_rfl) (fun _ _ _ h => h) (Or.inl ⟨by rfl, ?_⟩) (by assumption) ?_
   rotate_left 1
   ·(intro w0 hSw; (try dsimp only at hSw); go_simp; try with_reducible rfl)
   try simp only [Act.put, setIfInBounds_toArray, set_cons_zero, set_cons_succ, getElem_toArray, getElem_cons_zero, getElem_cons_succ]
   refine wpAnyH_take (i := 5) (v := ?_) rfl (by kernel_rfl) (by kernel_rfl) (by kernel_rfl) (fun _ _ _ h => h) (Or.inl ⟨by rfl, ?_⟩) (by assumption) ?_
   rotate_left 1
   ·(intro w0 hSw; (try dsimp only at hSw); go_simp; try with_reducible rfl)
   try simp only [Act.put, setIfInBounds_toArray, set_cons_zero, set_cons_succ, getElem_toArray, getElem_cons_zero, getElem_cons_succ]
   refine wpAnyH_ready (rs := [6]) (by kernel_rfl) (by simp) (AllReadyH.cons rfl (fun K hK => ?_) AllReadyH.nil)
   go_simp
   refine (implTermOk A B' n c q cq sg b w1 t0 t2 hn hq).mono ?_; rintro e w2 ⟨he, bb2⟩; rw [HS2.out] at he; subst he; have u0 := t0.next bb2; have u1 := t1.next bb2; have u2 := t2.next bb2; have ur := tr.next bb2; have ub := next_trans tb bb2; have c2 : w2.cell? ⟨w.heap.size, 0, none⟩ = some (.slice A n c) := ur.cell 0; clear t0 t1 t2 tr tb bb2; go_wp2_with fail
   refine hK.out _ _ ?_ (fun hHeld => ?_)
   ·first | assumption | (dsimp only; assumption)
   clear hK K
   try simp only [Act.put, setIfInBounds_toArray, set_cons_zero, set_cons_succ, getElem_toArray, getElem_cons_zero, getElem_cons_succ]
   refine wpAnyH_take (i := 7) (v := ?_) rfl (by kernel_rfl) (by kernel_rfl) (by kernel_rfl) (fun _ _ _ h => h) (Or.inl ⟨by rfl, ?_⟩) (by assumption) ?_
   rotate_left 1
   ·(intro w0 hSw; (try dsimp only at hSw); go_simp; try with_reducible rfl)
   try simp only [Act.put, setIfInBounds_toArray, set_cons_zero, set_cons_succ, getElem_toArray, getElem_cons_zero, getElem_cons_succ]
   refine wpAnyH_take (i := 8) (v := ?_) rfl (by kernel_rfl) (by kernel_rfl) (by kernel_rfl) (fun _ _ _ h => h) (Or.inl ⟨by rfl, ?_⟩) (by assumption) ?_
   rotate_left 1
   ·(intro w0 hSw; (try dsimp only at hSw); go_simp; try with_reducible rfl)
   try simp only [Act.put, setIfInBounds_toArray, set_cons_zero, set_cons_succ, getElem_toArray, getElem_cons_zero, getElem_cons_succ]
   refine wpAnyH_take (i := 9) (v := undef) rfl (by kernel_rfl) (by kernel_rfl) (by kernel_rfl) (fun _ _ _ h => h) (Or.inr ⟨by rfl, rfl⟩) (by assumption) ?_
   try simp only [Act.put, setIfInBounds_toArray, set_cons_zero, set_cons_succ, getElem_toArray, getElem_cons_zero, getElem_cons_succ]
   refine wpAnyH_take (i := 10) (v := undef) rfl (by kernel_rfl) (by kernel_rfl) (by kernel_rfl) (fun _ _ _ h => h) (Or.inr ⟨by rfl, rfl⟩) (by assumption) ?_
   try simp only [Act.put, setIfInBounds_toArray, set_cons_zero, set_cons_succ, getElem_toArray, getElem_cons_zero, getElem_cons_succ]
   refine wpAnyH_take (i := 11) (v := undef) rfl (by kernel_rfl) (by kernel_rfl) (by kernel_rfl) (fun _ _ _ h => h) (Or.inr ⟨by rfl, rfl⟩) (by assumption) ?_
   try simp only [Act.put, setIfInBounds_toArray, set_cons_zero, set_cons_succ, getElem_toArray, getElem_cons_zero, getElem_cons_succ]
   refine wpAnyH_take (i := 12) (v := undef) rfl (by kernel_rfl) (by kernel_rfl) (by kernel_rfl) (fun _ _ _ h => h) (Or.inr ⟨by rfl, rfl⟩) (by assumption) ?_
   try simp only [Act.put, setIfInBounds_toArray, set_cons_zero, set_cons_succ, getElem_toArray, getElem_cons_zero, getElem_cons_succ]
   refine wpAnyH_take (i := 13) (v := undef) rfl (by kernel_rfl) (by kernel_rfl) (by kernel_rfl) (fun _ _ _ h => h) (Or.inr ⟨by rfl, rfl⟩) (by assumption) ?_
   try simp only [Act.put, setIfInBounds_toArray, set_cons_zero, set_cons_succ, getElem_toArray, getElem_cons_zero, getElem_cons_succ]
   refine wpAnyH_take (i := 14) (v := undef) rfl (by kernel_rfl) (by kernel_rfl) (by kernel_rfl) (fun _ _ _ h => h) (Or.inr ⟨by rfl, rfl⟩) (by assumption) ?_
   try simp only [Act.put, setIfInBounds_toArray, set_cons_zero, set_cons_succ, getElem_toArray, getElem_cons_zero, getElem_cons_succ]
   refine wpAnyH_take (i := 15) (v := undef) rfl (by kernel_rfl) (by kernel_rfl) (by kernel_rfl) (fun _ _ _ h => h) (Or.inr ⟨by rfl, rfl⟩) (by assumption) ?_
   try simp only [Act.put, setIfInBounds_toArray, set_cons_zero, set_cons_succ, getElem_toArray, getElem_cons_zero, getElem_cons_succ]
   refine wpAnyH_take (i := 16) (v := ?_) rfl (by kernel_rfl) (by kernel_rfl) (by kernel_rfl) (fun _ _ _ h => h) (Or.inl ⟨by rfl, ?_⟩) (by assumption) ?_
   rotate_left 1
   ·(intro w0 hSw; (try dsimp only at hSw); go_simp; try with_reducible rfl)
   try simp only [Act.put, setIfInBounds_toArray, set_cons_zero, set_cons_succ, getElem_toArray, getElem_cons_zero, getElem_cons_succ]
   refine wpAnyH_take (i := 17) (v := ?_) rfl (by kernel_rfl) (by kernel_rfl) (by kernel_rfl) (fun _ _ _ h => h) (Or.inl ⟨by rfl, ?_⟩) (by assumption) ?_
   rotate_left 1
   ·(intro w0 hSw; (try dsimp only at hSw); go_simp; try with_reducible rfl)
   try simp only [Act.put, setIfInBounds_toArray, set_cons_zero, set_cons_succ, getElem_toArray, getElem_cons_zero, getElem_cons_succ]
   refine wpAnyH_done (by kernel_rfl) ?_ _
   have F := hid (ansB (b := variantB sg a b) (a := false) (by rw [variant_b HS2.out]) ub)
   go_wp2
   go_ret
   exact F.out
  | true =>
   have HS2 := hid hok2
   clear hok2
   obtain ⟨z, hz⟩ : ∃ z, variantB sg a b = z := ⟨_, rfl⟩
   rw [hz]
   have EQ := hid (show decide (renI sg a = renI sg b) = z by rw [← hz, variant_ab HS.out HS2.out]; unfold renI; rw [if_pos HS.out, if_pos HS2.out])
   clear hz
   go_enter Try.func14, Try.ntmps14
   go_wp2_with fail
   rw [← HW.out]
   refine wp_region_held_drew (S := (fun w' => w'.cell? ⟨w.heap.size, 0, none⟩ = some (.slice A n c))) (by kernel_rfl) cA (fun hHeld => ?_)
   refine wpAnyH_take (i := 0) (v := ?_) rfl (by kernel_rfl) (by kernel_rfl) (by kernel_rfl) (fun _ _ _ h => h) (Or.inl ⟨by rfl, ?_⟩) (by assumption) ?_
   rotate_left 1
   ·(intro w0 hSw; (try dsimp only at hSw); go_simp; try with_reducible rfl)
   try simp only [Act.put, setIfInBounds_toArray, set_cons_zero, set_cons_succ, getElem_toArray, getElem_cons_zero, getElem_cons_succ]
   refine wpAnyH_take (i := 1) (v := ?_) rfl (by kernel_rfl) (by kernel_rfl) (by kernel_rfl) (fun _ _ _ h => h) (Or.inl ⟨by rfl, ?_⟩) (by assumption) ?_
   rotate_left 1
   ·(intro w0 hSw; (try dsimp only at hSw); go_simp; try with_reducible rfl)
   try simp only [Act.put, setIfInBounds_toArray, set_cons_zero, set_cons_succ, getElem_toArray, getElem_cons_zero, getElem_cons_succ]
   refine wpAnyH_ready (rs := [2]) (by kernel_rfl) (by simp) (AllReadyH.cons rfl (fun K hK => ?_) AllReadyH.nil)
   go_simp
   refine L.out.mono ?_; rintro e w1 ⟨he, bb⟩; rw [HS.out] at he; subst he; have t0 := s.next bb; have t1 := s1.next bb; have t2 := s2.next bb; have tr := rA.next bb; have tb := next_trans bel bb; have c1 : w1.cell? ⟨w.heap.size, 0, none⟩ = some (.slice A n c) := tr.cell 0; clear s s1 s2 rA bel bb L; go_wp2_with fail
   refine hK.out _ _ ?_ (fun hHeld => ?_)
   ·first | assumption | (dsimp only; assumption)
   clear hK K
   try simp only [Act.put, setIfInBounds_toArray, set_cons_zero, set_cons_succ, getElem_toArray, getElem_cons_zero, getElem_cons_succ]
   refine wpAnyH_take (i := 3) (v := ?_) rfl (by kernel_rfl) (by kernel_rfl) (by kernel_rfl) (fun _ _ _ h => h) (Or.inl ⟨by rfl, ?_⟩) (by assumption) ?_
   rotate_left 1
   ·(intro w0 hSw; (try dsimp only at hSw); go_simp; try with_reducible rfl)
   try simp only [Act.put, setIfInBounds_toArray, set_cons_zero, set_cons_succ, getElem_toArray, getElem_cons_zero, getElem_cons_succ]
   refine wpAnyH_take (i := 4) (v := ?_) rfl (by kernel_rfl) (by kernel_rfl) (by kernel_rfl) (fun _ _ _ h => h) (Or.inl ⟨by rfl, ?_⟩) (by assumption) ?_
   rotate_left 1
   ·(intro w0 hSw; (try dsimp only at hSw); go_simp; try with_reducible rfl)
   try simp only [Act.put, setIfInBounds_toArray, set_cons_zero, set_cons_succ, getElem_toArray, getElem_cons_zero, getElem_cons_succ]
   refine wpAnyH_take (i := 5) (v := ?_) rfl (by kernel_rfl) (by kernel_rfl) (by kernel_rfl) (fun _ _ _ h => h) (Or.inl ⟨by rfl, ?_⟩) (by assumption) ?_
   rotate_left 1
   ·(intro w0 hSw; (try dsimp only at hSw); go_simp; try with_reducible rfl)
   try simp only [Act.put, setIfInBounds_toArray, set_cons_zero, set_cons_succ, getElem_toArray, getElem_cons_zero, getElem_cons_succ]
   refine wpAnyH_ready (rs := [6]) (by kernel_rfl) (by simp) (AllReadyH.cons rfl (fun K hK => ?_) AllReadyH.nil)
   go_simp
   refine (implTermOk A B' n c q cq sg b w1 t0 t2 hn hq).mono ?_; rintro e w2 ⟨he, bb2⟩; rw [HS2.out] at he; subst he; have u0 := t0.next bb2; have u1 := t1.next bb2; have u2 := t2.next bb2; have ur := tr.next bb2; have ub := next_trans tb bb2; have c2 : w2.cell? ⟨w.heap.size, 0, none⟩ = some (.slice A n c) := ur.cell 0; clear t0 t1 t2 tr tb bb2; go_wp2_with fail
   refine hK.out _ _ ?_ (fun hHeld => ?_)
   ·first | assumption | (dsimp only; assumption)
   clear hK K
   try simp only [Act.put, setIfInBounds_toArray, set_cons_zero, set_cons_succ, getElem_toArray, getElem_cons_zero, getElem_cons_succ]
   refine wpAnyH_take (i := 7) (v := ?_) rfl (by kernel_rfl) (by kernel_rfl) (by kernel_rfl) (fun _ _ _ h => h) (Or.inl ⟨by rfl, ?_⟩) (by assumption) ?_
   rotate_left 1
   ·(intro w0 hSw; (try dsimp only at hSw); go_simp; try with_reducible rfl)
   try simp only [Act.put, setIfInBounds_toArray, set_cons_zero, set_cons_succ, getElem_toArray, getElem_cons_zero, getElem_cons_succ]
   refine wpAnyH_take (i := 8) (v := ?_) rfl (by kernel_rfl) (by kernel_rfl) (by kernel_rfl) (fun _ _ _ h => h) (Or.inl ⟨by rfl, ?_⟩) (by assumption) ?_
   rotate_left 1
   ·(intro w0 hSw; (try dsimp only at hSw); go_simp; try with_reducible rfl)
   try simp only [Act.put, setIfInBounds_toArray, set_cons_zero, set_cons_succ, getElem_toArray, getElem_cons_zero, getElem_cons_succ]
   refine wpAnyH_take (i := 9) (v := ?_) rfl (by kernel_rfl) (by kernel_rfl) (by kernel_rfl) (fun _ _ _ h => h) (Or.inl ⟨by rfl, ?_⟩) (by assumption) ?_
   rotate_left 1
   ·(intro w0 hSw; (try dsimp only at hSw); go_simp; try with_reducible rfl)
   try simp only [Act.put, setIfInBounds_toArray, set_cons_zero, set_cons_succ, getElem_toArray, getElem_cons_zero, getElem_cons_succ]
   refine wpAnyH_take (i := 10) (v := ?_) rfl (by kernel_rfl) (by kernel_rfl) (by kernel_rfl) (fun _ _ _ h => h) (Or.inl ⟨by rfl, ?_⟩) (by assumption) ?_
   rotate_left 1
   ·(intro w0 hSw; (try dsimp only at hSw); go_simp; try with_reducible rfl)
   try simp only [Act.put, setIfInBounds_toArray, set_cons_zero, set_cons_succ, getElem_toArray, getElem_cons_zero, getElem_cons_succ]
   refine wpAnyH_take (i := 12) (v := ?_) rfl (by kernel_rfl) (by kernel_rfl) (by kernel_rfl) (fun _ _ _ h => h) (Or.inl ⟨by rfl, ?_⟩) (by assumption) ?_
   rotate_left 1
   ·(intro w0 hSw; (try dsimp only at hSw); go_simp; try with_reducible rfl)
   try simp only [Act.put, setIfInBounds_toArray, set_cons_zero, set_cons_succ, getElem_toArray, getElem_cons_zero, getElem_cons_succ]
   refine wpAnyH_take (i := 13) (v := ?_) rfl (by kernel_rfl) (by kernel_rfl) (by kernel_rfl) (fun _ _ _ h => h) (Or.inl ⟨by rfl, ?_⟩) (by assumption) ?_
   rotate_left 1
   ·(intro w0 hSw; (try dsimp only at hSw); go_simp; try with_reducible rfl)
   try simp only [Act.put, setIfInBounds_toArray, set_cons_zero, set_cons_succ, getElem_toArray, getElem_cons_zero, getElem_cons_succ]
   refine wpAnyH_ready (rs := [11]) (by kernel_rfl) (by simp) (AllReadyH.cons rfl (fun K hK => ?_) AllReadyH.nil)
   go_simp
   refine (implRenamed A A' n c m c' sg a w2 u0 u1 hn hm).mono ?_; rintro e w3 ⟨X, xn, xc, rfl, ox, bb3⟩; have v0 := u0.next bb3; have v2 := u2.next bb3; have vr := ur.next bb3; have vb := next_trans ub bb3; have c3 : w3.cell? ⟨w.heap.size, 0, none⟩ = some (.slice A n c) := vr.cell 0; clear u0 u1 u2 ur ub bb3; go_wp2_with fail
   refine hK.out _ _ ?_ (fun hHeld => ?_)
   ·first | assumption | (dsimp only; assumption)
   clear hK K
   try simp only [Act.put, setIfInBounds_toArray, set_cons_zero, set_cons_succ, getElem_toArray, getElem_cons_zero, getElem_cons_succ]
   refine wpAnyH_ready (rs := [14]) (by kernel_rfl) (by simp) (AllReadyH.cons rfl (fun K hK => ?_) AllReadyH.nil)
   go_simp
   refine (implRenamed A B' n c q cq sg b w3 v0 v2 hn hq).mono ?_; rintro e w4 ⟨Y, yn, yc, rfl, oy, bb4⟩; have ox4 := ox.next bb4; have zr := vr.next bb4; have zb := next_trans vb bb4; have c4 : w4.cell? ⟨w.heap.size, 0, none⟩ = some (.slice A n c) := zr.cell 0; have hxn : xn ≤ 1048576 := (by rw [Own.len ox]; exact renI_len H1.out hm); have hyn : yn ≤ 1048576 := (by rw [Own.len oy]; exact renI_len H2.out hq); clear v0 v2 vr vb bb4 ox; go_wp2_with fail
   refine hK.out _ _ ?_ (fun hHeld => ?_)
   ·first | assumption | (dsimp only; assumption)
   clear hK K
   try simp only [Act.put, setIfInBounds_toArray, set_cons_zero, set_cons_succ, getElem_toArray, getElem_cons_zero, getElem_cons_succ]
   refine wpAnyH_ready (rs := [15]) (by kernel_rfl) (by simp) (AllReadyH.cons rfl (fun K hK => ?_) AllReadyH.nil)
   go_simp
   refine (implSame X Y xn yn xc yc (renI sg a) (renI sg b) w4 (Own.seg ox4) (Own.seg oy) hxn hyn).mono ?_; rintro e w5 ⟨he, d, rfl⟩; rw [EQ.out] at he; subst he; have c5 : (w4.drewN d).cell? ⟨w.heap.size, 0, none⟩ = some (.slice A n c) := (zr.drewN d).cell 0; go_wp2_with fail
   refine hK.out _ _ ?_ (fun hHeld => ?_)
   ·first | assumption | (dsimp only; assumption)
   clear hK K
   try simp only [Act.put, setIfInBounds_toArray, set_cons_zero, set_cons_succ, getElem_toArray, getElem_cons_zero, getElem_cons_succ]
   refine wpAnyH_take (i := 16) (v := ?_) rfl (by kernel_rfl) (by kernel_rfl) (by kernel_rfl) (fun _ _ _ h => h) (Or.inl ⟨by rfl, ?_⟩) (by assumption) ?_
   rotate_left 1
   ·(intro w0 hSw; (try dsimp only at hSw); go_simp; try with_reducible rfl)
   try simp only [Act.put, setIfInBounds_toArray, set_cons_zero, set_cons_succ, getElem_toArray, getElem_cons_zero, getElem_cons_succ]
   refine wpAnyH_take (i := 17) (v := ?_) rfl (by kernel_rfl) (by kernel_rfl) (by kernel_rfl) (fun _ _ _ h => h) (Or.inl ⟨by rfl, ?_⟩) (by assumption) ?_
   rotate_left 1
   ·(intro w0 hSw; (try dsimp only at hSw); go_simp; try with_reducible rfl)
   try simp only [Act.put, setIfInBounds_toArray, set_cons_zero, set_cons_succ, getElem_toArray, getElem_cons_zero, getElem_cons_succ]
   refine wpAnyH_done (by kernel_rfl) ?_ _
   have F := hid (ansB (b := z) (a := z) rfl (below_drewN zb d))
   clear ox4 oy zb zr c4 c5
   go_wp2
   go_ret
   exact F.out
end variant
end
section
namespace bigs
open Go.RowKit base ints
theorem bigAns (A : Option Addr) (n c : Nat) (b : Bool) (w : World) (hb : decide (4096 < n) = b) (hn : n ≤ 9223372036854775807) : Calls Try.prog 11 #[.slice A n c] w fun e w' => w = w' ∧ e = .returned (.bool b) := by
 cases b with
 | true =>
  have h : (4096 : Int) < (n : Int) := by have := of_decide_eq_true hb; omega
  clear hb
  go_enter Try.func11, Try.ntmps11
  go_wp2
  go_ret
  exact ⟨rfl, rfl⟩
 | false =>
  have h : ¬ (4096 : Int) < (n : Int) := by have := of_decide_eq_false hb; omega
  have h2 : decide (4096 < n) = false := hb
  clear hb
  go_enter Try.func11, Try.ntmps11
  go_wp2
  go_ret
  exact ⟨rfl, rfl⟩
end bigs
end
section
open Go.Lib (hid)
namespace wFnRenamed
open Go.RowKit base ints sig same term cursor termOk marks app sym dice drawVar varsMath varsOf renMath rename renImpl renFacts linear variant bigs
structure R3 (w : World) (v : Nat) (S : Option Addr) (sn sc : Nat) (sg : List Int) (O : Option Addr) (on : Nat) (xs : List Int) (Q : Option Addr) (qn : Nat) (ys : List Int) (wr : World) : Prop where
 s : Seg wr wr.heap.size S sn sg
 o : Seg wr wr.heap.size O on xs
 q : Seg wr wr.heap.size Q qn ys
 r : Row wr v 26 #[.slice S sn sc]
 bel : Below w.heap.size w wr
section
variable {w : World} {v : Nat} {S : Option Addr} {sn sc : Nat} {sg : List Int} {O : Option Addr} {on : Nat} {xs : List Int} {Q : Option Addr} {qn : Nat} {ys : List Int} {wr w' : World}
theorem R3.next (t : R3 w v S sn sc sg O on xs Q qn ys wr) (hb : Below wr.heap.size wr w') : R3 w v S sn sc sg O on xs Q qn ys w' := ⟨t.s.next hb, t.o.next hb, t.q.next hb, t.r.next hb, next_trans t.bel hb⟩
theorem drewN_below (w : World) (d : Nat) : Below w.heap.size w (w.drewN d) := ⟨rfl, rfl, rfl, Nat.le_refl _, fun _ _ => rfl⟩
theorem drew_below (w : World) : Below w.heap.size w w.drew := ⟨rfl, rfl, rfl, Nat.le_refl _, fun _ _ => rfl⟩
end
def HeadV (vn : Nat) (i : Value) : Prop := ∃ k : Nat, k ≤ vn ∧ i = .int .i64 k
set_option maxRecDepth 100000 in
set_option maxHeartbeats 8000000 in
theorem law (A : Option Addr) (n c : Nat) (_ : List Int) (w : World) (h : SegB w w.heap.size A n) (hN : n ≤ 9223372036854775807) :
  Calls Try.prog 3 #[.slice A n c] w (Fine w) := by
 by_cases hbig : n ≤ 4096
 ·have LB := hid (bigAns A n c false w (by simp; omega) hN)
  go_enter Try.func3, Try.ntmps3
  go_wp2_with fail
  refine LB.out.mono ?_
  rintro e w' ⟨rfl, rfl⟩
  clear LB
  go_wp2_with fail
  refine (drawVariantIn A n c w h hbig).mono ?_
  rintro e w2 ⟨S, sn, sc, sg, O, on, oc, xs, Q, qn, qc, ys, rfl, ss, so, sq, hsn, hon, hqn, b2⟩
  clear h
  obtain ⟨v, hv⟩ : ∃ v, w2.heap.size = v := ⟨_, rfl⟩
  obtain ⟨W, hW⟩ : ∃ W, W = w2.alloc (.cells #[.slice S sn sc] 26) := ⟨_, rfl⟩
  have T : R3 w v S sn sc sg O on xs Q qn ys W := by
   have bb : Below w2.heap.size w2 W := by rw [hW]; exact (Below.refl _ _).alloc (Nat.le_refl _) _
   exact ⟨ss.next bb, so.next bb, sq.next bb, by rw [hW, ← hv]; exact Row.new _ _ _, next_trans b2 bb⟩
  have HW := hid hW
  have HV := hid hv
  have HX := hid so.1
  have HY := hid sq.1
  clear ss so sq b2 hW hv
  have cV : W.cell? ⟨v, 0, none⟩ = some (.slice S sn sc) := T.r.cell 0
  obtain ⟨zs, hzs⟩ : ∃ zs, renI sg xs = zs := ⟨_, rfl⟩
  obtain ⟨us, hus⟩ : ∃ us, renI sg ys = us := ⟨_, rfl⟩
  obtain ⟨b, hb⟩ : ∃ b, variantB sg xs ys = b := ⟨_, rfl⟩
  have HZ := hid hzs
  have HU := hid hus
  have HB := hid hb
  have hzl : zs.length ≤ 65 := by rw [← hzs]; unfold renI; split; (rw [ren_len, HX.out]; exact hon); simp
  have hul : us.length ≤ 65 := by rw [← hus]; unfold renI; split; (rw [ren_len, HY.out]; exact hqn); simp
  have HBB := hid (show (b != b) = false by simp)
  clear hzs hus hb
  go_wp2_with fail
  rw [← HW.out, HV.out]
  refine (implRenamed S O sn sc on oc sg xs _ T.s T.o (by omega) (by omega)).mono ?_
  rintro e w3 ⟨X, xn, xc, rfl, ox, bb⟩
  rw [HZ.out] at ox
  have sx := Own.seg ox
  have hxn : xn ≤ 65 := by rw [Own.len ox]; exact hzl
  replace T := T.next bb
  clear bb ox
  replace cV : w3.cell? ⟨v, 0, none⟩ = some (.slice S sn sc) := T.r.cell 0
  go_wp2_with fail
  refine (implRenamed S Q sn sc qn qc sg ys _ T.s T.q (by omega) (by omega)).mono ?_
  rintro e w4 ⟨Y, yn, yc, rfl, oy, bb⟩
  rw [HU.out] at oy
  have sy := Own.seg oy
  have hyn : yn ≤ 65 := by rw [Own.len oy]; exact hul
  replace T := T.next bb
  replace sx := sx.next bb
  clear bb oy
  replace cV : w4.cell? ⟨v, 0, none⟩ = some (.slice S sn sc) := T.r.cell 0
  go_wp2_with fail
  refine (implVariantIn S O Q sn sc on oc qn qc sg xs ys _ T.s T.o T.q (by omega) (by omega) (by omega)).mono ?_
  rintro e w5 ⟨he, bb⟩
  rw [HB.out] at he
  subst he
  replace T := T.next bb
  replace sx := sx.next bb
  replace sy := sy.next bb
  clear bb
  replace cV : w5.cell? ⟨v, 0, none⟩ = some (.slice S sn sc) := T.r.cell 0
  go_wp2_with fail
  refine (specVariantIn S O Q sn sc on oc qn qc sg xs ys _ T.s T.o T.q (by omega) (by omega) (by omega)).mono ?_
  rintro e w6 ⟨he, bb⟩
  rw [HB.out] at he
  subst he
  replace T := T.next bb
  replace sx := sx.next bb
  replace sy := sy.next bb
  clear bb
  replace cV : w6.cell? ⟨v, 0, none⟩ = some (.slice S sn sc) := T.r.cell 0
  have ebb := HBB.out
  go_wp2_with fail
  refine (specRenamed S O sn sc on oc sg xs _ T.s T.o (by omega) (by omega)).mono ?_
  rintro e w7 ⟨P, pn, pc, rfl, sp, bb⟩
  rw [HZ.out] at sp
  have hpn : pn ≤ 65 := by rw [← sp.1]; exact hzl
  replace T := T.next bb
  replace sx := sx.next bb
  replace sy := sy.next bb
  clear bb
  replace cV : w7.cell? ⟨v, 0, none⟩ = some (.slice S sn sc) := T.r.cell 0
  go_wp2_with fail
  refine (implSame X P xn pn xc pc zs zs _ sx sp (by omega) (by omega)).mono ?_
  rintro e w8 ⟨he, d1, rfl⟩
  rw [decide_eq_true rfl] at he
  subst he
  have bb := drewN_below w7 d1
  replace T := T.next bb
  replace sx := sx.next bb
  replace sy := sy.next bb
  clear bb sp cV ebb
  generalize w7.drewN d1 = w8 at *
  have cV : w8.cell? ⟨v, 0, none⟩ = some (.slice S sn sc) := T.r.cell 0
  cases hok : termOkB sg xs with
  | false =>
   have HOK := hid hok
   have hb0 : b = false := by rw [← HB.out]; exact variant_a hok
   subst hb0
   clear hok
   go_wp2_with fail
   refine (specTermOk S O sn sc on oc sg xs _ T.s T.o (by omega) (by omega)).mono ?_
   rintro e w9 ⟨he, bb⟩
   rw [HOK.out] at he
   subst he
   have TB := hid (T.next bb).bel
   clear bb cV T sx sy
   go_wp2
   go_ret
   exact ⟨rfl, TB.out⟩
  | true =>
   have HOK := hid hok
   go_wp2_with fail
   refine (specTermOk S O sn sc on oc sg xs _ T.s T.o (by omega) (by omega)).mono ?_
   rintro e w9 ⟨he, bb⟩
   rw [HOK.out] at he
   subst he
   replace T := T.next bb
   replace sx := sx.next bb
   replace sy := sy.next bb
   clear bb
   replace cV : w9.cell? ⟨v, 0, none⟩ = some (.slice S sn sc) := T.r.cell 0
   cases hok2 : termOkB sg ys with
   | false =>
    have HOK2 := hid hok2
    have hb0 : b = false := by rw [← HB.out]; exact variant_b hok2
    subst hb0
    clear hok2 hok
    go_wp2_with fail
    refine (specTermOk S Q sn sc qn qc sg ys _ T.s T.q (by omega) (by omega)).mono ?_
    rintro e w10 ⟨he, bb⟩
    rw [HOK2.out] at he
    subst he
    have TB := hid (T.next bb).bel
    clear bb cV T sx sy
    go_wp2
    go_ret
    exact ⟨rfl, TB.out⟩
   | true =>
    have HOK2 := hid hok2
    have hz : zs = renL xs := by rw [← HZ.out]; unfold renI; rw [if_pos hok]
    have hu : us = renL ys := by rw [← HU.out]; unfold renI; rw [if_pos hok2]
    have F := ren_facts hok
    rw [← hz] at F
    have HZV := hid (show varsI sg zs = vars zs by unfold varsI; rw [if_pos F.1])
    have HVA := hid (show variantB sg zs xs = true by rw [variant_ab F.1 hok, F.2.1, hz]; simp)
    have HB2 := hid (show b = decide (zs = us) by rw [← HB.out, variant_ab hok hok2, hz, hu])
    have HL1 := hid (show linearB sg zs = linB xs by unfold linearB; rw [F.1, F.2.2.1]; simp)
    have HL2 := hid (show linearB sg xs = linB xs by unfold linearB; rw [hok]; simp)
    have HG := hid (show groundB sg zs = decide ((vars zs).length = 0) by unfold groundB; rw [F.1]; simp)
    have HF := hid F.2.2.2
    clear F hz hu hok hok2
    go_wp2_with fail
    refine (specTermOk S Q sn sc qn qc sg ys _ T.s T.q (by omega) (by omega)).mono ?_
    rintro e w10 ⟨he, bb⟩
    rw [HOK2.out] at he
    subst he
    replace T := T.next bb
    replace sx := sx.next bb
    replace sy := sy.next bb
    clear bb
    replace cV : w10.cell? ⟨v, 0, none⟩ = some (.slice S sn sc) := T.r.cell 0
    go_wp2_with fail
    refine (implVarsOf S X sn sc xn xc sg zs _ T.s sx (by omega) (by omega)).mono ?_
    rintro e w11 ⟨V, vn, vc, rfl, ov, bb⟩
    rw [HZV.out] at ov
    have sv := Own.seg ov
    have hvl := Own.len ov
    have HVN := hid hvl
    replace T := T.next bb
    replace sx := sx.next bb
    replace sy := sy.next bb
    have hv65 : vn ≤ 65 := by have := vars_len zs; have := sx.1; omega
    clear bb ov hvl
    replace cV : w11.cell? ⟨v, 0, none⟩ = some (.slice S sn sc) := T.r.cell 0
    go_wp2_with fail
    go_loop [10] (fun i => HeadV vn i) (fun i => vn - (intOf i).toNat)
    case atStart => exact ⟨0, Nat.zero_le _, rfl⟩
    case round =>
     obtain ⟨k, hk, rfl⟩ := hrel
     by_cases hlt : k < vn
     ·obtain ⟨bv, off, y, rfl, -, hy, ey⟩ := sv.spot hlt
      have hyk : y = (k : Int) := by rw [← ey.out]; exact HF.out k (by rw [← HVN.out]; exact hlt)
      subst hyk
      have e1 : ((k : Int) != (k : Int)) = false := by simp
      have S1 := hid (show HeadV vn (.int .i64 ((k : Int) + 1)) from ⟨k + 1, hlt, by simp⟩)
      clear ey sv sx sy T
      go_wp2
      go_round
      case rel => exact S1.out
      case measure => simp [intOf]; omega
     ·have hkv : k = vn := by omega
      obtain ⟨lv, hlv⟩ : ∃ lv, linB xs = lv := ⟨_, rfl⟩
      have HLV := hid hlv
      obtain ⟨g, hg⟩ : ∃ g, decide ((vn : Int) = 0) = g := ⟨_, rfl⟩
      have HG2 := hid (show groundB sg zs = g by rw [HG.out, ← hg, ← HVN.out]; simp)
      have hg0 : ((vn : Int) == 0) = g := by rw [← hg]; exact rfl
      have egg : (g == g) = true := by simp
      have ell : (lv == lv) = true := by simp
      have ebb : (b == b) = true := by simp
      have T1 := T.next (drew_below w11)
      have sx1 := sx.next (drew_below w11)
      have sy1 := sy.next (drew_below w11)
      clear hlv hg sv T sx sy hkv
      go_wp2_with fail
      go_region_held3 (fun w' => w'.cell? ⟨v, 0, none⟩ = some (.slice S sn sc))
       (go_keep)
       (first
        | (go_at_call 14; refine (implVariantIn S X O sn sc xn xc on oc sg zs xs _ T1.s sx1 T1.o (by omega) (by omega) (by omega)).mono ?_; rintro e w12 ⟨he, bb⟩; rw [HVA.out] at he; subst he; replace T1 := T1.next bb; replace sx1 := sx1.next bb; replace sy1 := sy1.next bb; clear bb; replace cV : w12.cell? ⟨v, 0, none⟩ = some (.slice S sn sc) := T1.r.cell 0)
        | (go_at_call 16; refine (implSame X Y xn yn xc yc zs us _ sx1 sy1 (by omega) (by omega)).mono ?_; rintro e w13 ⟨he, d1, hw⟩; rw [← HB2.out] at he; subst he; have bb := hw ▸ drewN_below _ d1; replace T1 := T1.next bb; replace sx1 := sx1.next bb; clear bb hw sy1; replace cV : w13.cell? ⟨v, 0, none⟩ = some (.slice S sn sc) := T1.r.cell 0)
        | (go_at_call 20; refine (implLinearIn S X sn sc xn xc sg zs _ T1.s sx1 (by omega) (by omega)).mono ?_; rintro e w14 ⟨he, bb⟩; rw [HL1.out, HLV.out] at he; subst he; replace T1 := T1.next bb; replace sx1 := sx1.next bb; clear bb; replace cV : w14.cell? ⟨v, 0, none⟩ = some (.slice S sn sc) := T1.r.cell 0)
        | (go_at_call 21; refine (specLinearIn S O sn sc on oc sg xs _ T1.s T1.o (by omega) (by omega)).mono ?_; rintro e w15 ⟨he, bb⟩; rw [HL2.out, HLV.out] at he; subst he; replace T1 := T1.next bb; replace sx1 := sx1.next bb; clear bb; replace cV : w15.cell? ⟨v, 0, none⟩ = some (.slice S sn sc) := T1.r.cell 0)
        | (go_at_call 22; refine (implGroundIn S X sn sc xn xc sg zs _ T1.s sx1 (by omega) (by omega)).mono ?_; rintro e w16 ⟨he, bb⟩; rw [HG2.out] at he; subst he; replace T1 := T1.next bb; replace sx1 := sx1.next bb; clear bb; replace cV : w16.cell? ⟨v, 0, none⟩ = some (.slice S sn sc) := T1.r.cell 0))
      have TB := hid T1.bel
      clear T1 sx1 cV
      go_wp2
      go_ret
      exact ⟨rfl, TB.out⟩
 ·have LB := hid (bigAns A n c true w (by simp; omega) hN)
  clear h
  go_enter Try.func3, Try.ntmps3
  go_wp2_with fail
  refine LB.out.mono ?_
  rintro e w' ⟨rfl, rfl⟩
  clear LB
  go_wp2
  go_ret
  exact ⟨rfl, Below.refl _ _⟩
end wFnRenamed
end
end Go.Proofs.Ytfclafbdbdmlhaa
