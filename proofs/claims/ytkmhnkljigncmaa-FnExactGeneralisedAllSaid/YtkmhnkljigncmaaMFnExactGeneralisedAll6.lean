/-
  MERGED: my texts SameSubst, PlainFacts, RenPure, UnifLaw, General, GenImpl, TabR, MatchSpec, Whole, TakeMath, Take, one behind the other, as they are. By an AI agent.
-/
import Derived.Test.YtkmhnkljigncmaaMFnExactGeneralisedAll5
import Derived.Deep.RegionHeld3
import Derived.Deep.LoopGhost
import Derived.Maps.AppendAt
import Derived.Laws.Rows
import Derived.Laws.ResultCell
section
/-
  CONTRACTS: spec.SameSubst, impl.SameSubst. Conditions: the slices read as lists ('Seg', 'Segs'), at most 1048576 values. (The regions' walks by wip/tools/reg.py.) By an AI agent.
-/
namespace Go.Proofs.Ytkmhnkljigncmaa.sameSubst
open Go.RowKit Go.Proofs.Ytkmhnkljigncmaa.base Go.Proofs.Ytkmhnkljigncmaa.ints Go.Proofs.Ytkmhnkljigncmaa.sig Go.Proofs.Ytkmhnkljigncmaa.same Go.Proofs.Ytkmhnkljigncmaa.marks Go.Proofs.Ytkmhnkljigncmaa.sym Go.Proofs.Ytkmhnkljigncmaa.segs Go.Proofs.Ytkmhnkljigncmaa.segsHelp Go.Proofs.Ytkmhnkljigncmaa.kinds Go.Proofs.Ytkmhnkljigncmaa.varsOf Go.Proofs.Ytkmhnkljigncmaa.fillMath Go.Proofs.Ytkmhnkljigncmaa.look Go.Proofs.Ytkmhnkljigncmaa.substOk Go.Proofs.Ytkmhnkljigncmaa.gives
set_option maxRecDepth 100000

/-- what SameSubst answers -/
def sameG (a b : List (List Int)) : Bool := (List.range 24).all fun i => decide (givesL a i = givesL b i)
def sameB (sg : List Int) (a b : List (List Int)) : Bool := substOkB sg a && (substOkB sg b && sameG a b)
theorem sameG_yes {a b : List (List Int)} (h : ∀ i, i < 24 → givesL a i = givesL b i) : sameG a b = true := by
  unfold sameG
  rw [List.all_eq_true]
  intro i hi
  exact decide_eq_true (h i (List.mem_range.1 hi))
theorem sameG_no {a b : List (List Int)} {i : Nat} (hi : i < 24) (h : givesL a i ≠ givesL b i) : sameG a b = false := by
  cases e : sameG a b with
  | false => rfl
  | true =>
    unfold sameG at e
    rw [List.all_eq_true] at e
    exact absurd (of_decide_eq_true (e i (List.mem_range.2 hi))) h
theorem sameG_iff {a b : List (List Int)} : sameG a b = true ↔ ∀ i, i < 24 → givesL a i = givesL b i := by
  refine ⟨fun e i hi => ?_, sameG_yes⟩
  unfold sameG at e
  rw [List.all_eq_true] at e
  exact of_decide_eq_true (e i (List.mem_range.2 hi))
theorem same_a {sg : List Int} {a b : List (List Int)} (h : substOkB sg a = false) : sameB sg a b = false := by unfold sameB; rw [h, Bool.false_and]
theorem same_b {sg : List Int} {a b : List (List Int)} (h : substOkB sg b = false) : sameB sg a b = false := by unfold sameB; rw [h, Bool.false_and, Bool.and_false]
theorem same_ab {sg : List Int} {a b : List (List Int)} (h : substOkB sg a = true) (h' : substOkB sg b = true) : sameB sg a b = sameG a b := by unfold sameB; rw [h, h', Bool.true_and, Bool.true_and]
/-- three boxes -/
theorem boxesSS (w : World) (A : Option Addr) (n c : Nat) (S : Option Addr) (m c' : Nat) (T : Option Addr) (q cq : Nat) : ∃ W, W = ((w.alloc (.cells #[.slice A n c] 26)).alloc (.cells #[.slice S m c'] 31)).alloc (.cells #[.slice T q cq] 31) ∧
    Row W w.heap.size 26 #[.slice A n c] ∧ Row W (w.heap.size + 1) 31 #[.slice S m c'] ∧ Row W (w.heap.size + 2) 31 #[.slice T q cq] ∧ Below w.heap.size w W := by
  obtain ⟨W, hW, r1, r2, b⟩ := boxes2 w A n c S m c'
  have hz : W.heap.size = w.heap.size + 2 := by rw [hW]; simp
  refine ⟨_, rfl, ?_, ?_, ?_, ?_⟩
  · rw [← hW]; exact r1.alloc _
  · rw [← hW]; exact r2.alloc _
  · rw [← hW, ← hz]; exact Row.new _ _ _
  · rw [← hW]; exact b.alloc b.size _

theorem gives_each {ss : List (List Int)} (h : ∀ j, (ss.getD j []).length ≤ 1048576) (i : Nat) : (givesL ss i).length ≤ 1048576 := by
  unfold givesL
  split
  · simp [vt]
  · exact h i
theorem lookupB (S : Option Addr) (m c : Nat) (w : World) :
    Calls Try.prog 72 #[.agg #[.slice S m c]] w fun e w' => e = .returned (.func (.func 112) #[] #[.pointer (some ⟨w.heap.size, 0, none⟩)]) ∧ Row w' w.heap.size 31 #[.slice S m c] ∧ Below w.heap.size w w' :=
  (lookupIn S m c w).mono fun _ _ ⟨he, hw⟩ => ⟨he, by rw [hw]; exact Row.new _ _ _, by rw [hw]; exact (Below.refl _ _).alloc (Nat.le_refl _) _⟩

/-- the head of both loops: the boxes of the two substitutions lie at b1 and b2 -/
def HeadSS (w : World) (b1 b2 : Nat) (S : Option Addr) (m c : Nat) (T : Option Addr) (q cq : Nat) (xa xb : List (List Int)) (i : Value) (wr : World) : Prop :=
  ∃ k : Nat, k ≤ 24 ∧ i = .int .i64 k ∧ (∀ j, j < k → givesL xa j = givesL xb j) ∧ Row wr b1 31 #[.slice S m c] ∧ Row wr b2 31 #[.slice T q cq] ∧ Below w.heap.size w wr
theorem headSS_step {w wr w2 : World} {b1 b2 m c q cq k : Nat} {S T : Option Addr} {xa xb : List (List Int)} (hk : k < 24) (h : ∀ j, j < k → givesL xa j = givesL xb j) (he : givesL xa k = givesL xb k)
    (r1 : Row wr b1 31 #[.slice S m c]) (r2 : Row wr b2 31 #[.slice T q cq]) (hb : Below w.heap.size w wr) (bb : Below wr.heap.size wr w2) : HeadSS w b1 b2 S m c T q cq xa xb (.int .i64 ((k : Int) + 1)) w2 :=
  ⟨k + 1, hk, by simp, fun j hj => by
    by_cases e : j = k
    · rw [e]; exact he
    · exact h j (by omega), r1.next bb, r2.next bb, next_trans hb bb⟩

set_option maxHeartbeats 8000000 in
theorem specSameSubst (A S T : Option Addr) (n c m c' q cq : Nat) (sg : List Int) (xa xb : List (List Int)) (w : World) (h : Seg w w.heap.size A n sg) (h' : Segs w w.heap.size S m xa) (h2 : Segs w w.heap.size T q xb) (hn : n ≤ 1048576) (ht : tot xa ≤ 1048576) (ht2 : tot xb ≤ 1048576) :
    Calls Try.prog 16 #[.agg #[.slice A n c], .agg #[.slice S m c'], .agg #[.slice T q cq]] w (AnsB w (sameB sg xa xb)) := by
  obtain ⟨W, hW, rA, rS, rT, bel⟩ := boxesSS w A n c S m c' T q cq
  have HW := Lib.hid hW
  have hm : m ≤ 1048576 := tot_len h'.1 ht
  have hq : q ≤ 1048576 := tot_len h2.1 ht2
  have HE1 := Lib.hid (tot_each ht)
  have HE2 := Lib.hid (tot_each ht2)
  have HT1 := Lib.hid ht
  have HT2 := Lib.hid ht2
  have s := h.next bel
  have s1 := h'.next bel
  have s2 := h2.next bel
  have L := Lib.hid (specSubstOk A S n c m c' sg xa W s s1 hn ht)
  clear hW ht ht2
  cases hok : substOkB sg xa with
  | false =>
    have HS := Lib.hid hok
    clear hok s s1 s2 h h' h2
    go_enter Try.func16, Try.ntmps16
    go_wp2_with fail
    rw [← HW.out]
    refine L.out.mono ?_
    rintro e w1 ⟨he, bb⟩
    rw [HS.out] at he
    subst he
    have F := Lib.hid (ansB (b := sameB sg xa xb) (a := false) (by rw [same_a HS.out]) (next_trans bel bb))
    clear bb bel rA rS rT
    go_wp2
    go_ret
    exact F.out
  | true =>
    have HS := Lib.hid hok
    clear hok
    go_enter Try.func16, Try.ntmps16
    go_wp2_with fail
    rw [← HW.out]
    refine L.out.mono ?_
    rintro e w1 ⟨he, bb⟩
    rw [HS.out] at he
    subst he
    replace s := s.next bb
    replace s1 := s1.next bb
    replace s2 := s2.next bb
    replace rA := rA.next bb
    replace rS := rS.next bb
    replace rT := rT.next bb
    replace bel := next_trans bel bb
    have cA : w1.cell? ⟨w.heap.size, 0, none⟩ = some (.slice A n c) := rA.cell 0
    have cT : w1.cell? ⟨w.heap.size + 2, 0, none⟩ = some (.slice T q cq) := rT.cell 0
    have L2 := Lib.hid (specSubstOk A T n c q cq sg xb w1 s s2 hn HT2.out)
    clear bb L
    cases hok2 : substOkB sg xb with
    | false =>
      have HS2 := Lib.hid hok2
      clear hok2 s s1 s2 h h' h2
      go_wp2_with fail
      refine L2.out.mono ?_
      rintro e w2 ⟨he, bb⟩
      rw [HS2.out] at he
      subst he
      have F := Lib.hid (ansB (b := sameB sg xa xb) (a := false) (by rw [same_b HS2.out]) (next_trans bel bb))
      clear bb bel rA rS rT cA cT L2
      go_wp2
      go_ret
      exact F.out
    | true =>
      have HS2 := Lib.hid hok2
      clear hok2
      go_wp2_with fail
      refine L2.out.mono ?_
      rintro e w2 ⟨he, bb⟩
      rw [HS2.out] at he
      subst he
      replace s1 := s1.next bb
      replace s2 := s2.next bb
      replace rS := rS.next bb
      replace rT := rT.next bb
      replace bel := next_trans bel bb
      clear bb L2 cA cT rA s
      have H0 : HeadSS w (w.heap.size + 1) (w.heap.size + 2) S m c' T q cq xa xb (.int .i64 0) w2 := ⟨0, Nat.zero_le _, rfl, fun j hj => absurd hj (Nat.not_lt_zero _), rS, rT, bel⟩
      have HH := Lib.hid H0
      clear H0 s1 s2 rS rT bel
      go_wp2_with fail
      go_loopw [7] (fun i wr => HeadSS w (w.heap.size + 1) (w.heap.size + 2) S m c' T q cq xa xb i wr) (fun i _ => 24 - (intOf i).toNat)
      case atStart => exact HH.out
      case round =>
        obtain ⟨k, hk, rfl, hlow, r1, r2, hb⟩ := hrel
        clear HH
        have HLOW := Lib.hid hlow
        clear hlow
        by_cases hlt : k < 24
        · have i0 : (0 : Int) ≤ (k : Int) := by omega
          have cS : wr.cell? ⟨w.heap.size + 1, 0, none⟩ = some (.slice S m c') := r1.cell 0
          have cT : wr.cell? ⟨w.heap.size + 2, 0, none⟩ = some (.slice T q cq) := r2.cell 0
          have LG := Lib.hid (l2Gives S m c' xa k wr.drew (((h'.below hb).more hb.size).drew) HT1.out (by omega))
          have t2 := (((h2.below hb).more hb.size).drew)
          have rd1 := r1.drew
          have rd2 := r2.drew
          have hya : (givesL xa k).length ≤ 1048576 := gives_each HE1.out k
          have hyb : (givesL xb k).length ≤ 1048576 := gives_each HE2.out k
          obtain ⟨ya, hya2⟩ : ∃ ya, givesL xa k = ya := ⟨_, rfl⟩
          rw [hya2] at LG hya
          have HYA := Lib.hid hya2
          clear hya2 h h' h2
          obtain ⟨z, hz⟩ : ∃ z, decide (ya = givesL xb k) = z := ⟨_, rfl⟩
          have HZ := Lib.hid hz
          clear hz
          go_wp2_with fail
          refine wp_region_held_drew (S := (fun w' => w'.cell? ⟨w.heap.size + 1, 0, none⟩ = some (.slice S m c') ∧ w'.cell? ⟨w.heap.size + 2, 0, none⟩ = some (.slice T q cq))) (by kernel_rfl) ⟨cS, cT⟩ (fun hHeld => ?_)
          refine wpAnyH_take (i := 0) (v := ?_) rfl (by kernel_rfl) (by kernel_rfl) (by kernel_rfl) (fun _ _ _ h => h) (Or.inl ⟨by rfl, ?_⟩) (by assumption) ?_
          rotate_left 1
          · (intro w0 hSw; (try dsimp only at hSw); go_simp; try with_reducible rfl)
          try simp only [Act.put, List.setIfInBounds_toArray, List.set_cons_zero, List.set_cons_succ, List.getElem_toArray, List.getElem_cons_zero, List.getElem_cons_succ]
          refine wpAnyH_take (i := 1) (v := ?_) rfl (by kernel_rfl) (by kernel_rfl) (by kernel_rfl) (fun _ _ _ h => h) (Or.inl ⟨by rfl, ?_⟩) (by assumption) ?_
          rotate_left 1
          · (intro w0 hSw; (try dsimp only at hSw); go_simp; try with_reducible rfl)
          try simp only [Act.put, List.setIfInBounds_toArray, List.set_cons_zero, List.set_cons_succ, List.getElem_toArray, List.getElem_cons_zero, List.getElem_cons_succ]
          refine wpAnyH_take (i := 3) (v := ?_) rfl (by kernel_rfl) (by kernel_rfl) (by kernel_rfl) (fun _ _ _ h => h) (Or.inl ⟨by rfl, ?_⟩) (by assumption) ?_
          rotate_left 1
          · (intro w0 hSw; (try dsimp only at hSw); go_simp; try with_reducible rfl)
          try simp only [Act.put, List.setIfInBounds_toArray, List.set_cons_zero, List.set_cons_succ, List.getElem_toArray, List.getElem_cons_zero, List.getElem_cons_succ]
          refine wpAnyH_take (i := 4) (v := ?_) rfl (by kernel_rfl) (by kernel_rfl) (by kernel_rfl) (fun _ _ _ h => h) (Or.inl ⟨by rfl, ?_⟩) (by assumption) ?_
          rotate_left 1
          · (intro w0 hSw; (try dsimp only at hSw); go_simp; try with_reducible rfl)
          try simp only [Act.put, List.setIfInBounds_toArray, List.set_cons_zero, List.set_cons_succ, List.getElem_toArray, List.getElem_cons_zero, List.getElem_cons_succ]
          refine wpAnyH_ready (rs := [2]) (by kernel_rfl) (by simp) (AllReadyH.cons rfl (fun K hK => ?_) AllReadyH.nil)
          go_simp
          refine LG.out.mono ?_; rintro e w3 ⟨X, xn, xc, rfl, oa, b1⟩; have u1 := rd1.next b1; have u2 := rd2.next b1; have x1 : w3.cell? ⟨w.heap.size + 1, 0, none⟩ = some (.slice S m c') := u1.cell 0; have x2 : w3.cell? ⟨w.heap.size + 2, 0, none⟩ = some (.slice T q cq) := u2.cell 0; go_wp2_with fail
          refine hK.out _ _ ?_ (fun hHeld => ?_)
          · first | assumption | (dsimp only; assumption) | exact ⟨by assumption, by assumption⟩
          clear hK K
          try simp only [Act.put, List.setIfInBounds_toArray, List.set_cons_zero, List.set_cons_succ, List.getElem_toArray, List.getElem_cons_zero, List.getElem_cons_succ]
          refine wpAnyH_ready (rs := [5]) (by kernel_rfl) (by simp) (AllReadyH.cons rfl (fun K hK => ?_) AllReadyH.nil)
          go_simp
          refine (l2Gives T q cq xb k w3 (t2.next b1) HT2.out (by omega)).mono ?_; rintro e w4 ⟨Y, yn, yc, rfl, ob, b2⟩; have oa2 := oa.next b2; have v1 := u1.next b2; have v2 := u2.next b2; have x1 : w4.cell? ⟨w.heap.size + 1, 0, none⟩ = some (.slice S m c') := v1.cell 0; have x2 : w4.cell? ⟨w.heap.size + 2, 0, none⟩ = some (.slice T q cq) := v2.cell 0; go_wp2_with fail
          refine hK.out _ _ ?_ (fun hHeld => ?_)
          · first | assumption | (dsimp only; assumption) | exact ⟨by assumption, by assumption⟩
          clear hK K
          try simp only [Act.put, List.setIfInBounds_toArray, List.set_cons_zero, List.set_cons_succ, List.getElem_toArray, List.getElem_cons_zero, List.getElem_cons_succ]
          refine wpAnyH_ready (rs := [6]) (by kernel_rfl) (by simp) (AllReadyH.cons rfl (fun K hK => ?_) AllReadyH.nil)
          go_simp
          refine (specSame X Y xn yn xc yc ya (givesL xb k) w4 (Own.seg oa2) (Own.seg ob) (by rw [Own.len oa]; exact hya) (by rw [Own.len ob]; exact hyb)).mono ?_; rintro e w5 ⟨he, d, rfl⟩; rw [HZ.out] at he; subst he; have x1 : (w4.drewN d).cell? ⟨w.heap.size + 1, 0, none⟩ = some (.slice S m c') := (v1.drewN d).cell 0; have x2 : (w4.drewN d).cell? ⟨w.heap.size + 2, 0, none⟩ = some (.slice T q cq) := (v2.drewN d).cell 0; go_wp2_with fail
          refine hK.out _ _ ?_ (fun hHeld => ?_)
          · first | assumption | (dsimp only; assumption) | exact ⟨by assumption, by assumption⟩
          clear hK K
          try simp only [Act.put, List.setIfInBounds_toArray, List.set_cons_zero, List.set_cons_succ, List.getElem_toArray, List.getElem_cons_zero, List.getElem_cons_succ]
          refine wpAnyH_take (i := 7) (v := ?_) rfl (by kernel_rfl) (by kernel_rfl) (by kernel_rfl) (fun _ _ _ h => h) (Or.inl ⟨by rfl, ?_⟩) (by assumption) ?_
          rotate_left 1
          · (intro w0 hSw; (try dsimp only at hSw); go_simp; try with_reducible rfl)
          try simp only [Act.put, List.setIfInBounds_toArray, List.set_cons_zero, List.set_cons_succ, List.getElem_toArray, List.getElem_cons_zero, List.getElem_cons_succ]
          refine wpAnyH_done (by kernel_rfl) ?_ _
          have HB : Hid (Below wr.heap.size wr (w4.drewN d)) := Lib.hid (next_trans (drew_below wr) (next_trans b1 (next_trans b2 (drewN_below _ d))))
          clear b1 b2 oa oa2 ob u1 u2 v1 v2 x1 x2 cS cT rd1 rd2 t2 LG
          cases z with
          | true =>
            have S1 := Lib.hid (headSS_step (xa := xa) (xb := xb) hlt HLOW.out (HYA.out.trans (of_decide_eq_true HZ.out)) r1 r2 hb HB.out)
            clear r1 r2 hb
            go_wp2
            go_roundw
            case rel => exact S1.out
            case measure => simp [intOf]; omega
          | false =>
            have F := Lib.hid (ansB (b := sameB sg xa xb) (a := false) (by rw [same_ab HS.out HS2.out, sameG_no hlt (by rw [HYA.out]; exact of_decide_eq_false HZ.out)]) (next_trans hb HB.out))
            clear r1 r2 hb
            go_wp2
            go_ret
            exact F.out
        · have F := Lib.hid (ansB (b := sameB sg xa xb) (a := true) (by rw [same_ab HS.out HS2.out, sameG_yes (fun i hi => HLOW.out i (by omega))]) hb)
          clear r1 r2 hb h h' h2
          go_wp2
          go_ret
          exact F.out

set_option maxHeartbeats 8000000 in
theorem implSameSubst (A S T : Option Addr) (n c m c' q cq : Nat) (sg : List Int) (xa xb : List (List Int)) (w : World) (h : Seg w w.heap.size A n sg) (h' : Segs w w.heap.size S m xa) (h2 : Segs w w.heap.size T q xb) (hn : n ≤ 1048576) (ht : tot xa ≤ 1048576) (ht2 : tot xb ≤ 1048576) :
    Calls Try.prog 24 #[.agg #[.slice A n c], .agg #[.slice S m c'], .agg #[.slice T q cq]] w (AnsB w (sameB sg xa xb)) := by
  obtain ⟨W, hW, rA, rS, rT, bel⟩ := boxesSS w A n c S m c' T q cq
  have HW := Lib.hid hW
  have hm : m ≤ 1048576 := tot_len h'.1 ht
  have hq : q ≤ 1048576 := tot_len h2.1 ht2
  have HE1 := Lib.hid (tot_each ht)
  have HE2 := Lib.hid (tot_each ht2)
  have HT1 := Lib.hid ht
  have HT2 := Lib.hid ht2
  have s := h.next bel
  have s1 := h'.next bel
  have s2 := h2.next bel
  have L := Lib.hid (implSubstOk A S n c m c' sg xa W s s1 hn ht)
  clear hW ht ht2
  cases hok : substOkB sg xa with
  | false =>
    have HS := Lib.hid hok
    clear hok s s1 s2 h h' h2
    go_enter Try.func24, Try.ntmps24
    go_wp2_with fail
    rw [← HW.out]
    refine L.out.mono ?_
    rintro e w1 ⟨he, bb⟩
    rw [HS.out] at he
    subst he
    have F := Lib.hid (ansB (b := sameB sg xa xb) (a := false) (by rw [same_a HS.out]) (next_trans bel bb))
    clear bb bel rA rS rT
    go_wp2
    go_ret
    exact F.out
  | true =>
    have HS := Lib.hid hok
    clear hok
    go_enter Try.func24, Try.ntmps24
    go_wp2_with fail
    rw [← HW.out]
    refine L.out.mono ?_
    rintro e w1 ⟨he, bb⟩
    rw [HS.out] at he
    subst he
    replace s := s.next bb
    replace s1 := s1.next bb
    replace s2 := s2.next bb
    replace rA := rA.next bb
    replace rS := rS.next bb
    replace rT := rT.next bb
    replace bel := next_trans bel bb
    have cA : w1.cell? ⟨w.heap.size, 0, none⟩ = some (.slice A n c) := rA.cell 0
    have cT : w1.cell? ⟨w.heap.size + 2, 0, none⟩ = some (.slice T q cq) := rT.cell 0
    have L2 := Lib.hid (implSubstOk A T n c q cq sg xb w1 s s2 hn HT2.out)
    clear bb L
    cases hok2 : substOkB sg xb with
    | false =>
      have HS2 := Lib.hid hok2
      clear hok2 s s1 s2 h h' h2
      go_wp2_with fail
      refine L2.out.mono ?_
      rintro e w2 ⟨he, bb⟩
      rw [HS2.out] at he
      subst he
      have F := Lib.hid (ansB (b := sameB sg xa xb) (a := false) (by rw [same_b HS2.out]) (next_trans bel bb))
      clear bb bel rA rS rT cA cT L2
      go_wp2
      go_ret
      exact F.out
    | true =>
      have HS2 := Lib.hid hok2
      clear hok2
      go_wp2_with fail
      refine L2.out.mono ?_
      rintro e w2 ⟨he, bb⟩
      rw [HS2.out] at he
      subst he
      replace s1 := s1.next bb
      replace s2 := s2.next bb
      replace rS := rS.next bb
      replace rT := rT.next bb
      replace bel := next_trans bel bb
      clear bb L2 cA cT rA s
      have cS : w2.cell? ⟨w.heap.size + 1, 0, none⟩ = some (.slice S m c') := rS.cell 0
      have cT : w2.cell? ⟨w.heap.size + 2, 0, none⟩ = some (.slice T q cq) := rT.cell 0
      have d1 := rS.drew
      have d2 := rT.drew
      have sd1 := s1.drew
      have sd2 := s2.drew
      have bd := bel.drew
      clear rS rT s1 s2 bel
      go_wp2_with fail
      refine wp_region_held_drew (S := (fun w' => w'.cell? ⟨w.heap.size + 1, 0, none⟩ = some (.slice S m c') ∧ w'.cell? ⟨w.heap.size + 2, 0, none⟩ = some (.slice T q cq))) (by kernel_rfl) ⟨cS, cT⟩ (fun hHeld => ?_)
      refine wpAnyH_take (i := 0) (v := ?_) rfl (by kernel_rfl) (by kernel_rfl) (by kernel_rfl) (fun _ _ _ h => h) (Or.inl ⟨by rfl, ?_⟩) (by assumption) ?_
      rotate_left 1
      · (intro w0 hSw; (try dsimp only at hSw); go_simp; try with_reducible rfl)
      try simp only [Act.put, List.setIfInBounds_toArray, List.set_cons_zero, List.set_cons_succ, List.getElem_toArray, List.getElem_cons_zero, List.getElem_cons_succ]
      refine wpAnyH_take (i := 2) (v := ?_) rfl (by kernel_rfl) (by kernel_rfl) (by kernel_rfl) (fun _ _ _ h => h) (Or.inl ⟨by rfl, ?_⟩) (by assumption) ?_
      rotate_left 1
      · (intro w0 hSw; (try dsimp only at hSw); go_simp; try with_reducible rfl)
      try simp only [Act.put, List.setIfInBounds_toArray, List.set_cons_zero, List.set_cons_succ, List.getElem_toArray, List.getElem_cons_zero, List.getElem_cons_succ]
      refine wpAnyH_ready (rs := [1]) (by kernel_rfl) (by simp) (AllReadyH.cons rfl (fun K hK => ?_) AllReadyH.nil)
      go_simp
      refine (lookupB S m c' w2.drew).mono ?_; rintro e w3 ⟨rfl, ra, b3⟩; have u1 := d1.next b3; have u2 := d2.next b3; have x1 : w3.cell? ⟨w.heap.size + 1, 0, none⟩ = some (.slice S m c') := u1.cell 0; have x2 : w3.cell? ⟨w.heap.size + 2, 0, none⟩ = some (.slice T q cq) := u2.cell 0; go_wp2_with fail
      refine hK.out _ _ ?_ (fun hHeld => ?_)
      · first | assumption | (dsimp only; assumption) | exact ⟨by assumption, by assumption⟩
      clear hK K
      try simp only [Act.put, List.setIfInBounds_toArray, List.set_cons_zero, List.set_cons_succ, List.getElem_toArray, List.getElem_cons_zero, List.getElem_cons_succ]
      refine wpAnyH_ready (rs := [3]) (by kernel_rfl) (by simp) (AllReadyH.cons rfl (fun K hK => ?_) AllReadyH.nil)
      go_simp
      refine (lookupB T q cq w3).mono ?_; rintro e w4 ⟨rfl, rb, b4⟩; have x1 : w4.cell? ⟨w.heap.size + 1, 0, none⟩ = some (.slice S m c') := (u1.next b4).cell 0; have x2 : w4.cell? ⟨w.heap.size + 2, 0, none⟩ = some (.slice T q cq) := (u2.next b4).cell 0; clear u1 u2; go_wp2_with fail
      refine hK.out _ _ ?_ (fun hHeld => ?_)
      · first | assumption | (dsimp only; assumption) | exact ⟨by assumption, by assumption⟩
      clear hK K
      try simp only [Act.put, List.setIfInBounds_toArray, List.set_cons_zero, List.set_cons_succ, List.getElem_toArray, List.getElem_cons_zero, List.getElem_cons_succ]
      refine wpAnyH_take (i := 4) (v := ?_) rfl (by kernel_rfl) (by kernel_rfl) (by kernel_rfl) (fun _ _ _ h => h) (Or.inl ⟨by rfl, ?_⟩) (by assumption) ?_
      rotate_left 1
      · (intro w0 hSw; (try dsimp only at hSw); go_simp; try with_reducible rfl)
      try simp only [Act.put, List.setIfInBounds_toArray, List.set_cons_zero, List.set_cons_succ, List.getElem_toArray, List.getElem_cons_zero, List.getElem_cons_succ]
      refine wpAnyH_take (i := 5) (v := ?_) rfl (by kernel_rfl) (by kernel_rfl) (by kernel_rfl) (fun _ _ _ h => h) (Or.inl ⟨by rfl, ?_⟩) (by assumption) ?_
      rotate_left 1
      · (intro w0 hSw; (try dsimp only at hSw); go_simp; try with_reducible rfl)
      try simp only [Act.put, List.setIfInBounds_toArray, List.set_cons_zero, List.set_cons_succ, List.getElem_toArray, List.getElem_cons_zero, List.getElem_cons_succ]
      refine wpAnyH_done (by kernel_rfl) ?_ _
      have H0 : HeadSS w w2.heap.size w3.heap.size S m c' T q cq xa xb (.int .i64 0) w4 := ⟨0, Nat.zero_le _, rfl, fun j hj => absurd hj (Nat.not_lt_zero _), ra.next b4, rb, next_trans (next_trans bd b3) b4⟩
      have HH := Lib.hid H0
      have G1 := Lib.hid ((sd1.next b3).next b4)
      have G2 := Lib.hid ((sd2.next b3).next b4)
      clear H0 sd1 sd2 d1 d2 bd b3 b4 ra rb cS cT x1 x2
      go_wp2_with fail
      go_loopw [24] (fun i wr => HeadSS w w2.heap.size w3.heap.size S m c' T q cq xa xb i wr) (fun i _ => 24 - (intOf i).toNat)
      case atStart => exact HH.out
      case round =>
        obtain ⟨k, hk, rfl, hlow, r1, r2, hb⟩ := hrel
        clear HH
        have HLOW := Lib.hid hlow
        clear hlow
        by_cases hlt : k < 24
        · have i0 : (0 : Int) ≤ (k : Int) := by omega
          have LA : Calls Try.prog 112 #[.int .i64 (k : Int), .pointer (some ⟨w2.heap.size, 0, none⟩)] wr (AnsLook wr.heap.size wr (givesL xa k)) := lookSubst w2.heap.size S m c' xa wr r1 ((h'.below hb).more hb.size) hm wr k (Below.refl _ _) hlt
          have t2 := (h2.below hb).more hb.size
          have hya : (givesL xa k).length ≤ 1048576 := gives_each HE1.out k
          have hyb : (givesL xb k).length ≤ 1048576 := gives_each HE2.out k
          obtain ⟨ya, hya2⟩ : ∃ ya, givesL xa k = ya := ⟨_, rfl⟩
          rw [hya2] at LA hya
          have HYA := Lib.hid hya2
          clear hya2 h h' h2
          obtain ⟨z, hz⟩ : ∃ z, decide (ya = givesL xb k) = z := ⟨_, rfl⟩
          have HZ := Lib.hid hz
          clear hz
          replace LA := Lib.hid LA
          go_wp2_with fail
          refine LA.out.mono ?_
          rintro e w5 ⟨X, xn, xc, rfl, oa, -, -, b1⟩
          have LB : Calls Try.prog 112 #[.int .i64 (k : Int), .pointer (some ⟨w3.heap.size, 0, none⟩)] w5 (AnsLook w5.heap.size w5 (givesL xb k)) := lookSubst w3.heap.size T q cq xb w5 (r2.next b1) (t2.next b1) hq w5 k (Below.refl _ _) hlt
          replace LB := Lib.hid LB
          clear t2
          go_wp2_with fail
          refine LB.out.mono ?_
          rintro e w6 ⟨Y, yn, yc, rfl, ob, -, -, b2⟩
          have oa2 := oa.next b2
          go_wp2_with fail
          refine (implSame X Y xn yn xc yc ya (givesL xb k) w6 oa2 ob (by rw [← oa.1]; exact hya) (by rw [← ob.1]; exact hyb)).mono ?_
          rintro e w7 ⟨he, d, rfl⟩
          rw [HZ.out] at he
          subst he
          have HB := Lib.hid (next_trans b1 (next_trans b2 (drewN_below _ d)))
          clear b1 b2 oa oa2 ob LA LB
          cases z with
          | true =>
            have S1 := Lib.hid (headSS_step (xa := xa) (xb := xb) hlt HLOW.out (HYA.out.trans (of_decide_eq_true HZ.out)) r1 r2 hb HB.out)
            clear r1 r2 hb
            go_wp2
            go_roundw
            case rel => exact S1.out
            case measure => simp [intOf]; omega
          | false =>
            have F := Lib.hid (ansB (b := sameB sg xa xb) (a := false) (by rw [same_ab HS.out HS2.out, sameG_no hlt (by rw [HYA.out]; exact of_decide_eq_false HZ.out)]) (next_trans hb HB.out))
            clear r1 r2 hb
            go_wp2
            go_ret
            exact F.out
        · have F := Lib.hid (ansB (b := sameB sg xa xb) (a := true) (by rw [same_ab HS.out HS2.out, sameG_yes (fun i hi => HLOW.out i (by omega))]) hb)
          clear r1 r2 hb h h' h2
          go_wp2
          go_ret
          exact F.out
end Go.Proofs.Ytkmhnkljigncmaa.sameSubst
end

section
/-
  PLAIN MATHEMATICS of plain substitutions: the plain form is valid, replaces in the same way, and is unique; of compositions: they are valid and fill as one after the other. Conditions: those named. By an AI agent.
-/
namespace Go.Proofs.Ytkmhnkljigncmaa.plainFacts
open Go.RowKit Go.Proofs.Ytkmhnkljigncmaa.base Go.Proofs.Ytkmhnkljigncmaa.ints Go.Proofs.Ytkmhnkljigncmaa.sig Go.Proofs.Ytkmhnkljigncmaa.term Go.Proofs.Ytkmhnkljigncmaa.termOk Go.Proofs.Ytkmhnkljigncmaa.termFacts Go.Proofs.Ytkmhnkljigncmaa.fillMath Go.Proofs.Ytkmhnkljigncmaa.plainMath Go.Proofs.Ytkmhnkljigncmaa.plainOf Go.Proofs.Ytkmhnkljigncmaa.substOk Go.Proofs.Ytkmhnkljigncmaa.gives Go.Proofs.Ytkmhnkljigncmaa.sameSubst Go.Proofs.Ytkmhnkljigncmaa.compMath Go.Proofs.Ytkmhnkljigncmaa.filled

/-- a plain form gives what its look-up gives -/
theorem gives_plain {L : Nat → List Int} {m i : Nat} (hpos : ∀ i, 1 ≤ (L i).length) (hout : ∀ i, m ≤ i → L i = vt i) : givesL (plainL L m) i = L i := by
  have e := plain_get L m i
  by_cases h : i < m
  · rw [rows_get h] at e
    unfold bare at e
    by_cases h2 : L i = vt i
    · rw [if_pos h2] at e
      rw [gives_var (by rw [e]; rfl), h2]
    · rw [if_neg h2] at e
      rw [gives_term (by rw [e]; have := hpos i; omega), e]
  · have e0 : (rowsL L m).getD i [] = [] := by simp [List.getD, rows_len, h]
    rw [e0] at e
    rw [gives_var (by rw [e]; rfl), hout i (by omega)]
theorem plain_gives {ss : List (List Int)} (i : Nat) : givesL (plainL (givesL ss) ss.length) i = givesL ss i :=
  gives_plain (fun j => gives_pos ss j) (fun j hj => gives_out (by omega))
/-- a plain form is valid, if its look-up gives terms -/
theorem plain_valid {sg : List Int} {L : Nat → List Int} {m : Nat} (hs : sigOkB sg = true) (hm : m ≤ 24) (hok : ∀ i, i < m → termOkB sg (L i) = true) : substOkB sg (plainL L m) = true := by
  have hl := plain_len L m
  refine subst_good hs (by omega) (fun j hj => ?_)
  rw [plain_get, rows_get (by omega)]
  unfold bare goodB
  split
  · simp
  · rw [hok j (by omega)]
    simp
theorem plain_ok {sg : List Int} {ss : List (List Int)} (h : substOkB sg ss = true) : substOkB sg (plainL (givesL ss) ss.length) = true :=
  plain_valid (substOk_parts h).1 (substOk_parts h).2.1 (fun i hi => gives_ok h (by have := (substOk_parts h).2.1; omega))
theorem plain_eq_24 {ss : List (List Int)} (h : ss.length ≤ 24) : plainL (givesL ss) ss.length = plainL (givesL ss) 24 := (plain_24 h (fun i hi => gives_out (by omega))).symm
/-- two valid substitutions replace in the same way if and only if their plain forms are equal -/
theorem plain_iff {sg : List Int} {a b : List (List Int)} (ha : substOkB sg a = true) (hb : substOkB sg b = true) : sameB sg a b = decide (plainL (givesL a) a.length = plainL (givesL b) b.length) := by
  rw [same_ab ha hb]
  by_cases h : sameG a b = true
  · rw [h]
    symm
    rw [decide_eq_true_eq, plain_eq_24 (substOk_parts ha).2.1, plain_eq_24 (substOk_parts hb).2.1]
    exact plain_ext (fun i hi => sameG_iff.1 h i hi)
  · have h0 : sameG a b = false := by simpa using h
    rw [h0]
    symm
    rw [decide_eq_false_iff_not]
    intro e
    refine h (sameG_iff.2 (fun i _ => ?_))
    rw [← plain_gives (ss := a) i, ← plain_gives (ss := b) i, e]
theorem plain_self {sg : List Int} {a : List (List Int)} (ha : substOkB sg a = true) : sameB sg (plainL (givesL a) a.length) a = true := by
  rw [same_ab (plain_ok ha) ha]
  exact sameG_iff.2 (fun i _ => plain_gives i)
/-- nothing, or its last term is there -/
theorem plain_last (L : Nat → List Int) (m : Nat) : (plainL L m).length = 0 ∨ 0 < ((plainL L m).getD ((plainL L m).length - 1) []).length := by
  unfold plainL
  rcases strip_end (rowsL L m) with h | ⟨q, h1, h2⟩
  · exact .inl (by rw [h]; rfl)
  · refine .inr ?_
    rw [h1, Nat.add_sub_cancel]
    exact List.length_pos_iff.2 h2
/-- the composition, as a substitution -/
theorem comp_gives {sg : List Int} {ss us : List (List Int)} (h : composedB sg ss us = true) (i : Nat) : givesL (composedI sg ss us) i = if i < 24 then compL us ss i else vt i := by
  rw [composed_yes h]
  have hs : substOkB sg ss = true := by unfold composedB at h; simp at h; exact h.1
  have hu : substOkB sg us = true := by unfold composedB at h; simp at h; exact h.2.1
  have e : compL us ss = fun i => compL us ss i := rfl
  have h1 := gives_plain (L := compL us ss) (m := 24) (i := i) (fun j => comp_pos us ss j) (fun j hj => comp_out (by have := (substOk_parts hs).2.1; omega) (by have := (substOk_parts hu).2.1; omega))
  rw [h1]
  split
  · rfl
  · rename_i h2
    exact comp_out (by have := (substOk_parts hs).2.1; omega) (by have := (substOk_parts hu).2.1; omega)
theorem comp_ok {sg : List Int} {ss us : List (List Int)} (h : composedB sg ss us = true) : substOkB sg (composedI sg ss us) = true := by
  have hs : substOkB sg ss = true := by unfold composedB at h; simp at h; exact h.1
  have hu : substOkB sg us = true := by unfold composedB at h; simp at h; exact h.2.1
  have hc : compOk us ss = true := by unfold composedB at h; simp at h; exact h.2.2
  rw [composed_yes h]
  refine plain_valid (substOk_parts hs).1 (Nat.le_refl _) (fun i hi => ?_)
  unfold compL
  refine fill_term (gives_ok hs hi) (fun x hx h0 => gives_ok hu ?_) (compOk_iff.1 hc i hi)
  have := term_mem (gives_ok hs hi) hx
  omega
/-- filling by the composition is filling twice -/
theorem comp_fill {sg : List Int} {ss us : List (List Int)} {t : List Int} (h : composedB sg ss us = true) (ht : termOkB sg t = true) : fillL (givesL (composedI sg ss us)) t = fillL (givesL us) (fillL (givesL ss) t) := by
  rw [fill_fill]
  refine fill_ext (fun x hx h0 => ?_)
  rw [comp_gives h]
  have := term_mem ht hx
  rw [if_pos (by omega)]
  rfl
/-- both ways give the same -/
theorem comp_facts {sg : List Int} {ss us : List (List Int)} {t : List Int} (h : composedB sg ss us = true) (h1 : filledB sg ss t = true) (h2 : filledB sg us (filledL sg ss t) = true) :
    substOkB sg (composedI sg ss us) = true ∧ filledB sg (composedI sg ss us) t = true ∧ filledL sg (composedI sg ss us) t = filledL sg us (filledL sg ss t) := by
  have a1 : termOkB sg t = true := by unfold filledB at h1; simp at h1; exact h1.2.1
  have e1 : filledL sg ss t = fillL (givesL ss) t := by unfold filledL; rw [if_pos h1]
  have e2 : filledL sg us (filledL sg ss t) = fillL (givesL us) (fillL (givesL ss) t) := by unfold filledL; rw [if_pos (by have := h2; unfold filledL at this; exact this), if_pos h1]
  have a2 : fitsB us (filledL sg ss t) = true := by unfold filledB at h2; simp at h2; exact h2.2.2
  have hb : filledB sg (composedI sg ss us) t = true := by
    rw [filled_b (comp_ok h) a1]
    unfold fitsB at a2 ⊢
    rw [comp_fill h a1, ← e1]
    exact a2
  refine ⟨comp_ok h, hb, ?_⟩
  rw [e2]
  unfold filledL
  rw [if_pos hb]
  exact comp_fill h a1
end Go.Proofs.Ytkmhnkljigncmaa.plainFacts
end

section
/-
  PLAIN MATHEMATICS of renamed terms: a renamed term is a term, its variables are 0, 1, .., renamed again it stays. Conditions: none but those named. By an AI agent.
-/
namespace Go.Proofs.Ytkmhnkljigncmaa.renPure
open Go.Proofs.Ytkmhnkljigncmaa.sig Go.Proofs.Ytkmhnkljigncmaa.term Go.Proofs.Ytkmhnkljigncmaa.termOk Go.Proofs.Ytkmhnkljigncmaa.termFacts Go.Proofs.Ytkmhnkljigncmaa.varsMath Go.Proofs.Ytkmhnkljigncmaa.fillMath Go.Proofs.Ytkmhnkljigncmaa.renMath

theorem pigeon : ∀ (n : Nat) (l : List Nat), l.Nodup → (∀ x ∈ l, x < n) → l.length ≤ n
  | 0, l, _, h => by
    cases l with
    | nil => simp
    | cons a r => exact absurd (h a (List.mem_cons_self ..)) (Nat.not_lt_zero _)
  | n + 1, l, hd, h => by
    have h1 := pigeon n (l.erase n) (hd.erase n) (fun x hx => by
      have h2 := (hd.mem_erase_iff).1 hx
      have := h x h2.2
      omega)
    have h3 : l.length ≤ (l.erase n).length + 1 := by
      rw [List.length_erase]
      split <;> omega
    omega

theorem map_nodup {α β : Type} {f : α → β} : ∀ {l : List α}, l.Nodup → (∀ a ∈ l, ∀ b ∈ l, f a = f b → a = b) → (l.map f).Nodup
  | [], _, _ => List.nodup_nil
  | a :: r, h, hf => by
    have h1 := List.nodup_cons.1 h
    rw [List.map_cons, List.nodup_cons]
    refine ⟨fun hm => ?_, map_nodup h1.2 (fun x hx y hy => hf x (List.mem_cons_of_mem _ hx) y (List.mem_cons_of_mem _ hy))⟩
    obtain ⟨b, hb, e⟩ := List.mem_map.1 hm
    have := hf b (List.mem_cons_of_mem _ hb) a (List.mem_cons_self ..) e
    subst this
    exact h1.1 hb

/-- no more than 24 variables stand in a term -/
theorem order_24 {sg t : List Int} (h : termOkB sg t = true) : (orderL t).length ≤ 24 := by
  have h1 := pigeon 24 ((orderL t).map fun x => (-1 - x).toNat) (map_nodup (order_nodup t) (fun a ha b hb e => by
    have := (order_mem.1 ha).2
    have := (order_mem.1 hb).2
    omega)) (fun x hx => by
      obtain ⟨y, hy, rfl⟩ := List.mem_map.1 hx
      have h2 := order_mem.1 hy
      have h3 := term_mem h h2.1
      omega)
  simpa using h1

theorem ren_fill (t : List Int) (o : List Int) : fillL (fun i => vt (idx o (-1 - (i : Int)))) t = t.map (ren o) := by
  induction t with
  | nil => rfl
  | cons x r ih =>
    rw [fill_cons, ih, List.map_cons]
    unfold rep ren
    by_cases h : 0 ≤ x
    · rw [if_pos h, if_neg (by omega)]; rfl
    · rw [if_neg h, if_pos (by omega)]
      show vt (idx o (-1 - (((-1 - x).toNat : Nat) : Int))) ++ _ = _
      rw [show (-1 - (((-1 - x).toNat : Nat) : Int) : Int) = x by omega]
      rfl

theorem ren_ok {sg t : List Int} (h : termOkB sg t = true) : termOkB sg (renL t) = true := by
  have e : renL t = fillL (fun i => vt (idx (orderL t) (-1 - (i : Int)))) t := (ren_fill t (orderL t)).symm
  rw [e]
  refine fill_term h (fun x hx h0 => ?_) (by rw [← e, ren_len]; exact (term_len h).2)
  show termOkB sg (vt (idx (orderL t) (-1 - (((-1 - x).toNat : Nat) : Int)))) = true
  rw [show (-1 - (((-1 - x).toNat : Nat) : Int) : Int) = x by omega]
  refine var_term (term_parts h).1 ?_
  have h1 := idx_lt (order_mem.2 ⟨hx, h0⟩)
  have h2 := order_24 h
  omega

theorem ren_yes {o : List Int} {x : Int} (h : x < 0) : ren o x = -1 - (idx o x : Int) := by unfold ren; rw [if_pos h]
theorem ren_no {o : List Int} {x : Int} (h : ¬ x < 0) : ren o x = x := by unfold ren; rw [if_neg h]
theorem ren_neg {o : List Int} {x : Int} : ren o x < 0 ↔ x < 0 := by
  unfold ren
  split
  · omega
  · omega

theorem ren_inj {t : List Int} {a b : Int} (ha : a ∈ t) (hb : b ∈ t) (h : ren (orderL t) a = ren (orderL t) b) : a = b := by
  have n1 := @ren_neg (orderL t) a
  have n2 := @ren_neg (orderL t) b
  by_cases h0 : a < 0
  · have h1 : b < 0 := n2.1 (h ▸ n1.2 h0)
    unfold ren at h
    rw [if_pos h0, if_pos h1] at h
    have e : idx (orderL t) a = idx (orderL t) b := by omega
    have e1 := idx_get (order_mem.2 ⟨ha, h0⟩)
    have e2 := idx_get (order_mem.2 ⟨hb, h1⟩)
    rw [← e1, ← e2, e]
  · have h1 : ¬ b < 0 := fun hb0 => h0 (n1.1 (h ▸ n2.2 hb0))
    unfold ren at h
    rwa [if_neg h0, if_neg h1] at h

/-- the variables of a renamed term -/
theorem idx_map_on {f : Int → Int} {o : List Int} {x : Int} (hx : x ∈ o) (hf : ∀ a ∈ o, f a = f x → a = x) : idx (o.map f) (f x) = idx o x := by
  induction o with
  | nil => cases hx
  | cons y r ih =>
    rw [List.map_cons, idx, idx]
    by_cases h : y = x
    · rw [if_pos (by rw [h]), if_pos h]
    · rw [if_neg (fun e => h (hf y (List.mem_cons_self ..) e)), if_neg h]
      rcases List.mem_cons.1 hx with e | e
      · exact absurd e.symm h
      · rw [ih e (fun a ha => hf a (List.mem_cons_of_mem _ ha))]

theorem fold_map {f : Int → Int} {t : List Int} (hf : ∀ a ∈ t, ∀ b ∈ t, f a = f b → a = b) (hn : ∀ x, f x < 0 ↔ x < 0) : ∀ (l o : List Int), (∀ x ∈ l, x ∈ t) → (∀ x ∈ o, x ∈ t) → (l.map f).foldl extV (o.map f) = (l.foldl extV o).map f
  | [], _, _, _ => rfl
  | x :: l, o, hl, ho => by
    have hx := hl x (List.mem_cons_self ..)
    rw [List.map_cons, List.foldl_cons, List.foldl_cons]
    have e : extV (o.map f) (f x) = (extV o x).map f := by
      unfold extV
      by_cases h : x < 0
      · rw [if_pos ((hn x).2 h), if_pos h]
        unfold ext
        by_cases hm : x ∈ o
        · rw [if_pos hm, if_pos (List.mem_map.2 ⟨x, hm, rfl⟩)]
        · rw [if_neg hm, if_neg, List.map_append]
          · rfl
          · intro h2
            obtain ⟨y, hy, e⟩ := List.mem_map.1 h2
            exact hm (hf y (ho y hy) x hx e ▸ hy)
      · rw [if_neg (fun h2 => h ((hn x).1 h2)), if_neg h]
    rw [e]
    refine fold_map hf hn l (extV o x) (fun y hy => hl y (List.mem_cons_of_mem _ hy)) (fun y hy => ?_)
    rcases extV_mem.1 hy with ⟨rfl, _⟩ | h
    · exact hx
    · exact ho y h

theorem order_ren (t : List Int) : orderL (renL t) = (orderL t).map (ren (orderL t)) :=
  fold_map (t := t) (f := ren (orderL t)) (fun a ha b hb h => ren_inj ha hb h) (fun x => ren_neg) t [] (fun _ h => h) (fun x h => by cases h)

/-- renamed twice is renamed -/
theorem ren_ren (t : List Int) : renL (renL t) = renL t := by
  show (renL t).map (ren (orderL (renL t))) = renL t
  rw [order_ren]
  show (t.map (ren (orderL t))).map _ = t.map (ren (orderL t))
  rw [List.map_map]
  refine List.map_congr_left (fun x hx => ?_)
  show ren ((orderL t).map (ren (orderL t))) (ren (orderL t) x) = ren (orderL t) x
  by_cases h : x < 0
  · have h1 := (@ren_neg (orderL t) x).2 h
    have hm := order_mem.2 ⟨hx, h⟩
    have e := idx_map_on (f := ren (orderL t)) hm (fun a ha e => ren_inj (order_mem.1 ha).1 hx e)
    rw [ren_yes h1, e, ren_yes h]
  · have h1 : ¬ ren (orderL t) x < 0 := fun e => h (ren_neg.1 e)
    rw [ren_no h1]
end Go.Proofs.Ytkmhnkljigncmaa.renPure
end

section
/-
  PLAIN MATHEMATICS for the laws of chapter 5: what follows from what unification tells ('IsU'), from what generalisation tells ('IsG'), from what terms that are met tell ('met_facts'). Conditions: none. By an AI agent.
-/
namespace Go.Proofs.Ytkmhnkljigncmaa.unifLaw
open Go.Proofs.Ytkmhnkljigncmaa.sig Go.Proofs.Ytkmhnkljigncmaa.term Go.Proofs.Ytkmhnkljigncmaa.termOk Go.Proofs.Ytkmhnkljigncmaa.termFacts Go.Proofs.Ytkmhnkljigncmaa.endAt Go.Proofs.Ytkmhnkljigncmaa.sub Go.Proofs.Ytkmhnkljigncmaa.termMath Go.Proofs.Ytkmhnkljigncmaa.fillMath Go.Proofs.Ytkmhnkljigncmaa.posMath Go.Proofs.Ytkmhnkljigncmaa.renMath Go.Proofs.Ytkmhnkljigncmaa.renPure Go.Proofs.Ytkmhnkljigncmaa.segsHelp Go.Proofs.Ytkmhnkljigncmaa.substOk Go.Proofs.Ytkmhnkljigncmaa.gives Go.Proofs.Ytkmhnkljigncmaa.plainMath Go.Proofs.Ytkmhnkljigncmaa.plainOf Go.Proofs.Ytkmhnkljigncmaa.plainFacts Go.Proofs.Ytkmhnkljigncmaa.filled Go.Proofs.Ytkmhnkljigncmaa.sameSubst Go.Proofs.Ytkmhnkljigncmaa.compMath Go.Proofs.Ytkmhnkljigncmaa.matchMath Go.Proofs.Ytkmhnkljigncmaa.unifMath Go.Proofs.Ytkmhnkljigncmaa.genMath

/-! ### unification -/
theorem sub_gives {sg : List Int} {L : Nat → List Int} (h : Sub sg L) (i : Nat) : givesL (plainL L 24) i = L i := gives_plain h.pos h.out
theorem sub_valid {sg : List Int} {L : Nat → List Int} (hs : sigOkB sg = true) (h : Sub sg L) (he : ∀ i, (L i).length ≤ 60) : substOkB sg (plainL L 24) = true :=
  plain_valid hs (Nat.le_refl _) (fun i hi => term_mk hs (he i) (h.trm i hi))
theorem gives_sub {sg : List Int} {us : List (List Int)} (h : substOkB sg us = true) : Sub sg (givesL us) :=
  ⟨fun _ hi => (term_parts (gives_ok h hi)).2.2, fun i hi => gives_out (by have := (substOk_parts h).2.1; omega)⟩
theorem fill_plain {sg : List Int} {L : Nat → List Int} (h : Sub sg L) (t : List Int) : fillL (givesL (plainL L 24)) t = fillL L t := fill_ext (fun _ _ _ => sub_gives h _)
theorem filled_plain {sg : List Int} {L : Nat → List Int} {t : List Int} (h : Sub sg L) (hv : substOkB sg (plainL L 24) = true) (ht : termOkB sg t = true) (hl : (fillL L t).length ≤ 60) : filledB sg (plainL L 24) t = true ∧ filledL sg (plainL L 24) t = fillL L t := by
  have hb : filledB sg (plainL L 24) t = true := by
    rw [filled_b hv ht]
    unfold fitsB
    rw [fill_plain h]
    exact decide_eq_true hl
  exact ⟨hb, by unfold filledL; rw [if_pos hb]; exact fill_plain h t⟩
theorem filled_parts {sg : List Int} {us : List (List Int)} {t : List Int} (h : filledB sg us t = true) : substOkB sg us = true ∧ termOkB sg t = true ∧ filledL sg us t = fillL (givesL us) t ∧ (fillL (givesL us) t).length ≤ 60 := by
  have e : filledL sg us t = fillL (givesL us) t := by unfold filledL; rw [if_pos h]
  have hl := filled_len sg us t
  rw [e] at hl
  unfold filledB at h
  rw [Bool.and_eq_true, Bool.and_eq_true] at h
  exact ⟨h.1, h.2.1, e, hl⟩
theorem isU_each {sg a b : List Int} {v : Bool} {F : List (List Int)} (h : IsU sg a b v F) : tot F ≤ 1048576 := by
  rcases h with ⟨_, _, _, L, m, s, rfl⟩ | ⟨_, rfl, _⟩
  · have h3 := tot_le (plain_each (L := L) (m := 24) s.each)
    have h4 := plain_len L 24
    have h5 : (plainL L 24).length * 60 ≤ 24 * 60 := Nat.mul_le_mul_right _ h4
    omega
  · simp [tot, sumL]
/-- a substitution that makes both equal is there: so true is told -/
theorem isU_true {sg a b : List Int} {v : Bool} {F us : List (List Int)} (h : IsU sg a b v F) (h1 : filledB sg us a = true) (h2 : filledB sg us b = true) (he : filledL sg us a = filledL sg us b) : v = true := by
  obtain ⟨a1, a2, a3, a4⟩ := filled_parts h1
  obtain ⟨_, b2, b3, _⟩ := filled_parts h2
  rcases h with ⟨e, _⟩ | ⟨_, _, h⟩
  · exact e
  · rcases h with h | h | h
    · rw [a2] at h; cases h
    · rw [b2] at h; cases h
    · exact absurd ⟨⟨gives_sub a1, by rw [← a3, ← b3, he]⟩, gives_len a1, a4⟩ (h (givesL us))
/-- what true tells -/
theorem isU_facts {sg a b : List Int} {F : List (List Int)} (h : IsU sg a b true F) : substOkB sg F = true ∧ sameB sg F F = true ∧ filledB sg F a = true ∧ filledB sg F b = true ∧ filledL sg F a = filledL sg F b ∧ (composedB sg F F = true → sameB sg (composedI sg F F) F = true) ∧
    ∀ us, filledB sg us a = true → filledB sg us b = true → filledL sg us a = filledL sg us b → composedB sg F us = true → filledB sg (composedI sg F us) a = true ∧ filledL sg (composedI sg F us) a = filledL sg us a := by
  rcases h with ⟨_, h1, h2, L, m, s, rfl⟩ | ⟨e, _⟩
  · have hs := (term_parts h1).1
    have hv := sub_valid hs m.sub s.each
    obtain ⟨fa, la⟩ := filled_plain m.sub hv h1 s.all
    obtain ⟨fb, lb⟩ := filled_plain m.sub hv h2 (by rw [← m.eq]; exact s.all)
    refine ⟨hv, by unfold sameB; rw [hv, sameG_yes (fun _ _ => rfl)]; rfl, fa, fb, by rw [la, lb, m.eq], fun hc => ?_, fun us u1 u2 u3 hc => ?_⟩
    · rw [same_ab (comp_ok hc) hv]
      refine sameG_yes (fun i hi => ?_)
      rw [comp_gives hc, if_pos hi]
      unfold compL
      rw [fill_plain m.sub, sub_gives m.sub]
      exact fill_same (fun x hx h0 => m.ide i x hx h0)
    · obtain ⟨a1, _, a3, a4⟩ := filled_parts u1
      obtain ⟨_, _, b3, _⟩ := filled_parts u2
      have hU : Uni sg a b (givesL us) := ⟨gives_sub a1, by rw [← a3, ← b3, u3]⟩
      have e : fillL (givesL (composedI sg (plainL L 24) us)) a = fillL (givesL us) a := by
        rw [comp_fill hc h1, fill_plain m.sub]
        exact part_uni m.toPart hU a
      have hb : filledB sg (composedI sg (plainL L 24) us) a = true := by
        rw [filled_b (comp_ok hc) h1]
        unfold fitsB
        rw [e]
        exact decide_eq_true a4
      exact ⟨hb, by rw [a3]; unfold filledL; rw [if_pos hb]; exact e⟩
  · cases e
theorem isU_symm {sg a b : List Int} {v : Bool} {F : List (List Int)} (h : IsU sg a b v F) : IsU sg b a v F := by
  rcases h with ⟨e, h1, h2, L, m, s, hF⟩ | ⟨e, hF, h⟩
  · exact .inl ⟨e, h2, h1, L, m.symm, s.symm, hF⟩
  · exact .inr ⟨e, hF, by
      rcases h with h | h | h
      · exact .inr (.inl h)
      · exact .inl h
      · exact .inr (.inr (fun M hM => h M hM.symm))⟩

/-! ### generalisation -/
/-- what is told of two lists -/
def IsG (sg a b g : List Int) : Prop :=
  (termOkB sg a = true ∧ termOkB sg b = true ∧ ∃ G T', Gs sg [] 1 a b G T' ∧ g = if T'.length ≤ 24 then G else []) ∨ ((termOkB sg a = false ∨ termOkB sg b = false) ∧ g = [])
theorem isG_ex (sg a b : List Int) : ∃ g, IsG sg a b g := by
  cases h1 : termOkB sg a with
  | false => exact ⟨[], .inr ⟨.inl h1, rfl⟩⟩
  | true =>
    cases h2 : termOkB sg b with
    | false => exact ⟨[], .inr ⟨.inr h2, rfl⟩⟩
    | true =>
      obtain ⟨G, T', h⟩ := gs_ex (sg := sg) a.length (T := []) (Nat.le_refl _) (term_parts h1).2.2 (term_parts h2).2.2
      exact ⟨_, .inl ⟨h1, h2, G, T', h, rfl⟩⟩
theorem isG_one {sg a b g g' : List Int} (h : IsG sg a b g) (h' : IsG sg a b g') : g = g' := by
  rcases h with ⟨h1, h2, G, T', h, rfl⟩ | ⟨h, rfl⟩
  · rcases h' with ⟨_, _, G2, T2, h', rfl⟩ | ⟨h', _⟩
    · obtain ⟨rfl, rfl⟩ := gs_one h List.nodup_nil h'
      rfl
    · rcases h' with h' | h'
      · rw [h1] at h'; cases h'
      · rw [h2] at h'; cases h'
  · rcases h' with ⟨h1, h2, _⟩ | ⟨_, rfl⟩
    · rcases h with h | h
      · rw [h1] at h; cases h
      · rw [h2] at h; cases h
    · rfl
theorem isG_symm {sg a b g : List Int} (h : IsG sg a b g) : IsG sg b a g := by
  rcases h with ⟨h1, h2, G, T', h, e⟩ | ⟨h, e⟩
  · exact .inl ⟨h2, h1, G, _, gs_swap h, by rw [List.length_map]; exact e⟩
  · exact .inr ⟨h.symm, e⟩
theorem isG_len {sg a b g : List Int} (h : IsG sg a b g) : g.length ≤ 60 := by
  rcases h with ⟨h1, h2, G, T', h, rfl⟩ | ⟨_, rfl⟩
  · split
    · have ht := gs_gt h []
      rw [List.append_nil] at ht
      obtain ⟨f, _, hv⟩ := gt_fill ht
      have h3 : ∀ {l : List Int}, (∀ x ∈ l, x < 0 → 1 ≤ (f1 T' (vr x)).length) → l.length ≤ (fillL (f1 T') l).length := by
        intro l
        induction l with
        | nil => intro _; simp
        | cons x r ih =>
          intro hx
          have := ih (fun y hy => hx y (List.mem_cons_of_mem _ hy))
          rw [fill_cons, List.length_append, List.length_cons]
          by_cases h0 : 0 ≤ x
          · rw [rep_sym h0, List.length_singleton]; omega
          · rw [rep_vr (by omega)]
            have := hx x (List.mem_cons_self ..) (by omega)
            omega
      have h4 := h3 (fun x hx h0 => (hv x hx h0).2.1.pos)
      rw [f] at h4
      exact Nat.le_trans h4 (term_len h1).2
    · simp
  · simp
/-- what there is: both are instances, and of each common pattern it is one -/
theorem isG_facts {sg a b g : List Int} (h : IsG sg a b g) (hg : g ≠ []) : termOkB sg g = true ∧ instB sg g a = true ∧ instB sg g b = true ∧ ∀ p, instB sg p a = true → instB sg p b = true → instB sg p g = true := by
  have hl := isG_len h
  rcases h with ⟨h1, h2, G, T', h, e⟩ | ⟨_, e⟩
  · by_cases h24 : T'.length ≤ 24
    · rw [if_pos h24] at e
      subst e
      have ht := gs_gt h []
      rw [List.append_nil] at ht
      have tg : termOkB sg g = true := term_mk (term_parts h1).1 hl (gt_scan h24 ht)
      obtain ⟨fa, fb, hv⟩ := gt_fill ht
      refine ⟨tg, (inst_iff tg h1).2 ⟨f1 T', fa, fun x hx h0 => (hv x hx h0).2.1⟩, (inst_iff tg h2).2 ⟨f2 T', fb, fun x hx h0 => (hv x hx h0).2.2⟩, fun p p1 p2 => ?_⟩
      obtain ⟨hp, _⟩ := inst_ok p1
      obtain ⟨A, eA, hA⟩ := (inst_iff hp h1).1 p1
      obtain ⟨B, eB, hB⟩ := (inst_iff hp h2).1 p2
      -- look-ups that are terms everywhere
      have mk : ∀ C : Nat → List Int, (∀ x ∈ p, x < 0 → scan sg 1 (C (vr x)) = some (C (vr x)).length) → ∃ D, Sub sg D ∧ fillL D p = fillL C p := by
        intro C hC
        have hch : ∀ i, ∃ d, (i < 24 → Trm sg d) ∧ (24 ≤ i → d = vt i) ∧ (Trm sg (C i) → i < 24 → d = C i) := fun i => by
          by_cases hi : i < 24
          · by_cases ht : Trm sg (C i)
            · exact ⟨C i, fun _ => ht, fun h => absurd hi (by omega), fun _ _ => rfl⟩
            · exact ⟨vt i, fun _ => Trm.vt hi, fun _ => rfl, fun h _ => absurd h ht⟩
          · exact ⟨vt i, fun h => absurd h hi, fun _ => rfl, fun _ h => absurd h hi⟩
        refine ⟨fun i => (hch i).choose, ⟨fun i hi => (hch i).choose_spec.1 hi, fun i hi => (hch i).choose_spec.2.1 hi⟩, ?_⟩
        refine fill_ext (fun x hx h0 => ?_)
        have := term_mem hp hx
        exact (hch (vr x)).choose_spec.2.2 (hC x hx h0) (by unfold vr; omega)
      obtain ⟨A', sA, qA⟩ := mk A hA
      obtain ⟨B', sB, qB⟩ := mk B hB
      obtain ⟨M, hM⟩ := gt_least (gs_nodup h List.nodup_nil) sA sB
      obtain ⟨m1, m2⟩ := hM (p := p) (n := 1) (g := g) (term_parts hp).2.2 (by rw [qA, qB, eA, eB]; exact ht)
      exact (inst_iff hp tg).2 ⟨M, m1, fun x hx h0 => gt_scan h24 (m2 x hx h0)⟩
    · rw [if_neg h24] at e
      exact absurd e hg
  · exact absurd e hg

/-! ### terms that are met -/
/-- b is shifted by k; the filled term, renamed, is an instance of both -/
theorem met_facts {sg a b x : List Int} {k : Nat} {L : Nat → List Int} (hx : x = shiftL (k : Int) b) (ha : termOkB sg a = true) (hb : termOkB sg b = true) (hxo : termOkB sg x = true) (m : Mg sg a x L) (s : Short sg a x L) :
    instB sg a (renL (fillL L a)) = true ∧ instB sg b (renL (fillL L a)) = true ∧ renL (renL (fillL L a)) = renL (fillL L a) ∧ termOkB sg (renL (fillL L a)) = true := by
  have ht : termOkB sg (fillL L a) = true := term_mk (term_parts ha).1 s.all (m.sub.fill (term_parts ha).2.2)
  have hr := ren_ok ht
  have hv := inst_variant ht hr (ren_ren _).symm
  have i1 : instB sg a (fillL L a) = true := (inst_iff ha ht).2 ⟨L, rfl, fun y hy h0 => m.sub.trm _ (by have := term_mem ha hy; unfold vr; omega)⟩
  have i2 : instB sg b (fillL L a) = true := by
    have e : fillL L a = fillL (fun i => fillL L (vt (i + k))) b := by rw [← fill_fill, shift_fill, ← hx]; exact m.eq
    refine (inst_iff hb ht).2 ⟨_, e.symm, fun y hy h0 => ?_⟩
    show scan sg 1 (fillL L (vt (vr y + k))) = some (fillL L (vt (vr y + k))).length
    rw [fill_vti]
    have hy2 : sh (k : Int) y ∈ x := by rw [hx]; exact List.mem_map_of_mem hy
    have := term_mem hxo hy2
    exact m.sub.trm _ (by unfold sh at this; rw [if_pos h0] at this; unfold vr; omega)
  exact ⟨inst_trans i1 hv, inst_trans i2 hv, ren_ren _, hr⟩
end Go.Proofs.Ytkmhnkljigncmaa.unifLaw
end

section
/-
  CONTRACTS: spec.l5Least: the least general pattern of two right terms, none where it would need too many variables; spec.Generalised (what is told of the two lists is given: 'IsG'). Conditions: the slices read as lists, at most 1048576 numbers. By an AI agent.
-/
namespace Go.Proofs.Ytkmhnkljigncmaa.general
open Go.RowKit Go.Proofs.Ytkmhnkljigncmaa.base Go.Proofs.Ytkmhnkljigncmaa.ints Go.Proofs.Ytkmhnkljigncmaa.sig Go.Proofs.Ytkmhnkljigncmaa.cursor Go.Proofs.Ytkmhnkljigncmaa.marks Go.Proofs.Ytkmhnkljigncmaa.app Go.Proofs.Ytkmhnkljigncmaa.appAt Go.Proofs.Ytkmhnkljigncmaa.sym Go.Proofs.Ytkmhnkljigncmaa.segs Go.Proofs.Ytkmhnkljigncmaa.segsHelp Go.Proofs.Ytkmhnkljigncmaa.term Go.Proofs.Ytkmhnkljigncmaa.args Go.Proofs.Ytkmhnkljigncmaa.sub Go.Proofs.Ytkmhnkljigncmaa.look Go.Proofs.Ytkmhnkljigncmaa.plain Go.Proofs.Ytkmhnkljigncmaa.unifMath Go.Proofs.Ytkmhnkljigncmaa.genMath Go.Proofs.Ytkmhnkljigncmaa.genPos Go.Proofs.Ytkmhnkljigncmaa.genTab Go.Proofs.Ytkmhnkljigncmaa.genSpec Go.Proofs.Ytkmhnkljigncmaa.genMain Go.Proofs.Ytkmhnkljigncmaa.termOk Go.Proofs.Ytkmhnkljigncmaa.termFacts Go.Proofs.Ytkmhnkljigncmaa.termMath Go.Proofs.Ytkmhnkljigncmaa.endAt Go.Proofs.Ytkmhnkljigncmaa.unifLaw
set_option maxRecDepth 100000

theorem owns_empty {w : World} {lo hi g : Nat} (hr : Row w g 24 #[]) (h1 : lo ≤ g) (h2 : g < hi) : Owns w lo hi (some ⟨g, 0, none⟩) 0 0 [] :=
  ⟨rfl, ⟨[], by have := rowsOf (n := 0) (c := 0) hr rfl (Nat.le_refl _) (by omega) h1; simpa using this, fun j hj => absurd hj (Nat.not_lt_zero _), fun i j k _ hj => absurd hj (Nat.not_lt_zero _)⟩, fun k hk => by
    have hk : g = k := Option.some.inj hk
    omega⟩
theorem sub_all {sg t : List Int} (h : Trm sg t) : subL sg t 0 = t := by
  unfold subL
  rw [List.drop_zero, len1_eq (j := t.length) (by rw [List.drop_zero]; exact h), List.take_length]

set_option maxHeartbeats 2000000 in
theorem l5Least (A P Q : Option Addr) (n c m mc k kc : Nat) (sg a b : List Int) (w : World) (h : Seg w w.heap.size A n sg) (hp : Seg w w.heap.size P m a) (hq : Seg w w.heap.size Q k b) (hn : n ≤ 1048576) (hm : m ≤ 1048576) (hk : k ≤ 1048576) (hcm : m ≤ mc ∧ mc ≤ 9223372036854775807) (hck : k ≤ kc ∧ kc ≤ 9223372036854775807) (hs : Arities sg)
    (ha : Trm sg a) (hb : Trm sg b) (G : List Int) (T' : Tb) (hG : Gs sg [] 1 a b G T') :
    Calls Try.prog 79 #[.agg #[.slice A n c], .slice P m mc, .slice Q k kc] w (AnsList w (if T'.length ≤ 24 then G else [])) := by
  obtain ⟨W, hW⟩ : ∃ W, W = ((w.alloc (.cells #[.slice A n c] 26)).alloc (.cells #[] 24)).alloc (.cells #[] 24) := ⟨_, rfl⟩
  have z : W.heap.size = w.heap.size + 1 + 1 + 1 := by rw [hW]; simp
  have bW : Below w.heap.size w W := by rw [hW]; exact (((Below.refl _ _).alloc (Nat.le_refl _) _).alloc (by simp) _).alloc (by simp; omega) _
  have r1 : Row W (w.heap.size + 1) 24 #[] := by
    rw [hW]
    have := (Row.new (w.alloc (.cells #[.slice A n c] 26)) 24 #[]).alloc (.cells #[] 24)
    simpa using this
  have r2 : Row W (w.heap.size + 1 + 1) 24 #[] := by
    rw [hW]
    have := Row.new ((w.alloc (.cells #[.slice A n c] 26)).alloc (.cells #[] 24)) 24 #[]
    simpa using this
  have tabs : Tabs W (w.heap.size + 1) (some ⟨w.heap.size + 1, 0, none⟩) 0 0 (some ⟨w.heap.size + 1 + 1, 0, none⟩) 0 [] := by
    refine ⟨owns_empty r1 (Nat.le_refl _) (by omega), owns_empty r2 (by omega) (by omega), fun k hk e => ?_⟩
    have h1 : w.heap.size + 1 = k := Option.some.inj hk
    have h2 : w.heap.size + 1 + 1 = k := Option.some.inj e
    omega
  have la := hp.1
  have C := Lib.hid (l5General A P Q n c m mc k kc (w.heap.size + 1) sg a b hn hm hk hcm hck hs a.length (some ⟨w.heap.size + 1, 0, none⟩) (some ⟨w.heap.size + 1 + 1, 0, none⟩) 0 0 0 0 0 a.length b.length [] W ((h.below bW).more (Nat.le_succ _)) ((hp.below bW).more (Nat.le_succ _)) ((hq.below bW).more (Nat.le_succ _)) tabs (by omega) (fun x hx => absurd hx (List.not_mem_nil)) (by simp only [List.length_nil]; omega) (by rw [List.drop_zero]; exact ha) (by rw [List.drop_zero]; exact hb) (Nat.le_refl _))
  rw [sub_all ha, sub_all hb] at C
  have HG := Lib.hid hG
  obtain ⟨ys, hys⟩ : ∃ ys, (if T'.length ≤ 24 then G else []) = ys := ⟨_, rfl⟩
  rw [hys]
  have HY := Lib.hid hys
  clear hys
  have HW := Lib.hid hW
  have HB := Lib.hid bW
  have HZ := Lib.hid z
  clear h hp hq ha hb hG hW bW tabs r1 r2 la hs z
  go_enter Try.func79, Try.ntmps79
  go_wp2_with fail
  rw [← HW.out]
  refine C.out.mono ?_
  rintro e w1 ⟨g, T2, O, L2, R2, on, oc, n2, lc2, rc2, rfl, ho, hgs, ht, htwo, -, -, -⟩
  obtain ⟨e1, e2⟩ := gs_one hgs List.nodup_nil HG.out
  subst e1 e2
  have hn2 : T2.length = n2 := ht.len
  have b1 : Below w.heap.size w w1 := HB.out.trans (htwo.below (fun k hk => by have : w.heap.size + 1 = k := Option.some.inj hk; omega) (fun k hk => by have : w.heap.size + 1 + 1 = k := Option.some.inj hk; omega) HB.out.size)
  by_cases h24 : T2.length ≤ 24
  · have hy := HY.out
    rw [if_pos h24] at hy
    subst hy
    have F := Lib.hid (show AnsList w g (.returned (.slice O on oc)) w1 from ⟨O, on, oc, rfl, Own.lower ho HB.out.size, b1⟩)
    clear ho hgs ht htwo b1 C
    go_wp2
    go_ret
    exact F.out
  · have hy := HY.out
    rw [if_neg h24] at hy
    subst hy
    have F := Lib.hid (show AnsList w [] (.returned (.slice (some ⟨w1.heap.size, 0, none⟩) 0 0)) (w1.alloc (.cells #[] 2)) from ⟨_, 0, 0, rfl, own_empty w1 _ b1.size, b1.alloc b1.size _⟩)
    clear ho hgs ht htwo b1 C
    go_wp2
    go_ret
    exact F.out
/-- what stands in the course of a call with a boxed signature -/
structure Gr (w wr : World) (A : Option Addr) (n c : Nat) (sg : List Int) (P : Option Addr) (m : Nat) (a : List Int) (Q : Option Addr) (k : Nat) (b : List Int) : Prop where
  r0 : Row wr w.heap.size 26 #[.slice A n c]
  s : Seg wr wr.heap.size A n sg
  pa : Seg wr wr.heap.size P m a
  qb : Seg wr wr.heap.size Q k b
  b : Below w.heap.size w wr
theorem Gr.next {w wr w' : World} {A : Option Addr} {n c : Nat} {sg : List Int} {P : Option Addr} {m : Nat} {a : List Int} {Q : Option Addr} {k : Nat} {b : List Int} (h : Gr w wr A n c sg P m a Q k b) (hb : Below wr.heap.size wr w') : Gr w w' A n c sg P m a Q k b :=
  ⟨h.r0.next hb, h.s.next hb, h.pa.next hb, h.qb.next hb, next_trans h.b hb⟩
theorem isG_off {sg a b g : List Int} (h : IsG sg a b g) (ho : termOkB sg a = false ∨ termOkB sg b = false) : g = [] := by
  rcases h with ⟨h1, h2, _⟩ | ⟨_, e⟩
  · rcases ho with h | h
    · rw [h1] at h; cases h
    · rw [h2] at h; cases h
  · exact e

set_option maxHeartbeats 2000000 in
theorem specGeneralised (A P Q : Option Addr) (n c m mc k kc : Nat) (sg a b : List Int) (w : World) (ys : List Int) (hG : IsG sg a b ys) (h : Seg w w.heap.size A n sg) (hp : Seg w w.heap.size P m a) (hq : Seg w w.heap.size Q k b) (hn : n ≤ 1048576) (hm : m ≤ 1048576) (hk : k ≤ 1048576) (hcm : m ≤ mc ∧ mc ≤ 9223372036854775807) (hck : k ≤ kc ∧ kc ≤ 9223372036854775807) :
    Calls Try.prog 27 #[.agg #[.slice A n c], .slice P m mc, .slice Q k kc] w (AnsList w ys) := by
  obtain ⟨W, hW⟩ : ∃ W, W = w.alloc (.cells #[.slice A n c] 26) := ⟨_, rfl⟩
  have b0 : Below w.heap.size w W := by rw [hW]; exact (Below.refl _ _).alloc (Nat.le_refl _) _
  have M : Gr w W A n c sg P m a Q k b := ⟨by rw [hW]; exact Row.new _ _ _, h.next b0, hp.next b0, hq.next b0, b0⟩
  have HW := Lib.hid hW
  have HG := Lib.hid hG
  have L1 := Lib.hid (specTermOk A P n c m mc sg a W M.s M.pa hn hm)
  have L2 := Lib.hid (fun w' (M : Gr w w' A n c sg P m a Q k b) => specTermOk A Q n c k kc sg b w' M.s M.qb hn hk)
  have c0 : (w.alloc (.cells #[.slice A n c] 26)).cell? ⟨w.heap.size, 0, none⟩ = some (.slice A n c) := by rw [← hW]; exact M.r0.cell 0
  clear hG hW h hp hq b0
  obtain ⟨va, hva⟩ : ∃ v, termOkB sg a = v := ⟨_, rfl⟩
  obtain ⟨vb, hvb⟩ : ∃ v, termOkB sg b = v := ⟨_, rfl⟩
  have HA := Lib.hid hva
  have HB := Lib.hid hvb
  clear hva hvb
  cases va with
  | false =>
    go_enter Try.func27, Try.ntmps27
    go_wp2_with fail
    rw [← HW.out]
    refine L1.out.mono ?_
    rintro e w1 ⟨he, bb⟩
    rw [HA.out] at he
    subst he
    replace M := M.next bb
    obtain rfl := isG_off HG.out (.inl HA.out)
    have F := Lib.hid (show AnsList w [] (.returned (.slice (some ⟨w1.heap.size, 0, none⟩) 0 0)) (w1.alloc (.cells #[] 2)) from ⟨_, 0, 0, rfl, own_empty w1 _ M.b.size, M.b.alloc M.b.size _⟩)
    clear M bb L1 L2
    go_wp2
    go_ret
    exact F.out
  | true =>
    cases vb with
    | false =>
      go_enter Try.func27, Try.ntmps27
      go_wp2_with fail
      rw [← HW.out]
      refine L1.out.mono ?_
      rintro e w1 ⟨he, bb⟩
      rw [HA.out] at he
      subst he
      replace M := M.next bb
      have c1 := M.r0.cell 0
      clear bb c0
      go_wp2_with fail
      refine (L2.out w1 M).mono ?_
      rintro e w2 ⟨he, bb⟩
      rw [HB.out] at he
      subst he
      replace M := M.next bb
      obtain rfl := isG_off HG.out (.inr HB.out)
      have F := Lib.hid (show AnsList w [] (.returned (.slice (some ⟨w2.heap.size, 0, none⟩) 0 0)) (w2.alloc (.cells #[] 2)) from ⟨_, 0, 0, rfl, own_empty w2 _ M.b.size, M.b.alloc M.b.size _⟩)
      clear M bb L1 L2 c1
      go_wp2
      go_ret
      exact F.out
    | true =>
      have hars := (sig_arities (termOk_parts HA.out).1).1
      obtain ⟨G, T', hgs, hys⟩ : ∃ G T', Gs sg [] 1 a b G T' ∧ ys = if T'.length ≤ 24 then G else [] := by
        rcases HG.out with ⟨_, _, h⟩ | ⟨h, _⟩
        · exact h
        · rw [HA.out, HB.out] at h
          rcases h with h | h <;> cases h
      have LL := Lib.hid (fun w' (M : Gr w w' A n c sg P m a Q k b) => l5Least A P Q n c m mc k kc sg a b w' M.s M.pa M.qb hn hm hk hcm hck hars (term_parts HA.out).2.2 (term_parts HB.out).2.2 G T' hgs)
      rw [← hys] at LL
      clear hys hgs hars
      go_enter Try.func27, Try.ntmps27
      go_wp2_with fail
      rw [← HW.out]
      refine L1.out.mono ?_
      rintro e w1 ⟨he, bb⟩
      rw [HA.out] at he
      subst he
      replace M := M.next bb
      have c1 : w1.cell? ⟨w.heap.size, 0, none⟩ = some (.slice A n c) := M.r0.cell 0
      clear bb c0
      go_wp2_with fail
      refine (L2.out w1 M).mono ?_
      rintro e w2 ⟨he, bb⟩
      rw [HB.out] at he
      subst he
      replace M := M.next bb
      have c2 : w2.cell? ⟨w.heap.size, 0, none⟩ = some (.slice A n c) := M.r0.cell 0
      clear bb c1
      go_wp2_with fail
      refine (LL.out w2 M).mono ?_
      rintro e w3 ⟨D, dn, dc, rfl, od, bb⟩
      have F := Lib.hid (show AnsList w ys (.returned (.slice D dn dc)) w3 from ⟨D, dn, dc, rfl, Own.lower od M.b.size, next_trans M.b bb⟩)
      clear M bb L1 L2 LL c2 od
      go_wp2
      go_ret
      exact F.out
end Go.Proofs.Ytkmhnkljigncmaa.general
end

section
/-
  CONTRACT: impl.Generalised. Conditions: the slices read as lists ('Seg'), at most 1048576 numbers; what is told is given ('IsG'). By an AI agent.
-/
namespace Go.Proofs.Ytkmhnkljigncmaa.genImpl
open Go.RowKit Go.Proofs.Ytkmhnkljigncmaa.base Go.Proofs.Ytkmhnkljigncmaa.ints Go.Proofs.Ytkmhnkljigncmaa.same Go.Proofs.Ytkmhnkljigncmaa.sig Go.Proofs.Ytkmhnkljigncmaa.cursor Go.Proofs.Ytkmhnkljigncmaa.marks Go.Proofs.Ytkmhnkljigncmaa.app Go.Proofs.Ytkmhnkljigncmaa.appAt Go.Proofs.Ytkmhnkljigncmaa.sym Go.Proofs.Ytkmhnkljigncmaa.segs Go.Proofs.Ytkmhnkljigncmaa.segsHelp Go.Proofs.Ytkmhnkljigncmaa.kinds Go.Proofs.Ytkmhnkljigncmaa.term Go.Proofs.Ytkmhnkljigncmaa.termOk Go.Proofs.Ytkmhnkljigncmaa.termFacts Go.Proofs.Ytkmhnkljigncmaa.termMath Go.Proofs.Ytkmhnkljigncmaa.endAt Go.Proofs.Ytkmhnkljigncmaa.sub Go.Proofs.Ytkmhnkljigncmaa.look Go.Proofs.Ytkmhnkljigncmaa.plain Go.Proofs.Ytkmhnkljigncmaa.curO Go.Proofs.Ytkmhnkljigncmaa.unifMath Go.Proofs.Ytkmhnkljigncmaa.genMath Go.Proofs.Ytkmhnkljigncmaa.genPos Go.Proofs.Ytkmhnkljigncmaa.genTab Go.Proofs.Ytkmhnkljigncmaa.genRec Go.Proofs.Ytkmhnkljigncmaa.appZ Go.Proofs.Ytkmhnkljigncmaa.unifLaw Go.Proofs.Ytkmhnkljigncmaa.general Go.Proofs.Ytkmhnkljigncmaa.genSt Go.Proofs.Ytkmhnkljigncmaa.genNext
set_option maxRecDepth 100000

/-- a list of numbers of the call's own stays over a step -/
theorem own_two {w w' : World} {g base : Nat} {D O : Option Addr} {on oc : Nat} {xs : List Int} {cs : Array Value} (ho : Own w base (.slice O on oc) xs) (hr : Row w g 85 cs) (hD : ∀ k, blk D = some k → ∃ cs, Row w k 24 cs) (h : Two w w' (some ⟨g, 0, none⟩) D) : Own w' base (.slice O on oc) xs := by
  obtain ⟨h1, h2⟩ := ho
  refine ⟨h1, ?_⟩
  rcases h2 with h2 | ⟨z, cap, cur, e, hb, hg, hn, hm, hs, ht⟩
  · exact .inl h2
  · refine .inr ⟨z, cap, cur, e, hb, Two.row h hg (fun e => ?_) (fun e => ?_), hn, hm, hs, ht⟩
    · injection e with e
      rw [← e] at hg
      exact Row.ne_ hg hr (by decide) rfl
    · obtain ⟨cs, hc⟩ := hD z e
      exact Row.ne_ hg hc (by decide) rfl

/-- where terms are still to come a term begins -/
theorem front {sg l : List Int} {q : Nat} (h : scan sg q l = some l.length) (hl : 0 < l.length) : ∃ q1 p, q = q1 + 1 ∧ scan sg 1 l = some p ∧ 1 ≤ p ∧ p ≤ l.length ∧ scan sg q1 (l.drop p) = some (l.drop p).length := by
  cases q with
  | zero => rw [scan_zero] at h; injection h with h; omega
  | succ q1 =>
    obtain ⟨s, r, e, hs, hr⟩ := seq_front h
    subst e
    refine ⟨q1, s.length, rfl, scan_append hs, hs.pos, by simp, ?_⟩
    rw [List.drop_left]
    exact hr
theorem none_left {sg l : List Int} {q : Nat} (h : scan sg q l = some l.length) (hl : l.length = 0) : q = 0 := by
  cases q with
  | zero => rfl
  | succ q =>
    rw [List.eq_nil_of_length_eq_zero hl] at h
    rw [scan_nil] at h
    cases h
/-- what is known on the way: what remains completes what was found -/
structure Run (sg a b : List Int) (i j q : Nat) (T : Tb) (R : List Int) : Prop where
  sa : scan sg q (a.drop i) = some (a.drop i).length
  sb : scan sg q (b.drop j) = some (b.drop j).length
  li : i ≤ a.length
  lj : j ≤ b.length
  fin : ∀ G2 T2, Gs sg T q (a.drop i) (b.drop j) G2 T2 → Gs sg [] 1 a b (R ++ G2) T2
  fine : Fine2 sg T
  tl : T.length ≤ i
  rl : R.length ≤ i
theorem Run.start {sg a b : List Int} (ha : Trm sg a) (hb : Trm sg b) : Run sg a b 0 0 1 [] [] :=
  ⟨by rw [List.drop_zero]; exact ha, by rw [List.drop_zero]; exact hb, Nat.zero_le _, Nat.zero_le _, fun G2 T2 h => by simpa using h, fun x hx => absurd hx (List.not_mem_nil), by simp, by simp⟩
theorem drop_at {a : List Int} {i : Nat} {x : Int} (hi : i < a.length) (hx : a.getD i 0 = x) : a.drop i = x :: a.drop (i + 1) := by rw [drop_cons hi, hx]
theorem Run.sym {sg a b : List Int} {i j q : Nat} {T : Tb} {R : List Int} {x : Int} (h : Run sg a b i j (q + 1) T R) (hi : i < a.length) (hj : j < b.length) (h0 : 0 ≤ x) (ea : a.getD i 0 = x) (eb : b.getD j 0 = x) : Run sg a b (i + 1) (j + 1) (q + (ar sg x).toNat) T (R ++ [x]) := by
  have da := drop_at hi ea
  have db := drop_at hj eb
  have ha := h.sa
  have hb := h.sb
  rw [da] at ha
  rw [db] at hb
  have har : ¬ ar sg x < 0 := fun e => by rw [scan_bad e] at ha; cases ha
  rw [scan_step har, Option.map_eq_some_iff] at ha hb
  obtain ⟨za, ha1, ha2⟩ := ha
  obtain ⟨zb, hb1, hb2⟩ := hb
  simp only [List.length_cons] at ha2 hb2
  refine ⟨by rw [ha1]; congr 1; omega, by rw [hb1]; congr 1; omega, hi, hj, fun G2 T2 hG => ?_, h.fine, Nat.le_succ_of_le h.tl, by rw [List.length_append]; have := h.rl; simp; omega⟩
  rw [List.append_assoc]
  refine h.fin _ _ ?_
  rw [da, db]
  exact Gs.sym h0 har hG
theorem Run.pair {sg a b : List Int} {i j q p p' : Nat} {T T' : Tb} {R : List Int} {x : Int} (h : Run sg a b i j (q + 1) T R) (hp : scan sg 1 (a.drop i) = some p) (hp' : scan sg 1 (b.drop j) = some p') (h1 : 1 ≤ p) (hpa : p ≤ (a.drop i).length) (hpb : p' ≤ (b.drop j).length) (ha : scan sg q ((a.drop i).drop p) = some ((a.drop i).drop p).length) (hb : scan sg q ((b.drop j).drop p') = some ((b.drop j).drop p').length) (hf : Fine2 sg T') (ht : T'.length ≤ T.length + 1)
    (hG : Gs sg T 1 (subL sg a i) (subL sg b j) [x] T') : Run sg a b (i + p) (j + p') q T' (R ++ [x]) := by
  have la := h.li
  have lb := h.lj
  rw [List.length_drop] at hpa hpb
  have ea : subL sg a i = (a.drop i).take p := by unfold subL; rw [len1_eq hp]
  have eb : subL sg b j = (b.drop j).take p' := by unfold subL; rw [len1_eq hp']
  rw [List.drop_drop] at ha hb
  refine ⟨ha, hb, by omega, by omega, fun G2 T2 hG2 => ?_, hf, by have := h.tl; omega, by rw [List.length_append]; have := h.rl; simp; omega⟩
  rw [List.append_assoc]
  refine h.fin _ _ ?_
  have := gs_comp hG hG2
  rw [ea, eb] at this
  rw [← List.drop_drop, ← List.drop_drop] at this
  rw [List.take_append_drop, List.take_append_drop, Nat.add_comm] at this
  exact this
theorem Run.end {sg a b : List Int} {i j q : Nat} {T : Tb} {R : List Int} (h : Run sg a b i j q T R) (hi : i = a.length) : Gs sg [] 1 a b R T := by
  have hq := none_left h.sa (by rw [List.length_drop]; omega)
  subst hq
  have hb := h.sb
  rw [scan_zero] at hb
  injection hb with hb
  have e1 : a.drop i = [] := List.drop_eq_nil_of_le (by omega)
  have e2 : b.drop j = [] := List.eq_nil_of_length_eq_zero hb.symm
  have := h.fin [] T (by rw [e1, e2]; exact Gs.nil T)
  rwa [List.append_nil] at this

/-- one variable: at most one pair more -/
theorem gs_len1 {sg : List Int} {T T' : Tb} {u w : List Int} {x : Int} (h : Gs sg T 1 u w [x] T') : T'.length ≤ T.length + 1 := by
  have key : ∀ {n : Nat} {T T' : Tb} {u w g : List Int}, Gs sg T n u w g T' → T'.length ≤ T.length + g.length := by
    intro n T T' u w g h
    induction h with
    | nil T => simp
    | sym _ _ _ ih => simp only [List.length_cons]; omega
    | old _ _ _ _ _ ih => simp only [List.length_cons]; omega
    | new _ _ _ _ _ ih => simp only [List.length_append, List.length_cons, List.length_nil] at ih ⊢; omega
  have := key h
  simpa using this
/-- the head of the loop -/
def HeadG (w : World) (g : Nat) (A : Option Addr) (n c : Nat) (sg : List Int) (P : Option Addr) (m mc : Nat) (a : List Int) (Q : Option Addr) (k kc : Nat) (b : List Int) (f : Nat) (r : Value) (wr : World) : Prop :=
  ∃ (i j q dn dc : Nat) (D : Option Addr) (T : Tb) (R : List Int) (O : Option Addr) (on oc : Nat), r = .slice O on oc ∧ Gn wr g wr.heap.size A n c sg P m mc a i Q k kc b j D dn dc (T.map cat) ∧ Run sg a b i j q T R ∧ Own wr (g + 1) (.slice O on oc) R ∧ Avoid (fun z => blk O = some z) wr D dn ∧ i + f = m ∧ Below w.heap.size w wr

set_option maxHeartbeats 2000000 in
/-- the loop's round behind the append -/
theorem head_step {w w3 w4 w5 : World} {g : Nat} {A : Option Addr} {n c : Nat} {sg : List Int} {P : Option Addr} {m mc : Nat} {a : List Int} {Q : Option Addr} {k kc : Nat} {b : List Int} {i i' j j' q' dn dn' dc' : Nat} {D D' : Option Addr} {T' : Tb} {R : List Int} {O O' : Option Addr} {on oc on' oc' : Nat} {x : Int} {xss : List (List Int)} {hi dc : Nat}
    (hw3 : w.heap.size ≤ g) (G3 : Gn w3 g hi A n c sg P m mc a i Q k kc b j D dn dc xss) (o3 : Own w3 (g + 1) (.slice O on oc) R) (a3 : Avoid (fun z => blk O = some z) w3 D dn) (b3 : Below w.heap.size w w3)
    (G4 : Gn w4 g w4.heap.size A n c sg P m mc a i' Q k kc b j' D' dn' dc' (T'.map cat)) (t4 : Two w3 w4 (some ⟨g, 0, none⟩) D) (hD : ∀ z, blk D' = some z → z < w3.heap.size → blk D = some z) (av : ∀ Z : Nat → Prop, (∀ z, Z z → z < w3.heap.size) → Avoid Z w3 D dn → Avoid Z w4 D' dn') (hR : Run sg a b i' j' q' T' (R ++ [x]))
    (o5 : Own w5 (g + 1) (.slice O' on' oc') (R ++ [x])) (g5 : (w4.alloc (.cells #[.int .i64 x] 2)).grownBy w5 (blk O)) (at5 : blk O' = blk O ∨ blk O' = some (w4.alloc (.cells #[.int .i64 x] 2)).heap.size) :
    HeadG w g A n c sg P m mc a Q k kc b (m - i') (.slice O' on' oc') w5 := by
  obtain ⟨W, hW⟩ : ∃ W, W = w4.alloc (.cells #[.int .i64 x] 2) := ⟨_, rfl⟩
  rw [← hW] at g5 at5
  have bW : Below w4.heap.size w4 W := by rw [hW]; exact (Below.refl _ _).alloc (Nat.le_refl _) _
  have rowD : ∀ z, blk D = some z → ∃ cs, Row w3 z 24 cs := fun z hz => (topRow G3.o z hz).1
  have o4 : Own w4 (g + 1) (.slice O on oc) R := own_two o3 G3.row rowD t4
  have a4 := av _ (fun z hz => (ownRow o3 z hz).2.2) a3
  have GW := G4.next bW
  have oW : Own W (g + 1) (.slice O on oc) R := Own.next o4 bW
  have aW : Avoid (fun z => blk O = some z) W D' dn' := a4.keep fun b' y e => bW.cell (p := ⟨b', y, none⟩) (topRow G4.o b' (by rw [e]; rfl)).2.2
  have hOg : ∀ z, blk O = some z → g + 1 ≤ z ∧ z < W.heap.size := fun z hz => (ownRow oW z hz).2
  have hne : ∀ z, blk D' = some z → blk O ≠ some z := fun z hz e => by
    obtain ⟨cs, h1⟩ := (topRow GW.o z hz).1
    obtain ⟨⟨cs2, h2⟩, _⟩ := ownRow oW z e
    exact Row.ne_ h2 h1 (by decide) rfl
  have B5 : Below (g + 1) W w5 := (Below.refl (g + 1) W).grown g5 (by have := GW.lt; omega) (fun z hz => (hOg z hz).1)
  have o5' : Owns w5 (g + 1) w4.heap.size D' dn' dc' (T'.map cat) := Avoid.owns GW.o aW (fun z hz => hne z hz) g5
  have G5 : Gn w5 g w5.heap.size A n c sg P m mc a i' Q k kc b j' D' dn' dc' (T'.map cat) :=
    ⟨Row.away GW.row g5 (fun e => by have := (hOg g e).1; omega), GW.s.below (B5.mono (Nat.le_succ _)), GW.pa.below (B5.mono (Nat.le_succ _)), GW.qb.below (B5.mono (Nat.le_succ _)), o5'.wider (Nat.le_refl _) (by have := g5.size; have := bW.size; omega), Nat.le_refl _, GW.li, GW.lj, GW.hn, GW.hm, GW.hk, GW.ars⟩
  have hgz : ∀ z, blk (some (⟨g, 0, none⟩ : Addr)) = some z → w.heap.size ≤ z := fun z hz => by
    have e : g = z := by simpa [blk] using hz
    omega
  have b4 : Below w.heap.size w3 w4 := Two.below t4 hgz (fun z hz => by have := (topRow G3.o z hz).2.1; omega) (by have := b3.size; omega)
  refine ⟨i', j', q', dn', dc', D', T', R ++ [x], O', on', oc', rfl, G5, hR, o5, ?_, by have := G5.li; omega, (b3.trans b4).trans ((bW.mono (by have := b3.size; have := b4.size; omega)).trans (B5.mono (by omega)))⟩
  rcases at5 with e | e
  · rw [e]
    exact aW.keep fun b' y eD => World.cell?_of_block (g5.block b' (topRow GW.o b' (by rw [eD]; rfl)).2.2 (fun e2 => hne b' (by rw [eD]; rfl) e2.symm))
  · refine Avoid.fresh o5' (fun z hz => ?_)
    rw [e] at hz
    injection hz with hz
    have := bW.size
    omega

theorem gn_next (g : Nat) (A : Option Addr) (n c : Nat) (sg : List Int) (P : Option Addr) (m mc : Nat) (a : List Int) (Q : Option Addr) (k kc : Nat) (b : List Int) (w wr : World) (i j q dn dc : Nat) (D : Option Addr) (T : Tb) (R : List Int) (hG : Gn wr g wr.heap.size A n c sg P m mc a i Q k kc b j D dn dc (T.map cat)) (hR : Run sg a b i j q T R) (hi : i < m) (hm60 : m ≤ 60) (hk60 : k ≤ 60) (hmc : m ≤ mc) (hmc2 : mc ≤ 9223372036854775807) (hkc : k ≤ kc) (hkc2 : kc ≤ 9223372036854775807) :
    Calls Try.prog 78 #[.pointer (some ⟨g, 0, none⟩)] wr fun e w' =>
      ∃ (x : Int) (i' j' q' : Nat) (D' : Option Addr) (dn' dc' : Nat) (T' : Tb), e = .returned (.int .i64 x) ∧ Gn w' g w'.heap.size A n c sg P m mc a i' Q k kc b j' D' dn' dc' (T'.map cat) ∧ Two wr w' (some ⟨g, 0, none⟩) D ∧ (∀ z, blk D' = some z → z < wr.heap.size → blk D = some z) ∧
        (∀ Z : Nat → Prop, (∀ z, Z z → z < wr.heap.size) → Avoid Z wr D dn → Avoid Z w' D' dn') ∧ Run sg a b i' j' q' T' (R ++ [x]) ∧ i < i' := by
  have la := hG.pa.1
  have lb := hG.qb.1
  have l1 : 0 < (a.drop i).length := by rw [List.length_drop]; omega
  obtain ⟨q1, p, hq, hp, hp1, hpl, hpr⟩ := front hR.sa l1
  subst hq
  have l2 : 0 < (b.drop j).length := by
    cases hb : b.drop j with
    | nil => have h := hR.sb; rw [hb, scan_nil] at h; cases h
    | cons _ _ => simp
  obtain ⟨q2, p', hq2, hp', hp1', hpl', hpr'⟩ := front hR.sb l2
  obtain rfl : q1 = q2 := by omega
  have hj : j < k := by rw [List.length_drop] at l2; omega
  rw [List.length_drop] at hpl hpl'
  refine (next g A n c sg P m mc a i Q k kc b j D dn dc T wr hG hR.fine hi hj p p' hp hp' (by omega) (by omega) hp1 hp1' hm60 hk60 hmc hmc2 hkc hkc2 (by have := hR.tl; omega)).mono ?_
  rintro e w' ⟨x, i', j', D', dn', dc', T', he, hG', hf, ht, hD, hav, ⟨h0, ea, eb, rfl, rfl, rfl⟩ | ⟨ei, ej, hg⟩⟩
  · exact ⟨x, _, _, _, D', dn', dc', T', he, hG', ht, hD, hav, hR.sym (by omega) (by omega) h0 ea eb, Nat.lt_succ_self _⟩
  · have e1 : (subL sg a i).length = p := by unfold subL; rw [len1_eq hp, List.length_take, List.length_drop]; omega
    have e2 : (subL sg b j).length = p' := by unfold subL; rw [len1_eq hp', List.length_take, List.length_drop]; omega
    rw [e1] at ei
    rw [e2] at ej
    subst ei
    subst ej
    have hlen : T'.length ≤ T.length + 1 := by
      have := gs_len1 hg
      omega
    exact ⟨x, _, _, _, D', dn', dc', T', he, hG', ht, hD, hav, hR.pair hp hp' hp1 (by rw [List.length_drop]; omega) (by rw [List.length_drop]; omega) hpr hpr' hf hlen hg, by omega⟩

theorem one_seg (w : World) (y : Int) : Seg (w.alloc (.cells #[.int .i64 y] 2)) (w.alloc (.cells #[.int .i64 y] 2)).heap.size (some ⟨w.heap.size, 0, none⟩) 1 [y] :=
  (Row.new w 2 #[.int .i64 y]).seg (n := 1) rfl (Row.new w 2 #[.int .i64 y]).lt (fun j hj => by
    match j, hj with
    | 0, _ => rfl)
theorem isG_run {sg a b ys R : List Int} {T : Tb} (h : IsG sg a b ys) (ha : termOkB sg a = true) (hb : termOkB sg b = true) (hR : Gs sg [] 1 a b R T) : ys = if T.length ≤ 24 then R else [] :=
  isG_one h (.inl ⟨ha, hb, R, T, hR, rfl⟩)

set_option maxHeartbeats 4000000 in
theorem implGeneralised (A P Q : Option Addr) (n c m mc k kc : Nat) (sg a b : List Int) (w : World) (ys : List Int) (hG : IsG sg a b ys) (h : Seg w w.heap.size A n sg) (hp : Seg w w.heap.size P m a) (hq : Seg w w.heap.size Q k b) (hn : n ≤ 1048576) (hm : m ≤ 1048576) (hk : k ≤ 1048576) (hcm : m ≤ mc ∧ mc ≤ 9223372036854775807) (hck : k ≤ kc ∧ kc ≤ 9223372036854775807) :
    Calls Try.prog 26 #[.agg #[.slice A n c], .slice P m mc, .slice Q k kc] w (AnsList w ys) := by
  obtain ⟨W, hW⟩ : ∃ W, W = w.alloc (.cells #[.slice A n c] 26) := ⟨_, rfl⟩
  have b0 : Below w.heap.size w W := by rw [hW]; exact (Below.refl _ _).alloc (Nat.le_refl _) _
  have M : Gr w W A n c sg P m a Q k b := ⟨by rw [hW]; exact Row.new _ _ _, h.next b0, hp.next b0, hq.next b0, b0⟩
  have HW := Lib.hid hW
  have HG := Lib.hid hG
  have L1 := Lib.hid (implTermOk A P n c m mc sg a W M.s M.pa hn hm)
  have L2 := Lib.hid (fun w' (M : Gr w w' A n c sg P m a Q k b) => implTermOk A Q n c k kc sg b w' M.s M.qb hn hk)
  have c0 : (w.alloc (.cells #[.slice A n c] 26)).cell? ⟨w.heap.size, 0, none⟩ = some (.slice A n c) := by rw [← hW]; exact M.r0.cell 0
  clear hG hW h hp hq b0
  obtain ⟨va, hva⟩ : ∃ v, termOkB sg a = v := ⟨_, rfl⟩
  obtain ⟨vb, hvb⟩ : ∃ v, termOkB sg b = v := ⟨_, rfl⟩
  have HA := Lib.hid hva
  have HB := Lib.hid hvb
  clear hva hvb
  cases va with
  | false =>
    go_enter Try.func26, Try.ntmps26
    go_wp2_with fail
    rw [← HW.out]
    refine L1.out.mono ?_
    rintro e w1 ⟨he, bb⟩
    rw [HA.out] at he
    subst he
    replace M := M.next bb
    obtain rfl := isG_off HG.out (.inl HA.out)
    have F := Lib.hid (show AnsList w [] (.returned (.slice none 0 0)) w1 from ⟨_, 0, 0, rfl, Own.nil _ _, M.b⟩)
    clear M bb L1 L2
    go_wp2
    go_ret
    exact F.out
  | true =>
    cases vb with
    | false =>
      go_enter Try.func26, Try.ntmps26
      go_wp2_with fail
      rw [← HW.out]
      refine L1.out.mono ?_
      rintro e w1 ⟨he, bb⟩
      rw [HA.out] at he
      subst he
      replace M := M.next bb
      have c1 := M.r0.cell 0
      clear bb c0
      go_wp2_with fail
      refine (L2.out w1 M).mono ?_
      rintro e w2 ⟨he, bb⟩
      rw [HB.out] at he
      subst he
      replace M := M.next bb
      obtain rfl := isG_off HG.out (.inr HB.out)
      have F := Lib.hid (show AnsList w [] (.returned (.slice none 0 0)) w2 from ⟨_, 0, 0, rfl, Own.nil _ _, M.b⟩)
      clear M bb L1 L2 c1
      go_wp2
      go_ret
      exact F.out
    | true =>
      go_enter Try.func26, Try.ntmps26
      go_wp2_with fail
      rw [← HW.out]
      refine L1.out.mono ?_
      rintro e w1 ⟨he, bb⟩
      rw [HA.out] at he
      subst he
      replace M := M.next bb
      have c1 := M.r0.cell 0
      clear bb c0 L1
      go_wp2_with fail
      refine (L2.out w1 M).mono ?_
      rintro e w2 ⟨he, bb⟩
      rw [HB.out] at he
      subst he
      replace M := M.next bb
      have c2 : w2.cell? ⟨w.heap.size, 0, none⟩ = some (.slice A n c) := M.r0.cell 0
      clear bb L2 c1
      have hm60 : m ≤ 60 := by rw [← M.pa.1]; exact (term_len HA.out).2
      have hk60 : k ≤ 60 := by rw [← M.qb.1]; exact (term_len HB.out).2
      obtain ⟨W3, hW3⟩ : ∃ W3, W3 = w2.alloc (.cells (gcs A n c P m mc 0 Q k kc 0 none 0 0) 85) := ⟨_, rfl⟩
      have b3 : Below w2.heap.size w2 W3 := by rw [hW3]; exact (Below.refl _ _).alloc (Nat.le_refl _) _
      have hs3 : w2.heap.size < W3.heap.size := by rw [hW3]; simp
      have G3 : Gn W3 w2.heap.size W3.heap.size A n c sg P m mc a 0 Q k kc b 0 none 0 0 ([].map cat) :=
        ⟨by rw [hW3]; exact Row.new _ _ _, M.s.below b3, M.pa.below b3, M.qb.below b3, Owns.nil _ _ _, Nat.le_refl _, Nat.zero_le _, Nat.zero_le _, hn, hm, hk, (sig_arities (termOk_parts HA.out).1).1⟩
      have HH := Lib.hid (show HeadG w w2.heap.size A n c sg P m mc a Q k kc b m (.slice none 0 0) W3 from
        ⟨0, 0, 1, 0, 0, none, [], [], none, 0, 0, rfl, G3, Run.start (term_parts HA.out).2.2 (term_parts HB.out).2.2, Own.nil _ _, Avoid.nil, by omega, next_trans M.b b3⟩)
      have hw2 : w.heap.size ≤ w2.heap.size := M.b.size
      have HW3 := Lib.hid (show W3 = w2.alloc (.cells #[.slice A n c, .slice P m mc, .int .i64 0, .slice A n c, .slice Q k kc, .int .i64 0, .slice none 0 0] 85) from hW3)
      have HLA := Lib.hid M.pa.1
      clear M G3 b3 hs3 hW3
      go_wp2_with fail
      rw [← HW3.out]
      obtain ⟨g, hg⟩ : ∃ g, g = w2.heap.size := ⟨_, rfl⟩
      rw [← hg] at HH hw2 ⊢
      clear hg HW3
      go_loopg [8] m (fun f_ r wr => HeadG w g A n c sg P m mc a Q k kc b f_ r wr)
      case atStart => exact HH.out
      case round =>
        obtain ⟨i, j, q, dn, dc, D, T, R, O, on, oc, rfl, G, hR, ho, hav, hf, hb⟩ := hrel
        clear HH
        have hil := G.li
        have e2 : wr.cell? ⟨g, 2, none⟩ = some (.int .i64 (i : Int)) := G.cell 2
        have e6 : wr.cell? ⟨g, 6, none⟩ = some (.slice D dn dc) := G.cell 6
        have hon : on ≤ 60 := by rw [Own.len ho]; have := hR.rl; omega
        have HF := Lib.hid hf
        by_cases hlt : i < m
        · have i1 : (i : Int) < (m : Int) := by omega
          have LN := Lib.hid (gn_next g A n c sg P m mc a Q k kc b w wr i j q dn dc D T R G hR hlt hm60 hk60 hcm.1 hcm.2 hck.1 hck.2)
          have HGR := Lib.hid G
          have HO := Lib.hid ho
          have HAV := Lib.hid hav
          have HBB := Lib.hid hb
          clear G hR ho hav hb hf e6
          go_wp2_with (first
            | (go_at_call 78; refine LN.out.mono ?_; rintro e w4 ⟨x, i', j', q', D', dn', dc', T', rfl, G4, t4, hD, av, hR', hi'⟩; have o4 := own_two HO.out HGR.out.row (fun z hz => (topRow HGR.out.o z hz).1) t4; have g4 := G4.lt)
            | (at_builtin; refine appAllAt rfl _ _ rfl (g + 1) O on oc R rfl (Own.next o4 ((Below.refl _ _).alloc (Nat.le_refl _) _)) (some ⟨w4.heap.size, 0, none⟩) 1 1 (w4.alloc (.cells #[.int .i64 x] 2)).heap.size [x] rfl (one_seg w4 x) (by omega) (by omega) (by omega) (by simp; omega) ?_; intro O' oc' w5 ho5 hg5 hat5))
          have S := head_step hw2 HGR.out HO.out HAV.out HBB.out G4 t4 hD av hR' ho5 hg5 hat5
          have HS := Lib.hid S
          have HM := Lib.hid (show m - i' < gk by have := HF.out; have := G4.li; omega)
          clear S G4 t4 hD av hR' ho5 hg5 hat5 o4 LN HGR HO HAV HBB
          go_wp2
          go_roundg (m - i')
          case measure => exact HM.out
          case rel => exact HS.out
        · have him : i = a.length := by rw [HLA.out]; omega
          have hys := isG_run HG.out HA.out HB.out (hR.end him)
          have hdl : dn = T.length := by have := G.o.len; simpa using this.symm
          have HY := Lib.hid hys
          have HDL := Lib.hid hdl
          have hgb : w.heap.size ≤ g + 1 := by omega
          have HO := Lib.hid (Own.lower ho hgb)
          have HBB := Lib.hid hb
          have hdn : dn ≤ 60 := by have := hR.tl; omega
          have i1 : ¬ (i : Int) < (m : Int) := by omega
          clear G hR ho hav hb hf him hys hdl HG HLA
          by_cases h24 : 24 < dn
          · have F := Lib.hid (show AnsList w ys (.returned (.slice none 0 0)) wr from ⟨none, 0, 0, rfl, by rw [HY.out, if_neg (by rw [← HDL.out]; omega)]; exact Own.nil _ _, HBB.out⟩)
            have d1 : (24 : Int) < (dn : Int) := by omega
            clear HO HBB
            go_wp2
            go_ret
            exact F.out
          · have F := Lib.hid (show AnsList w ys (.returned (.slice O on oc)) wr from ⟨O, on, oc, rfl, by rw [HY.out, if_pos (by rw [← HDL.out]; omega)]; exact HO.out, HBB.out⟩)
            have d1 : ¬ (24 : Int) < (dn : Int) := by omega
            clear HO HBB
            go_wp2
            go_ret
            exact F.out
end Go.Proofs.Ytkmhnkljigncmaa.genImpl
end

section
/-
  WORDS FOR MEMORY: a table of 24 lists that may be read ('TabR'). Conditions: none; plain lemmas. By an AI agent.
-/
namespace Go.Proofs.Ytkmhnkljigncmaa.whole
open Go.RowKit Go.Proofs.Ytkmhnkljigncmaa.base Go.Proofs.Ytkmhnkljigncmaa.segs Go.Proofs.Ytkmhnkljigncmaa.matchMath
set_option maxRecDepth 100000

/-- 24 empty lists -/
def z24 : Array Value := Array.replicate 24 (.slice none 0 0)
theorem z24_size : z24.size = 24 := by simp [z24]

section
variable {w w' : World} {B B' g : Nat} {cs : Array Value} {s : List (List Int)} {t : TypeId}
/-- 24 lists that may be read, all of them below B -/
def TabR (w : World) (B : Nat) (cs : Array Value) (s : List (List Int)) : Prop :=
  cs.size = 24 ∧ s.length = 24 ∧ ∀ j, j < 24 → ∃ A n c, cs[j]? = some (.slice A n c) ∧ Seg w B A n (s.getD j []) ∧ Cap A n c
theorem TabR.new (w : World) (B : Nat) : TabR w B z24 s0 :=
  ⟨z24_size, rfl, fun j hj => ⟨none, 0, 0, by simp [z24, hj], by rw [s0_get]; exact Seg.empty, ⟨Nat.le_refl _, by omega, fun _ => rfl⟩⟩⟩
theorem TabR.keep (h : TabR w B cs s) (hk : ∀ p : Addr, p.block < B → w'.cell? p = w.cell? p) : TabR w' B cs s :=
  ⟨h.1, h.2.1, fun j hj => by obtain ⟨A, n, c, e, hs, hc⟩ := h.2.2 j hj; exact ⟨A, n, c, e, hs.keep hk, hc⟩⟩
theorem TabR.more (h : TabR w B cs s) (hB : B ≤ B') : TabR w B' cs s :=
  ⟨h.1, h.2.1, fun j hj => by obtain ⟨A, n, c, e, hs, hc⟩ := h.2.2 j hj; exact ⟨A, n, c, e, hs.more hB, hc⟩⟩
theorem TabR.below (h : TabR w B cs s) (hb : Below B w w') : TabR w' B cs s := h.keep fun _ hp => hb.cell hp
theorem TabR.put (h : TabR w B cs s) {j : Nat} (hj : j < 24) {A : Option Addr} {n c : Nat} {ys : List Int} (hs : Seg w B A n ys) (hc : Cap A n c) : TabR w B (cs.setIfInBounds j (.slice A n c)) (s.set j ys) := by
  refine ⟨by rw [Array.size_setIfInBounds]; exact h.1, by rw [List.length_set]; exact h.2.1, fun i hi => ?_⟩
  by_cases e : j = i
  · subst e
    exact ⟨A, n, c, by rw [Array.getElem?_setIfInBounds_self_of_lt (by rw [h.1]; exact hj)], by rw [set_get, if_pos ⟨rfl, by rw [h.2.1]; exact hj⟩]; exact hs, hc⟩
  · obtain ⟨A', n', c', e', hs', hc'⟩ := h.2.2 i hi
    exact ⟨A', n', c', by rw [Array.getElem?_setIfInBounds_ne e]; exact e', by rw [set_get, if_neg (fun hh => e hh.1)]; exact hs', hc'⟩
theorem TabR.one (h : TabR w B cs s) : cs.all (·.oneCell') = true := by
  rw [Array.all_eq_true]
  intro i hi
  obtain ⟨A, n, c, e, _⟩ := h.2.2 i (by rw [← h.1]; exact hi)
  rw [Array.getElem?_eq_getElem hi] at e
  injection e with e
  rw [e]; rfl
theorem TabR.segs (h : TabR w B cs s) (hr : Row w g t cs) (hB : B ≤ w.heap.size) : Segs w w.heap.size (some ⟨g, 0, none⟩) 24 s := by
  refine ⟨h.2.1, fun _ => ⟨g, 0, rfl, hr.lt, fun j hj => ?_⟩⟩
  obtain ⟨A, n, c, e, hs, hc⟩ := h.2.2 j hj
  exact ⟨A, n, c, by rw [Nat.zero_add, hr.cell j, e], hs.more hB, hc⟩
theorem TabR.made (w : World) (B : Nat) : TabR w B (madeCells #[.slice none 0 0] 24) s0 :=
  ⟨size_madeCells _ _, rfl, fun j hj => ⟨none, 0, 0, by simp [madeCells, hj, Nat.mod_one], by rw [s0_get]; exact Seg.empty, ⟨Nat.le_refl _, by omega, fun _ => rfl⟩⟩⟩
end
end Go.Proofs.Ytkmhnkljigncmaa.whole
end

section
/-
  CONTRACTS: spec.l4Match, Matched, InstanceIn. Conditions: the slices read as lists ('Seg'), at most 1048576 numbers. By an AI agent.
-/
namespace Go.Proofs.Ytkmhnkljigncmaa.matchSpec
open Go.RowKit Go.Proofs.Ytkmhnkljigncmaa.base Go.Proofs.Ytkmhnkljigncmaa.ints Go.Proofs.Ytkmhnkljigncmaa.sig Go.Proofs.Ytkmhnkljigncmaa.same Go.Proofs.Ytkmhnkljigncmaa.term Go.Proofs.Ytkmhnkljigncmaa.termOk Go.Proofs.Ytkmhnkljigncmaa.endAt Go.Proofs.Ytkmhnkljigncmaa.inside Go.Proofs.Ytkmhnkljigncmaa.marks Go.Proofs.Ytkmhnkljigncmaa.app Go.Proofs.Ytkmhnkljigncmaa.sym Go.Proofs.Ytkmhnkljigncmaa.sub Go.Proofs.Ytkmhnkljigncmaa.segs Go.Proofs.Ytkmhnkljigncmaa.segsHelp Go.Proofs.Ytkmhnkljigncmaa.termFacts Go.Proofs.Ytkmhnkljigncmaa.termMath Go.Proofs.Ytkmhnkljigncmaa.posMath Go.Proofs.Ytkmhnkljigncmaa.plainMath Go.Proofs.Ytkmhnkljigncmaa.plain Go.Proofs.Ytkmhnkljigncmaa.plainOf Go.Proofs.Ytkmhnkljigncmaa.gives Go.Proofs.Ytkmhnkljigncmaa.cursor Go.Proofs.Ytkmhnkljigncmaa.matchMath
set_option maxRecDepth 100000

/-- a table of 24 lists of the call's own -/
structure Tab (w : World) (T : Nat) (s : List (List Int)) : Prop where
  len : s.length = 24
  row : ∃ cs, Row w T 24 cs ∧ cs.size = 24 ∧ ∀ j, j < 24 → ∃ A n c, cs[j]? = some (.slice A n c) ∧ Own w (T + 1) (.slice A n c) (s.getD j [])
section
variable {w w' : World} {T : Nat} {s : List (List Int)}
theorem Tab.lt (h : Tab w T s) : T < w.heap.size := by obtain ⟨cs, hr, _⟩ := h.row; exact hr.lt
theorem Tab.next (h : Tab w T s) (hb : Below w.heap.size w w') : Tab w' T s := by
  obtain ⟨cs, hr, hs, hc⟩ := h.row
  exact ⟨h.len, cs, hr.next hb, hs, fun j hj => by obtain ⟨A, n, c, e, ho⟩ := hc j hj; exact ⟨A, n, c, e, Own.next ho hb⟩⟩
theorem Tab.at (h : Tab w T s) {j : Nat} (hj : j < 24) : ∃ A n c, w.cell? ⟨T, j, none⟩ = some (.slice A n c) ∧ Own w (T + 1) (.slice A n c) (s.getD j []) := by
  obtain ⟨cs, hr, hs, hc⟩ := h.row
  obtain ⟨A, n, c, e, ho⟩ := hc j hj
  exact ⟨A, n, c, by rw [hr.cell j, e], ho⟩
theorem Tab.free (h : Tab w T s) (j : Nat) : w.frozen? ⟨T, j, none⟩ = false := by obtain ⟨cs, hr, _⟩ := h.row; exact hr.free j
theorem Tab.put (h : Tab w T s) {j : Nat} (hj : j < 24) {A : Option Addr} {n c : Nat} {ys : List Int} (ho : Own w (T + 1) (.slice A n c) ys) : Tab (w.setCell ⟨T, j, none⟩ (.slice A n c)) T (s.set j ys) := by
  obtain ⟨cs, hr, hs, hc⟩ := h.row
  have hg : w.grownBy (w.setCell ⟨T, j, none⟩ (.slice A n c)) (some T) := grown_put (World.grownBy.refl _ _) _ _
  have far : ∀ {A' : Option Addr} {n' c' : Nat} {zs : List Int}, Own w (T + 1) (.slice A' n' c') zs → Own (w.setCell ⟨T, j, none⟩ (.slice A n c)) (T + 1) (.slice A' n' c') zs := fun h => Own.far h hg (fun k hk => by injection hk; omega)
  refine ⟨by rw [List.length_set]; exact h.len, cs.setIfInBounds j (.slice A n c), hr.put j _, by rw [Array.size_setIfInBounds]; exact hs, fun i hi => ?_⟩
  by_cases e : j = i
  · subst e
    exact ⟨A, n, c, by rw [Array.getElem?_setIfInBounds_self_of_lt (by omega)], by rw [set_get, if_pos ⟨rfl, by rw [h.len]; exact hj⟩]; exact far ho⟩
  · obtain ⟨A', n', c', e', ho'⟩ := hc i hi
    exact ⟨A', n', c', by rw [Array.getElem?_setIfInBounds_ne e]; exact e', by rw [set_get, if_neg (fun hh => e hh.1)]; exact far ho'⟩
theorem Tab.segs (h : Tab w T s) : Segs w w.heap.size (some ⟨T, 0, none⟩) 24 s := by
  obtain ⟨cs, hr, hs, hc⟩ := h.row
  refine ⟨h.len, fun _ => ⟨T, 0, rfl, hr.lt, fun j hj => ?_⟩⟩
  obtain ⟨A, n, c, e, ho⟩ := hc j hj
  refine ⟨A, n, c, by rw [Nat.zero_add, hr.cell j, e], ?_, ?_⟩
  · have := Own.len ho; exact Own.seg ho
  · rcases ho.form with ⟨e1, _⟩ | ⟨g, c', cur, e1, _, _, _, _⟩
    · injection e1 with e1 e2 e3; subst e1 e2 e3; exact ⟨Nat.le_refl _, by omega, fun _ => rfl⟩
    · exact look.own_cap ho
end
theorem Tab.new (w : World) : Tab (w.alloc (.cells (madeCells #[.slice none 0 0] 24) 24)) w.heap.size s0 := by
  refine ⟨rfl, _, Row.new _ _ _, size_madeCells _ _, fun j hj => ⟨none, 0, 0, ?_, by rw [s0_get]; exact Own.nil _ _⟩⟩
  simp [madeCells, hj, Nat.mod_one]

def resL (R : Option (List (List Int))) : List (List Int) := match R with
  | some s => plainL (givesL s) 24
  | none => []
def AnsM (w : World) (xss : List (List Int)) (b : Bool) (e : Ending) (w' : World) : Prop := ∃ A n c, e = .returned (.tuple #[.agg #[.slice A n c], .bool b]) ∧ Owns w' w.heap.size w'.heap.size A n c xss ∧ Below w.heap.size w w'
theorem ansM_no {w w' : World} {R : Option (List (List Int))} (h : R = none) (hb : Below w.heap.size w w') : AnsM w (resL R) R.isSome (.returned (.tuple #[.agg #[.slice none 0 0], .bool false])) w' :=
  ⟨none, 0, 0, by rw [h]; rfl, by rw [h]; exact Owns.nil _ _ _, hb⟩

/-- what stands in the course of l4Match -/
structure Mt (w wr : World) (A : Option Addr) (n c : Nat) (sg : List Int) (P : Option Addr) (pn : Nat) (p : List Int) (Q : Option Addr) (m : Nat) (t : List Int) (s : List (List Int)) : Prop where
  r0 : Row wr w.heap.size 26 #[.slice A n c]
  r1 : Row wr (w.heap.size + 1) 31 #[.slice none 0 0]
  r3 : Row wr (w.heap.size + 1 + 1 + 1) 31 #[.slice (some ⟨w.heap.size + 1 + 1, 0, none⟩) 24 24]
  tb : Tab wr (w.heap.size + 1 + 1) s
  ss : Seg wr w.heap.size A n sg
  sp : Seg wr w.heap.size P pn p
  st : Seg wr w.heap.size Q m t
  b : Below w.heap.size w wr
section
variable {w wr w' : World} {A : Option Addr} {n c : Nat} {sg : List Int} {P : Option Addr} {pn : Nat} {p : List Int} {Q : Option Addr} {m : Nat} {t : List Int} {s : List (List Int)}
theorem Mt.next (h : Mt w wr A n c sg P pn p Q m t s) (hb : Below wr.heap.size wr w') : Mt w w' A n c sg P pn p Q m t s :=
  have b : Below w.heap.size wr w' := hb.mono h.b.size
  ⟨h.r0.next hb, h.r1.next hb, h.r3.next hb, h.tb.next hb, h.ss.below b, h.sp.below b, h.st.below b, h.b.trans b⟩
theorem Mt.put (h : Mt w wr A n c sg P pn p Q m t s) {j : Nat} (hj : j < 24) {D : Option Addr} {dn dc : Nat} {ys : List Int} (ho : Own wr (w.heap.size + 1 + 1 + 1) (.slice D dn dc) ys) : Mt w (wr.setCell ⟨w.heap.size + 1 + 1, j, none⟩ (.slice D dn dc)) A n c sg P pn p Q m t (s.set j ys) :=
  ⟨h.r0.far (show w.heap.size ≠ w.heap.size + 1 + 1 by omega) _, h.r1.far (show w.heap.size + 1 ≠ w.heap.size + 1 + 1 by omega) _, h.r3.far (show w.heap.size + 1 + 1 + 1 ≠ w.heap.size + 1 + 1 by omega) _, h.tb.put hj ho, h.ss.put (show w.heap.size ≤ w.heap.size + 1 + 1 by omega) _, h.sp.put (show w.heap.size ≤ w.heap.size + 1 + 1 by omega) _, h.st.put (show w.heap.size ≤ w.heap.size + 1 + 1 by omega) _, h.b.setCell (show w.heap.size ≤ w.heap.size + 1 + 1 by omega) _⟩
end

set_option maxHeartbeats 1000000 in
theorem l4Match (A P Q : Option Addr) (n c pn pc m mc : Nat) (sg p t : List Int) (w : World) (h : Seg w w.heap.size A n sg) (hp : Seg w w.heap.size P pn p) (ht : Seg w w.heap.size Q m t) (hn : n ≤ 1048576) (hpn : pn ≤ 60) (hm : m ≤ 60) (hmc : m ≤ mc) (hmc2 : mc ≤ 9223372036854775807)
    (hokp : termOkB sg p = true) (hokt : termOkB sg t = true) :
    Calls Try.prog 119 #[.agg #[.slice A n c], .slice P pn pc, .slice Q m mc] w (AnsM w (resL (mst sg t p 0 s0)) (mst sg t p 0 s0).isSome) := by
  obtain ⟨W0, hW0⟩ : ∃ W, W = (w.alloc (.cells #[.slice A n c] 26)).alloc (.cells #[.slice none 0 0] 31) := ⟨_, rfl⟩
  have z0 : W0.heap.size = w.heap.size + 1 + 1 := by rw [hW0]; simp
  obtain ⟨W, hW⟩ : ∃ W, W = (W0.alloc (.cells (madeCells #[.slice none 0 0] 24) 24)).alloc (.cells #[.slice (some ⟨w.heap.size + 1 + 1, 0, none⟩) 24 24] 31) := ⟨_, rfl⟩
  have b0 : Below w.heap.size w W0 := by rw [hW0]; exact ((Below.refl _ _).alloc (Nat.le_refl _) _).alloc (by simp) _
  have b1 : Below w.heap.size w W := by rw [hW]; exact (b0.alloc b0.size _).alloc (by simp; omega) _
  have hmk : ∀ W : World, (Instr.makeSlice 29 (.int .i64 24) (.int .i64 24)).run Try.prog W = .ok (.slice (some ⟨W.heap.size, 0, none⟩) 24 24) (W.alloc (.cells (madeCells #[.slice none 0 0] 24) 24)) := fun W => run_make_lists 24 (by omega) W
  have M0 : Mt w W A n c sg P pn p Q m t s0 := by
    refine ⟨?_, ?_, ?_, ?_, h.below b1, hp.below b1, ht.below b1, b1⟩
    · rw [hW, hW0]; exact (((Row.new w _ _).alloc _).alloc _).alloc _
    · rw [hW, hW0]
      have := (((Row.new (w.alloc (.cells #[.slice A n c] 26)) 31 #[.slice none 0 0]).alloc (.cells (madeCells #[.slice none 0 0] 24) 24)).alloc (.cells #[.slice (some ⟨w.heap.size + 1 + 1, 0, none⟩) 24 24] 31))
      simpa using this
    · rw [hW]
      have := Row.new (W0.alloc (.cells (madeCells #[.slice none 0 0] 24) 24)) 31 #[.slice (some ⟨w.heap.size + 1 + 1, 0, none⟩) 24 24]
      have e : (W0.alloc (.cells (madeCells #[.slice none 0 0] 24) 24)).heap.size = w.heap.size + 1 + 1 + 1 := by simp; omega
      rwa [e] at this
    · rw [hW]
      have := (Tab.new W0).next ((Below.refl _ _).alloc (Nat.le_refl _) (.cells #[.slice (some ⟨w.heap.size + 1 + 1, 0, none⟩) 24 24] 31))
      rwa [z0] at this
  have HW := Lib.hid hW
  have HW0 := Lib.hid hW0
  have HLP := Lib.hid hp.1
  have HLT := Lib.hid ht.1
  have HT := Lib.hid hokt
  have HPM : Hid (∀ i, i < pn → -24 ≤ p.getD i 0) := Lib.hid (fun i hi => (term_num hokp (by rw [hp.1]; exact hi)).1)
  have hars := (sig_arities (termOk_parts hokt).1).1
  obtain ⟨R, hR⟩ : ∃ R, mst sg t p 0 s0 = R := ⟨_, rfl⟩
  rw [hR]
  have HR := Lib.hid hR
  have HM0 := Lib.hid M0
  clear hW hW0 h hp ht b0 b1 M0 hokp hokt hR z0
  go_enter Try.func119, Try.ntmps119
  go_wp2_with fail
  clear hmk
  go_loopg [9, 10] pn (fun g k i wr => ∃ (k' i' : Nat) (s : List (List Int)), k = .int .i64 k' ∧ i = .int .i64 i' ∧ i' + g = pn ∧ k' ≤ m ∧ mst sg t (p.drop i') k' s = R ∧ (∀ j, (s.getD j []).length ≤ 60) ∧ Mt w wr A n c sg P pn p Q m t s)
  case atStart =>
    have hM := HM0.out
    rw [HW.out, HW0.out] at hM
    exact ⟨0, 0, s0, rfl, rfl, by omega, Nat.zero_le _, HR.out, fun j => by rw [s0_get]; simp, hM⟩
  case round =>
    obtain ⟨k, i, s, rfl, rfl, hi, hk, hmst, hs60, M⟩ := hrel
    clear HM0 HW HW0
    have HI := Lib.hid hi
    have HMS := Lib.hid hmst
    have HS60 := Lib.hid hs60
    clear hi hmst hs60
    by_cases hip : i < pn
    · have hgk := Lib.hid (show gk - 1 < gk ∧ i + 1 + (gk - 1) = pn by have := HI.out; omega)
      obtain ⟨bp, op, x, rfl, hbp, hx, ex⟩ := M.sp.spot hip
      have hx24 := HPM.out i hip
      rw [ex.out] at hx24
      have HD := Lib.hid (show p.drop i = x :: p.drop (i + 1) by rw [drop_cons (by rw [HLP.out]; exact hip), ex.out])
      have cR : wr.cell? ⟨w.heap.size + 1, 0, none⟩ = some (.slice none 0 0) := M.r1.cell 0
      have fR : wr.frozen? ⟨w.heap.size + 1, 0, none⟩ = false := M.r1.free 0
      by_cases hkm : k < m
      · obtain ⟨bt, ot, y, rfl, hbt, hy, ey⟩ := M.st.spot hkm
        have hkl : ¬ t.length ≤ k := by rw [HLT.out]; omega
        by_cases hx0 : 0 ≤ x
        · by_cases hxy : x = y
          · subst hxy
            have S := Lib.hid (show mst sg t (p.drop (i + 1)) (k + 1) s = R by rw [← HMS.out, HD.out, mst_sym hkl hx0 ey.out.symm])
            have HM := Lib.hid (fun d => M.next (below_drewN (Below.refl _ _) d))
            have hd : (x != x) = false := by simp
            clear M ex ey HD
            go_wp2
            go_quiet (fail)
            go_wp2
            go_roundg (gk - 1)
            case measure => exact hgk.out.1
            case rel => exact ⟨k + 1, i + 1, s, by simp, by simp, hgk.out.2, by omega, S.out, HS60.out, HM.out _⟩
          · have HN := Lib.hid (show R = none by rw [← HMS.out, HD.out, mst_symNo hkl hx0 (by rw [ey.out]; exact hxy)])
            have HM := Lib.hid (fun d => M.next (below_drewN (Below.refl _ _) d))
            have hd : (x != y) = true := by simp [hxy]
            have F1 := Lib.hid (fun d => ansM_no (w := w) HN.out (below_drewN M.b d))
            have F2 := Lib.hid (fun d => ansM_no (w := w) HN.out ((below_drewN M.b d).setCell (p := ⟨w.heap.size + 1, 0, none⟩) (show w.heap.size ≤ w.heap.size + 1 by omega) (.slice none 0 0)))
            clear M ex ey HD HM
            go_wp2
            go_quiet (fail)
            go_wp2
            first
              | exact bodyPost_ret (v := .tuple #[.agg #[.slice none 0 0], .bool false]) (by simp [results, Try.results119, go_sem, cR]) rfl (F1.out _)
              | exact bodyPost_ret (v := .tuple #[.agg #[.slice none 0 0], .bool false]) (by simp [results, Try.results119, go_sem, cR]) rfl (F2.out _)
        · obtain ⟨v, hv⟩ : ∃ v : Nat, x = -1 - (v : Int) := ⟨(-1 - x).toNat, by omega⟩
          subst hv
          have hv24 : v < 24 := by omega
          have hvr : vr (-1 - (v : Int)) = v := by unfold vr; omega
          obtain ⟨t1, t2, t3⟩ := term_at HT.out (show k < t.length by rw [HLT.out]; exact hkm)
          rw [HLT.out] at t3
          have hsl := (sub_len1 HT.out (show k < t.length by rw [HLT.out]; exact hkm)).1
          have cA : wr.cell? ⟨w.heap.size, 0, none⟩ = some (.slice A n c) := M.r0.cell 0
          have LS := Lib.hid (l1Sub A (some ⟨bt, ot, none⟩) n c m mc sg t k (len1 sg t k) wr (M.ss.more M.b.size) (M.st.more M.b.size) hn (by omega) hmc hmc2 hars hkm t1 t2 t3)
          obtain ⟨ys, hys⟩ : ∃ ys, subL sg t k = ys := ⟨_, rfl⟩
          rw [hys] at LS hsl
          have HYS := Lib.hid hys
          have hyl : k + ys.length ≤ m := by rw [hsl]; exact t3
          have hyl60 : ys.length ≤ 60 := by omega
          have hwr := M.b.size
          have hw3 := M.r3.lt
          clear hys t1 t2 t3 hsl hy ey cR fR
          go_wp2_with fail
          refine LS.out.mono ?_
          rintro e w1 ⟨D, dn, dc, rfl, od, bb⟩
          replace M := M.next bb
          have hx1 : w1.cell? ⟨bp, op + i, none⟩ = some (.int .i64 (-1 - (v : Int))) := (bb.cell (p := ⟨bp, op + i, none⟩) (show bp < wr.heap.size by omega)).trans hx
          obtain rfl : dn = ys.length := Own.len od
          replace od := Own.lower (base' := w.heap.size + 1 + 1 + 1) od (by omega)
          obtain ⟨Ao, no, co, hc, oo⟩ := M.tb.at hv24
          obtain ⟨os, hos⟩ : ∃ os, s.getD v [] = os := ⟨_, rfl⟩
          rw [hos] at oo
          have HOS := Lib.hid hos
          have HNO := Lib.hid (Own.len oo)
          have hno60 : no ≤ 60 := by rw [HNO.out, ← hos]; exact HS60.out v
          have c3 : w1.cell? ⟨w.heap.size + 1 + 1 + 1, 0, none⟩ = some (.slice (some ⟨w.heap.size + 1 + 1, 0, none⟩) 24 24) := M.r3.cell 0
          have hw1 : IntKind.i64.wrap (-1 - (-1 - (v : Int))) = (v : Int) := by rw [IntKind.wrap_i64]; omega
          have hw2 : IntKind.i64.wrap (v : Int) = (v : Int) := by rw [IntKind.wrap_i64]; omega
          have j0 : (0 : Int) ≤ (v : Int) := by omega
          have j1 : (v : Int) < 24 := by omega
          have HMD := Lib.hid (fun d => M.next (below_drewN (Below.refl _ _) d))
          have HOD := Lib.hid (fun d => Own.drewN od d)
          have HOO := Lib.hid (fun d => Own.drewN oo d)
          have HC := Lib.hid hc
          have HX1 := Lib.hid hx1
          have HVR := Lib.hid hvr
          clear bb hx LS M od oo hos hvr
          go_wp2
          go_quiet (fail)
          generalize hd1 : w1.drewN _ = w2
          have M : Mt w w2 A n c sg (some ⟨bp, op, none⟩) pn p (some ⟨bt, ot, none⟩) m t s := by rw [← hd1]; exact HMD.out _
          have od : Own w2 (w.heap.size + 1 + 1 + 1) (.slice D ys.length dc) ys := by rw [← hd1]; exact HOD.out _
          have oo : Own w2 (w.heap.size + 1 + 1 + 1) (.slice Ao no co) os := by rw [← hd1]; exact HOO.out _
          clear hd1 HMD HOD HOO hx1 c3 hc
          have cR : w2.cell? ⟨w.heap.size + 1, 0, none⟩ = some (.slice none 0 0) := M.r1.cell 0
          have fR : w2.frozen? ⟨w.heap.size + 1, 0, none⟩ = false := M.r1.free 0
          by_cases hn0 : no = 0
          · have hno2 : ¬ ((s.getD (vr (-1 - (v : Int))) []).length ≠ 0 ∧ s.getD (vr (-1 - (v : Int))) [] ≠ subL sg t k) := by
              rw [HVR.out, HOS.out]
              intro h
              exact h.1 (by rw [← HNO.out]; exact hn0)
            subst hn0
            have S := Lib.hid (show mst sg t (p.drop (i + 1)) (k + ys.length) (s.set v ys) = R by rw [← HMS.out, HD.out, mst_var hkl (show ¬ 0 ≤ -1 - (v : Int) by omega) hno2, HVR.out, HYS.out])
            have hs2 := Lib.hid (show ∀ j, ((s.set v ys).getD j []).length ≤ 60 from fun j => by rw [set_get]; split; exact hyl60; exact HS60.out j)
            have hxq : w2.cell? ⟨bp, op + i, none⟩ = some (.int .i64 (-1 - (v : Int))) := by
              obtain ⟨b', o', x', e', -, hq, ex'⟩ := M.sp.spot hip
              injection e' with e'
              injection e' with e1 e2
              subst e1 e2
              rw [hq, ← ex'.out, ex.out]
            have c3q : w2.cell? ⟨w.heap.size + 1 + 1 + 1, 0, none⟩ = some (.slice (some ⟨w.heap.size + 1 + 1, 0, none⟩) 24 24) := M.r3.cell 0
            have fT : w2.frozen? ⟨w.heap.size + 1 + 1, v, none⟩ = false := M.tb.free v
            obtain ⟨A9, n9, c9, hcq, -⟩ := M.tb.at hv24
            have HM2 := Lib.hid (fun d => (M.next (below_drewN (Below.refl _ _) d)).put hv24 (Own.drewN od d))
            clear M od
            go_wp2
            go_region
            go_wp2
            go_roundg (gk - 1)
            case measure => exact hgk.out.1
            case rel => exact ⟨k + ys.length, i + 1, s.set v ys, by simp, by simp, hgk.out.2, hyl, S.out, hs2.out, HM2.out _⟩
          · have hpos : (0 : Int) < (no : Int) := by omega
            go_wp2_with fail
            refine (specSame Ao D no ys.length co dc os ys w2 (Own.seg oo) (Own.seg od) (by omega) (by omega)).mono ?_
            rintro e w3 ⟨he, d3, rfl⟩
            replace M := M.next (below_drewN (Below.refl _ _) d3)
            replace od := Own.drewN od d3
            clear oo cR fR
            generalize w2.drewN d3 = w3 at *
            have cR : w3.cell? ⟨w.heap.size + 1, 0, none⟩ = some (.slice none 0 0) := M.r1.cell 0
            have fR : w3.frozen? ⟨w.heap.size + 1, 0, none⟩ = false := M.r1.free 0
            by_cases hoy : os = ys
            · rw [decide_eq_true hoy] at he
              subst he
              have hno2 : ¬ ((s.getD (vr (-1 - (v : Int))) []).length ≠ 0 ∧ s.getD (vr (-1 - (v : Int))) [] ≠ subL sg t k) := by
                rw [HVR.out, HOS.out, HYS.out]
                intro h
                exact h.2 hoy
              have S := Lib.hid (show mst sg t (p.drop (i + 1)) (k + ys.length) (s.set v ys) = R by rw [← HMS.out, HD.out, mst_var hkl (show ¬ 0 ≤ -1 - (v : Int) by omega) hno2, HVR.out, HYS.out])
              have hs2 := Lib.hid (show ∀ j, ((s.set v ys).getD j []).length ≤ 60 from fun j => by rw [set_get]; split; exact hyl60; exact HS60.out j)
              have hxq : w3.cell? ⟨bp, op + i, none⟩ = some (.int .i64 (-1 - (v : Int))) := by
                obtain ⟨b', o', x', e', -, hq, ex'⟩ := M.sp.spot hip
                injection e' with e'
                injection e' with e1 e2
                subst e1 e2
                rw [hq, ← ex'.out, ex.out]
              have c3q : w3.cell? ⟨w.heap.size + 1 + 1 + 1, 0, none⟩ = some (.slice (some ⟨w.heap.size + 1 + 1, 0, none⟩) 24 24) := M.r3.cell 0
              have fT : w3.frozen? ⟨w.heap.size + 1 + 1, v, none⟩ = false := M.tb.free v
              obtain ⟨A9, n9, c9, hcq, -⟩ := M.tb.at hv24
              have HM2 := Lib.hid (fun d => (M.next (below_drewN (Below.refl _ _) d)).put hv24 (Own.drewN od d))
              clear M od
              go_wp2
              go_region
              go_wp2
              go_roundg (gk - 1)
              case measure => exact hgk.out.1
              case rel => exact ⟨k + ys.length, i + 1, s.set v ys, by simp, by simp, hgk.out.2, hyl, S.out, hs2.out, HM2.out _⟩
            · rw [decide_eq_false hoy] at he
              subst he
              have HN := Lib.hid (show R = none by
                rw [← HMS.out, HD.out, mst_varNo hkl (show ¬ 0 ≤ -1 - (v : Int) by omega) (by
                  rw [HVR.out, HOS.out, HYS.out]
                  exact ⟨by rw [← HNO.out]; exact hn0, hoy⟩)])
              have F1 := Lib.hid (ansM_no (w := w) HN.out M.b)
              have F2 := Lib.hid (ansM_no (w := w) HN.out ((M.b).setCell (p := ⟨w.heap.size + 1, 0, none⟩) (show w.heap.size ≤ w.heap.size + 1 by omega) (.slice none 0 0)))
              clear M od ex HD
              go_wp2
              first
                | exact bodyPost_ret (v := .tuple #[.agg #[.slice none 0 0], .bool false]) (by simp [results, Try.results119, go_sem, cR]) rfl F1.out
                | exact bodyPost_ret (v := .tuple #[.agg #[.slice none 0 0], .bool false]) (by simp [results, Try.results119, go_sem, cR]) rfl F2.out
      · have HN := Lib.hid (show R = none by rw [← HMS.out, HD.out, mst_out (by rw [HLT.out]; omega)])
        have hge : (m : Int) ≤ (k : Int) := by omega
        have F1 := Lib.hid (ansM_no (w := w) HN.out M.b)
        have F2 := Lib.hid (ansM_no (w := w) HN.out ((M.b).setCell (p := ⟨w.heap.size + 1, 0, none⟩) (show w.heap.size ≤ w.heap.size + 1 by omega) (.slice none 0 0)))
        clear M ex HD
        go_wp2
        first
          | exact bodyPost_ret (v := .tuple #[.agg #[.slice none 0 0], .bool false]) (by simp [results, Try.results119, go_sem, cR]) rfl F1.out
          | exact bodyPost_ret (v := .tuple #[.agg #[.slice none 0 0], .bool false]) (by simp [results, Try.results119, go_sem, cR]) rfl F2.out
    · have hipn : i = pn := by have := HI.out; omega
      have hRs : R = some s := by rw [← HMS.out, hipn, List.drop_eq_nil_of_le (by rw [HLP.out]; exact Nat.le_refl _)]; rfl
      have HRS := Lib.hid hRs
      have hlen := M.tb.len
      have htot : tot s ≤ 1048576 := by have := tot_le (M := 60) HS60.out; rw [hlen] at this; omega
      have LP := Lib.hid (l2Plain _ 24 24 s _ M.tb.segs htot)
      have c3 : wr.cell? ⟨w.heap.size + 1 + 1 + 1, 0, none⟩ = some (.slice (some ⟨w.heap.size + 1 + 1, 0, none⟩) 24 24) := M.r3.cell 0
      have z1 := M.b.size
      have r1 := M.r1
      have hb := M.b
      have zr := M.r3.lt
      clear hRs hlen htot M hipn
      go_wp2_with fail
      refine LP.out.mono ?_
      rintro e w2 ⟨D, dn, dc, rfl, od, bb⟩
      replace r1 := r1.next bb
      replace hb := next_trans hb bb
      have cR : w2.cell? ⟨w.heap.size + 1, 0, none⟩ = some (.slice none 0 0) := r1.cell 0
      have fR : w2.frozen? ⟨w.heap.size + 1, 0, none⟩ = false := r1.free 0
      have F : AnsM w (resL R) R.isSome (.returned (.tuple #[.agg #[.slice D dn dc], .bool true])) (w2.setCell ⟨w.heap.size + 1, 0, none⟩ (.slice D dn dc)) := by
        have hbt : Btw (w.heap.size + 1) (w.heap.size + 2) w2 (w2.setCell ⟨w.heap.size + 1, 0, none⟩ (.slice D dn dc)) := Btw.of_grown (grown_put (World.grownBy.refl _ _) _ _) (fun k hk => by injection hk; omega)
        have o2 := od.btw hbt (.inr (by omega))
        refine ⟨D, dn, dc, by rw [HRS.out]; rfl, ?_, hb.setCell (p := ⟨w.heap.size + 1, 0, none⟩) (show w.heap.size ≤ w.heap.size + 1 by omega) _⟩
        rw [HRS.out]
        exact o2.wider z1 (by simp)
      have HF := Lib.hid F
      clear F od bb hb r1 LP
      go_wp2
      exact bodyPost_ret (v := .tuple #[.agg #[.slice D dn dc], .bool true]) (by simp [results, Try.results119, go_sem, cR]) rfl HF.out
/-- what stands in the course of a call with a boxed signature and a boxed result -/
structure Mr (w wr : World) (A : Option Addr) (n c : Nat) (sg : List Int) (P : Option Addr) (pn : Nat) (p : List Int) (Q : Option Addr) (m : Nat) (t : List Int) : Prop where
  r0 : Row wr w.heap.size 26 #[.slice A n c]
  r1 : Row wr (w.heap.size + 1) 31 #[.slice none 0 0]
  ss : Seg wr wr.heap.size A n sg
  sp : Seg wr wr.heap.size P pn p
  st : Seg wr wr.heap.size Q m t
  b : Below w.heap.size w wr
section
variable {w wr w' : World} {A : Option Addr} {n c : Nat} {sg : List Int} {P : Option Addr} {pn : Nat} {p : List Int} {Q : Option Addr} {m : Nat} {t : List Int}
theorem Mr.start (h : Seg w w.heap.size A n sg) (hp : Seg w w.heap.size P pn p) (ht : Seg w w.heap.size Q m t) : Mr w ((w.alloc (.cells #[.slice A n c] 26)).alloc (.cells #[.slice none 0 0] 31)) A n c sg P pn p Q m t :=
  have b : Below w.heap.size w ((w.alloc (.cells #[.slice A n c] 26)).alloc (.cells #[.slice none 0 0] 31)) := ((Below.refl _ _).alloc (Nat.le_refl _) _).alloc (by simp) _
  ⟨(Row.new w _ _).alloc _, by have := Row.new (w.alloc (.cells #[.slice A n c] 26)) 31 #[.slice none 0 0]; simpa using this, h.next b, hp.next b, ht.next b, b⟩
theorem Mr.next (h : Mr w wr A n c sg P pn p Q m t) (hb : Below wr.heap.size wr w') : Mr w w' A n c sg P pn p Q m t :=
  ⟨h.r0.next hb, h.r1.next hb, h.ss.next hb, h.sp.next hb, h.st.next hb, next_trans h.b hb⟩
end
theorem ansM_off {w w' : World} {sg p t : List Int} (h : termOkB sg p = false ∨ termOkB sg t = false) (hb : Below w.heap.size w w') : AnsM w (resL (matchO sg p t)) (instB sg p t) (.returned (.tuple #[.agg #[.slice none 0 0], .bool false])) w' := by
  have := match_no h
  unfold instB
  exact ansM_no this hb

set_option maxHeartbeats 1000000 in
theorem specMatched (A P Q : Option Addr) (n c pn pc m mc : Nat) (sg p t : List Int) (w : World) (h : Seg w w.heap.size A n sg) (hp : Seg w w.heap.size P pn p) (ht : Seg w w.heap.size Q m t) (hn : n ≤ 1048576) (hpn : pn ≤ 1048576) (hm : m ≤ 1048576) (hmc : m ≤ mc) (hmc2 : mc ≤ 9223372036854775807) :
    Calls Try.prog 81 #[.agg #[.slice A n c], .slice P pn pc, .slice Q m mc] w (AnsM w (resL (matchO sg p t)) (instB sg p t)) := by
  obtain ⟨W, hW⟩ : ∃ W, W = (w.alloc (.cells #[.slice A n c] 26)).alloc (.cells #[.slice none 0 0] 31) := ⟨_, rfl⟩
  have M : Mr w W A n c sg P pn p Q m t := by rw [hW]; exact Mr.start h hp ht
  have HW := Lib.hid hW
  have L := Lib.hid (specTermOk A P n c pn pc sg p W M.ss M.sp hn hpn)
  have c0 : W.cell? ⟨w.heap.size, 0, none⟩ = some (.slice A n c) := M.r0.cell 0
  have c00 : ((w.alloc (.cells #[.slice A n c] 26)).alloc (.cells #[.slice none 0 0] 31)).cell? ⟨w.heap.size, 0, none⟩ = some (.slice A n c) := by rw [← hW]; exact c0
  clear hW h hp ht
  cases hokp : termOkB sg p with
  | false =>
    have HS := Lib.hid hokp
    clear hokp
    go_enter Try.func81, Try.ntmps81
    go_wp2_with fail
    rw [← HW.out]
    refine L.out.mono ?_
    rintro e w1 ⟨he, bb⟩
    rw [HS.out] at he
    subst he
    replace M := M.next bb
    have cR : w1.cell? ⟨w.heap.size + 1, 0, none⟩ = some (.slice none 0 0) := M.r1.cell 0
    have fR : w1.frozen? ⟨w.heap.size + 1, 0, none⟩ = false := M.r1.free 0
    have F1 := Lib.hid (ansM_off (w := w) (t := t) (.inl HS.out) M.b)
    have F2 := Lib.hid (ansM_off (w := w) (t := t) (.inl HS.out) ((M.b).setCell (p := ⟨w.heap.size + 1, 0, none⟩) (show w.heap.size ≤ w.heap.size + 1 by omega) (.slice none 0 0)))
    clear M L bb c0 c00
    go_wp2
    first
      | exact bodyPost_ret (v := .tuple #[.agg #[.slice none 0 0], .bool false]) (by simp [results, Try.results81, go_sem, cR]) rfl F1.out
      | exact bodyPost_ret (v := .tuple #[.agg #[.slice none 0 0], .bool false]) (by simp [results, Try.results81, go_sem, cR]) rfl F2.out
  | true =>
    have HSP := Lib.hid hokp
    have hp60 : pn ≤ 60 := by have h1 := (termOk_parts hokp).2.1; rw [M.sp.1] at h1; exact h1
    clear hokp
    cases hokt : termOkB sg t with
    | false =>
      have HS := Lib.hid hokt
      clear hokt
      go_enter Try.func81, Try.ntmps81
      go_wp2_with fail
      rw [← HW.out]
      refine L.out.mono ?_
      rintro e w1 ⟨he, bb⟩
      rw [HSP.out] at he
      subst he
      replace M := M.next bb
      clear bb L c0 c00
      have c0 : w1.cell? ⟨w.heap.size, 0, none⟩ = some (.slice A n c) := M.r0.cell 0
      go_wp2_with fail
      refine (specTermOk A Q n c m mc sg t _ M.ss M.st hn hm).mono ?_
      rintro e w2 ⟨he, bb⟩
      rw [HS.out] at he
      subst he
      replace M := M.next bb
      have cR : w2.cell? ⟨w.heap.size + 1, 0, none⟩ = some (.slice none 0 0) := M.r1.cell 0
      have fR : w2.frozen? ⟨w.heap.size + 1, 0, none⟩ = false := M.r1.free 0
      have F1 := Lib.hid (ansM_off (w := w) (p := p) (.inr HS.out) M.b)
      have F2 := Lib.hid (ansM_off (w := w) (p := p) (.inr HS.out) ((M.b).setCell (p := ⟨w.heap.size + 1, 0, none⟩) (show w.heap.size ≤ w.heap.size + 1 by omega) (.slice none 0 0)))
      clear M bb c0
      go_wp2
      first
        | exact bodyPost_ret (v := .tuple #[.agg #[.slice none 0 0], .bool false]) (by simp [results, Try.results81, go_sem, cR]) rfl F1.out
        | exact bodyPost_ret (v := .tuple #[.agg #[.slice none 0 0], .bool false]) (by simp [results, Try.results81, go_sem, cR]) rfl F2.out
    | true =>
      have HST := Lib.hid hokt
      have hm60 : m ≤ 60 := by have h1 := (termOk_parts hokt).2.1; rw [M.st.1] at h1; exact h1
      have HMO := Lib.hid (match_yes HSP.out hokt)
      have HIO := Lib.hid (show instB sg p t = (mst sg t p 0 s0).isSome by unfold instB; rw [HMO.out])
      clear hokt
      go_enter Try.func81, Try.ntmps81
      go_wp2_with fail
      rw [← HW.out]
      refine L.out.mono ?_
      rintro e w1 ⟨he, bb⟩
      rw [HSP.out] at he
      subst he
      replace M := M.next bb
      clear bb L c0 c00
      have c0 : w1.cell? ⟨w.heap.size, 0, none⟩ = some (.slice A n c) := M.r0.cell 0
      go_wp2_with fail
      refine (specTermOk A Q n c m mc sg t _ M.ss M.st hn hm).mono ?_
      rintro e w2 ⟨he, bb⟩
      rw [HST.out] at he
      subst he
      replace M := M.next bb
      clear bb c0
      have c0 : w2.cell? ⟨w.heap.size, 0, none⟩ = some (.slice A n c) := M.r0.cell 0
      go_wp2_with fail
      refine (l4Match A P Q n c pn pc m mc sg p t _ M.ss M.sp M.st hn hp60 hm60 hmc hmc2 HSP.out HST.out).mono ?_
      rintro e w3 ⟨D, dn, dc, rfl, od, bb⟩
      have zw := M.r1.lt
      replace M := M.next bb
      rw [← HIO.out]
      have cR : w3.cell? ⟨w.heap.size + 1, 0, none⟩ = some (.slice none 0 0) := M.r1.cell 0
      have fR : w3.frozen? ⟨w.heap.size + 1, 0, none⟩ = false := M.r1.free 0
      obtain ⟨b, hb⟩ : ∃ b, instB sg p t = b := ⟨_, rfl⟩
      rw [hb]
      have F : AnsM w (resL (matchO sg p t)) (instB sg p t) (.returned (.tuple #[.agg #[.slice D dn dc], .bool b])) (w3.setCell ⟨w.heap.size + 1, 0, none⟩ (.slice D dn dc)) := by
        have hbt : Btw (w.heap.size + 1) (w.heap.size + 2) w3 (w3.setCell ⟨w.heap.size + 1, 0, none⟩ (.slice D dn dc)) := Btw.of_grown (grown_put (World.grownBy.refl _ _) _ _) (fun k hk => by injection hk; omega)
        have o2 := od.btw hbt (.inr (by omega))
        refine ⟨D, dn, dc, by rw [hb], ?_, (M.b).setCell (p := ⟨w.heap.size + 1, 0, none⟩) (show w.heap.size ≤ w.heap.size + 1 by omega) _⟩
        rw [HMO.out]
        exact o2.wider (by omega) (by simp)
      have F1 := Lib.hid F
      clear F od bb M c0 HIO hb
      go_wp2
      exact bodyPost_ret (v := .tuple #[.agg #[.slice D dn dc], .bool b]) (by simp [results, Try.results81, go_sem, cR]) rfl F1.out

set_option maxHeartbeats 1000000 in
theorem specInstanceIn (A P Q : Option Addr) (n c pn pc m mc : Nat) (sg p t : List Int) (w : World) (h : Seg w w.heap.size A n sg) (hp : Seg w w.heap.size P pn p) (ht : Seg w w.heap.size Q m t) (hn : n ≤ 1048576) (hpn : pn ≤ 1048576) (hm : m ≤ 1048576) (hmc : m ≤ mc) (hmc2 : mc ≤ 9223372036854775807) :
    Calls Try.prog 29 #[.agg #[.slice A n c], .slice P pn pc, .slice Q m mc] w (Tells w (instB sg p t)) := by
  obtain ⟨W, hW⟩ : ∃ W, W = w.alloc (.cells #[.slice A n c] 26) := ⟨_, rfl⟩
  have bW : Below w.heap.size w W := by rw [hW]; exact (Below.refl _ _).alloc (Nat.le_refl _) _
  have HW := Lib.hid hW
  have L := Lib.hid (specMatched A P Q n c pn pc m mc sg p t W (h.next bW) (hp.next bW) (ht.next bW) hn hpn hm hmc hmc2)
  clear hW h hp ht
  generalize instB sg p t = b at *
  go_enter Try.func29, Try.ntmps29
  go_wp2_with fail
  rw [← HW.out]
  refine L.out.mono ?_
  rintro e w1 ⟨D, dn, dc, rfl, od, bb⟩
  have F := Lib.hid (fun o => (show Tells w b (.returned (.bool b)) (w1.alloc o) from ⟨rfl, (next_trans bW bb).alloc (next_trans bW bb).size _⟩))
  clear od bb L bW
  go_wp2
  go_ret
  exact F.out _
end Go.Proofs.Ytkmhnkljigncmaa.matchSpec
end

section
/-
  WORDS FOR MEMORY, impl's bindings: an array of 24 lists by value, in and out of a block that is known whole; a table of 24 lists that may be read ('TabR'). Conditions: none; plain lemmas. By an AI agent.
-/
namespace Go.Proofs.Ytkmhnkljigncmaa.whole
open Go.RowKit Go.Proofs.Ytkmhnkljigncmaa.base Go.Proofs.Ytkmhnkljigncmaa.cursor Go.Proofs.Ytkmhnkljigncmaa.marks Go.Proofs.Ytkmhnkljigncmaa.app Go.Proofs.Ytkmhnkljigncmaa.sym Go.Proofs.Ytkmhnkljigncmaa.segs Go.Proofs.Ytkmhnkljigncmaa.matchMath Go.Proofs.Ytkmhnkljigncmaa.matchSpec
set_option maxRecDepth 100000

section
variable {P : Program} {ops : Array Oper} {rest : List Oper} {o : Oper} {a : Act} {w : World} {Q : Exit → Act → World → Prop}
/-- a new variable of a type whose zero value is z -/
theorem rowAlloc (hgd : o.guard = none) (t : TypeId) (ho : o.op = .alloc t) (z : Array Value) (hz : ∀ w, (zeroValue t).run P w = .ok (.agg z) w)
    (h : wpList P ops Q rest (a.put o.dst (.pointer (some ⟨w.heap.size, 0, none⟩))) (w.alloc (.cells z t))) : wpList P ops Q (o :: rest) a w :=
  wpList_plain hgd fun _ hK => by
    unfold Oper.wp execOp
    simp only [ho, Instr.alloc, Sem.run_bind, hz, Result.andThen_ok, newVar, Value.cells]
    exact hK _ _ h
/-- a new variable with a value -/
theorem rowBox (hgd : o.guard = none) (t : TypeId) (x : Operand) (ho : o.op = .box t x) (z : Array Value) (hx : a.eval x = .agg z)
    (h : wpList P ops Q rest (a.put o.dst (.pointer (some ⟨w.heap.size, 0, none⟩))) (w.alloc (.cells z t))) : wpList P ops Q (o :: rest) a w :=
  wpList_plain hgd fun _ hK => by
    unfold Oper.wp execOp
    simp only [ho, hx, Instr.box, Sem.run_bind, Result.andThen_ok, newVar, Value.cells]
    exact hK _ _ h
/-- a literal without elements -/
theorem rowBuild (hgd : o.guard = none) (t : TypeId) (ho : o.op = .build t #[]) (z : Array Value) (hz : P.built t [] = some z)
    (h : wpList P ops Q rest (a.put o.dst (.agg z)) w) : wpList P ops Q (o :: rest) a w :=
  wpList_plain hgd fun _ hK => by
    refine wp_build t #[] ho (by simp [hz]) ?_
    simp only [List.map_toArray, List.map_nil, hz, Option.getD_some]
    exact hK _ _ h
/-- a whole row is written -/
theorem rowStore (hgd : o.guard = none) (ty : TypeId) (x y : Operand) (ho : o.op = .store ty x y) (g : Nat) (cells old : Array Value) (t : TypeId) (hx : a.eval x = .pointer (some ⟨g, 0, none⟩)) (hy : a.eval y = .agg cells)
    (hg : w.heap[g]? = some (.cells old t (0, 0))) (hi : (P.info? ty).map (·.size) = some cells.size) (hs : old.size = cells.size) (h1 : cells.all (·.oneCell') = true)
    (h : wpList P ops Q rest (a.put o.dst undef) (w.setRow g cells)) : wpList P ops Q (o :: rest) a w :=
  wpList_plain hgd fun _ hK => by
    unfold Oper.wp execOp
    simp only [ho, hx, hy, Instr.storeAt, Instr.sureAddr, Sem.run_bind, Sem.run_pure, Result.andThen_ok, run_storeVar_row w g t ty old cells hg hi hs h1]
    exact hK _ _ h
/-- a whole row and a value are the results -/
theorem results_row_tmp {fn : Func} {p u : Tmp} {ty : TypeId} (h : fn.results = #[.cell p ty, .tmp u]) (tmps : Array Value) (g : Nat) (t : TypeId) (cs : Array Value) (d : TypeDesc)
    (hp : tmps.getD p undef = .pointer (some ⟨g, 0, none⟩)) (hg : w.heap[g]? = some (.cells cs t (0, 0)))
    (hu : P.underlying ty = some d) (hd : (match d with | .struct _ | .array _ _ => true | _ => false) = true) (hi : (P.info? ty).map (·.size) = some cs.size) :
    (results fn tmps).run P w = .ok (.tuple #[.agg cs, tmps.getD u undef]) w := by
  rw [results_cell_tmp h, hp]
  simp [asAddr, Result.andThen, run_loadVar_row w g t ty cs (0, 0) d hg hu hd hi]
end

theorem z24_one : z24.all (·.oneCell') = true := by kernel_rfl
theorem info_b : (Try.prog.info? 114).map (fun i => (i.zero, i.size)) = some (some (.agg z24), 24) := by kernel_rfl
theorem zero_b : ∀ w, (zeroValue 114).run Try.prog w = .ok (.agg z24) w := by
  intro w
  cases hq : Try.prog.info? 114 with
  | none => have h := info_b; simp [hq] at h
  | some i => have h := info_b; simp [hq] at h; simp [zeroValue, typeInfo, hq, h.1]
theorem size_b : (Try.prog.info? 114).map (·.size) = some 24 := by kernel_rfl
theorem built_b : Try.prog.built 114 [] = some z24 := by kernel_rfl

section
variable {w w' : World} {B B' g : Nat} {cs : Array Value} {s : List (List Int)} {t : TypeId}
theorem Row.setRow (h : Row w g t cs) (c' : Array Value) : Row (w.setRow g c') g t c' := setRow_heap w g cs c' t (0, 0) h
theorem grown_setRow (w : World) (g : Nat) (c' : Array Value) : w.grownBy (w.setRow g c') (some g) :=
  ⟨rfl, rfl, rfl, by simp, fun k _ hk => setRow_other w g k c' (fun e => hk (by rw [e]))⟩

end
end Go.Proofs.Ytkmhnkljigncmaa.whole
end

section
/-
  PLAIN MATHEMATICS of impl's matching: pattern and term are read in step; a pattern is matched at a place of a term just where it is matched with the subterm there; all terms valid. Conditions: none. By an AI agent.
-/
namespace Go.Proofs.Ytkmhnkljigncmaa.takeMath
open Go.Proofs.Ytkmhnkljigncmaa.sig Go.Proofs.Ytkmhnkljigncmaa.term Go.Proofs.Ytkmhnkljigncmaa.termOk Go.Proofs.Ytkmhnkljigncmaa.termFacts Go.Proofs.Ytkmhnkljigncmaa.endAt Go.Proofs.Ytkmhnkljigncmaa.sub Go.Proofs.Ytkmhnkljigncmaa.termMath Go.Proofs.Ytkmhnkljigncmaa.fillMath Go.Proofs.Ytkmhnkljigncmaa.posMath Go.Proofs.Ytkmhnkljigncmaa.renMath Go.Proofs.Ytkmhnkljigncmaa.matchMath

/-- as many terms are missing in the pattern as in the term -/
def Sync (sg p t : List Int) (i k : Nat) : Prop := ∃ q, scan sg q (p.drop i) = some (p.length - i) ∧ ∃ j, scan sg q (t.drop k) = some j
section
variable {sg p t : List Int} {i k : Nat} {x : Int}
theorem Sync.start (h1 : termOkB sg p = true) (h2 : termOkB sg t = true) (ha : k < t.length) : Sync sg p t 0 k :=
  ⟨1, by rw [List.drop_zero, Nat.sub_zero]; exact (term_parts h1).2.2, _, (term_at h2 ha).1⟩
theorem Sync.lt (h : Sync sg p t i k) (hi : i < p.length) : k < t.length := by
  obtain ⟨q, h1, j, h2⟩ := h
  cases q with
  | zero => rw [scan_zero] at h1; injection h1 with h1; omega
  | succ q =>
    have a := scan_pos h2
    have b := scan_le h2
    rw [List.length_drop] at b
    omega
theorem Sync.sym (h : Sync sg p t i k) (hi : i < p.length) (hx : p.getD i 0 = x) (hy : t.getD k 0 = x) : Sync sg p t (i + 1) (k + 1) := by
  have hk := h.lt hi
  obtain ⟨q, h1, j, h2⟩ := h
  rw [drop_cons hi, hx] at h1
  rw [drop_cons hk, hy] at h2
  cases q with
  | zero => rw [scan_zero] at h1; injection h1 with h1; omega
  | succ q =>
    by_cases hn : ar sg x < 0
    · rw [scan_bad hn] at h1; cases h1
    · rw [scan_step hn, Option.map_eq_some_iff] at h1 h2
      obtain ⟨a, e1, e2⟩ := h1
      obtain ⟨b, e3, e4⟩ := h2
      exact ⟨_, by rw [e1]; congr 1; omega, b, e3⟩
theorem Sync.var (h : Sync sg p t i k) (hi : i < p.length) (hx : p.getD i 0 = x) (h0 : -24 ≤ x) (h1 : x < 0) (hok : termOkB sg t = true) : Sync sg p t (i + 1) (k + (subL sg t k).length) := by
  have hk := h.lt hi
  have hl := (sub_len1 hok hk).1
  obtain ⟨q, h1, j, h2⟩ := h
  rw [drop_cons hi, hx] at h1
  cases q with
  | zero => rw [scan_zero] at h1; injection h1 with h1; omega
  | succ q =>
    have hz : ar sg x = 0 := ar_var (by omega)
    rw [scan_step (by omega), hz, Option.map_eq_some_iff] at h1
    obtain ⟨a, e1, e2⟩ := h1
    obtain ⟨j1, g1, _, _, g2⟩ := scan_first h2
    rw [hl, len1_eq g1]
    exact ⟨q, by rw [show p.length - (i + 1) = a by omega]; exact e1, _, g2⟩
end

/-- at a place of the term: just where the subterm there is an instance -/
theorem mst_at {sg p t : List Int} {k : Nat} (h1 : termOkB sg p = true) (h2 : termOkB sg t = true) (hk : k < t.length) : (mst sg t p k s0).isSome = instB sg p (subL sg t k) := by
  have hx : ∀ x ∈ p, -24 ≤ x := fun x hx => (term_mem h1 hx).1
  have hs := (sub_term h2 hk).1
  obtain ⟨_, e2, e3⟩ := sub_len1 h2 hk
  rw [Bool.eq_iff_iff, inst_iff h1 hs, Option.isSome_iff_exists]
  constructor
  · rintro ⟨s', h⟩
    obtain ⟨⟨rest, e⟩, hv⟩ := mst_sound h2 h (by rfl) hx
    refine ⟨fun i => s'.getD i [], ?_, hv⟩
    have a := scan_append (r := rest) (scan_fill (L := fun i => s'.getD i []) (term_parts h1).2.2 hv)
    rw [← e] at a
    unfold subL
    rw [len1_eq a, e, List.take_left' rfl]
  · rintro ⟨L, hL, hv⟩
    obtain ⟨s', m1, _⟩ := mst_full (sg := sg) (t := t) (L := L) (p := p) (k := k) (s := s0) (rest := t.drop (k + (subL sg t k).length)) (by rw [hL]; exact e2) (by rfl) hx hv (fun i hi => by rw [s0_get] at hi; exact absurd rfl hi)
    exact ⟨s', m1⟩

/-- at most 12, all of them terms -/
def termsB (sg : List Int) (ps : List (List Int)) : Bool := decide (ps.length ≤ 12) && ps.all (termOkB sg)
theorem terms_long {sg : List Int} {ps : List (List Int)} (h : 12 < ps.length) : termsB sg ps = false := by unfold termsB; rw [decide_eq_false (by omega)]; rfl
theorem terms_bad {sg : List Int} {ps : List (List Int)} {i : Nat} (hi : i < ps.length) (h : termOkB sg (ps.getD i []) = false) : termsB sg ps = false := by
  unfold termsB
  have : ps.all (termOkB sg) = false := by
    rw [List.all_eq_false]
    exact ⟨ps[i], List.getElem_mem hi, by simpa [List.getD, hi] using h⟩
  rw [this, Bool.and_false]
theorem terms_good {sg : List Int} {ps : List (List Int)} (h2 : ps.length ≤ 12) (h : ∀ i, i < ps.length → termOkB sg (ps.getD i []) = true) : termsB sg ps = true := by
  unfold termsB
  rw [decide_eq_true h2, Bool.true_and, List.all_eq_true]
  intro x hx
  obtain ⟨i, hi, rfl⟩ := List.getElem_of_mem hx
  have := h i hi
  simpa [List.getD, hi] using this
theorem terms_parts {sg : List Int} {ps : List (List Int)} (h : termsB sg ps = true) : ps.length ≤ 12 ∧ ∀ i, i < ps.length → termOkB sg (ps.getD i []) = true := by
  unfold termsB at h
  rw [Bool.and_eq_true, decide_eq_true_eq, List.all_eq_true] at h
  refine ⟨h.1, fun i hi => ?_⟩
  have := h.2 _ (List.getElem_mem hi)
  simpa [List.getD, hi] using this
end Go.Proofs.Ytkmhnkljigncmaa.takeMath
end

section
/-
  CONTRACT: impl's (*bindings).take. Conditions: the slices read as lists ('Seg') below the bindings' block, the cursor's block is the next one, the term is valid, the place lies in it, the pattern's number is at least -24. By an AI agent.
-/
namespace Go.Proofs.Ytkmhnkljigncmaa.take
open Go.RowKit Go.Proofs.Ytkmhnkljigncmaa.base Go.Proofs.Ytkmhnkljigncmaa.ints Go.Proofs.Ytkmhnkljigncmaa.sig Go.Proofs.Ytkmhnkljigncmaa.same Go.Proofs.Ytkmhnkljigncmaa.term Go.Proofs.Ytkmhnkljigncmaa.termOk Go.Proofs.Ytkmhnkljigncmaa.endAt Go.Proofs.Ytkmhnkljigncmaa.marks Go.Proofs.Ytkmhnkljigncmaa.app Go.Proofs.Ytkmhnkljigncmaa.sym Go.Proofs.Ytkmhnkljigncmaa.sub Go.Proofs.Ytkmhnkljigncmaa.segs Go.Proofs.Ytkmhnkljigncmaa.termFacts Go.Proofs.Ytkmhnkljigncmaa.termMath Go.Proofs.Ytkmhnkljigncmaa.posMath Go.Proofs.Ytkmhnkljigncmaa.cursor Go.Proofs.Ytkmhnkljigncmaa.matchMath Go.Proofs.Ytkmhnkljigncmaa.matchSpec Go.Proofs.Ytkmhnkljigncmaa.whole Go.Proofs.Ytkmhnkljigncmaa.takeMath Go.Proofs.Ytkmhnkljigncmaa.curO
set_option maxRecDepth 100000

theorem set_same {s : List (List Int)} {v : Nat} {ys : List Int} (h : s.getD v [] = ys) (hv : v < s.length) : s.set v ys = s := by
  refine List.ext_getElem (by simp) fun i h1 h2 => ?_
  rw [List.getElem_set]
  split
  · rename_i e
    subst e
    rw [← h]
    simp [List.getD, hv]
  · rfl

/-- bindings in block g, cursor in the next one -/
structure Tk (w : World) (g : Nat) (A : Option Addr) (n c : Nat) (Q : Option Addr) (m mc : Nat) (sg t : List Int) (k : Nat) (s : List (List Int)) : Prop where
  row : Row w (g + 1) 83 #[.slice A n c, .slice Q m mc, .int .i64 k]
  tab : ∃ cs, Row w g 114 cs ∧ TabR w g cs s
  ss : Seg w g A n sg
  st : Seg w g Q m t
  le : k ≤ m
  hn : n ≤ 1048576
  hm : m ≤ 1048576
  ars : Arities sg
  hs : ∀ j, (s.getD j []).length ≤ m
section
variable {w w' : World} {g : Nat} {A : Option Addr} {n c : Nat} {Q : Option Addr} {m mc : Nat} {sg t : List Int} {k k' : Nat} {s : List (List Int)}
theorem Tk.cur (h : Tk w g A n c Q m mc sg t k s) : Cur w (g + 1) A n c Q m mc sg t k := ⟨h.row, h.ss.more (Nat.le_succ _), h.st.more (Nat.le_succ _), h.le, h.hn, h.hm, h.ars⟩
theorem Tk.lt (h : Tk w g A n c Q m mc sg t k s) : g + 1 < w.heap.size := h.row.lt
theorem keep_of {B : Nat} {r : Option Nat} (hg : w.grownBy w' r) (hB : B ≤ w.heap.size) (hr : ∀ k, r = some k → B ≤ k) : ∀ p : Addr, p.block < B → w'.cell? p = w.cell? p :=
  fun q hq => World.cell?_of_block (hg.block q.block (by omega) (fun e => by have := hr _ e.symm; omega))
/-- the cursor has moved -/
theorem Tk.move (h : Tk w g A n c Q m mc sg t k s) (hg : w.grownBy w' (some (g + 1))) (hr : Row w' (g + 1) 83 #[.slice A n c, .slice Q m mc, .int .i64 k']) (hk : k' ≤ m) : Tk w' g A n c Q m mc sg t k' s := by
  have hl := h.lt
  have hk0 := keep_of (B := g) hg (by omega) (fun k e => by injection e; omega)
  obtain ⟨cs, h1, h2⟩ := h.tab
  refine ⟨hr, ⟨cs, (hg.block g (by omega) (fun e => by injection e; omega)).trans h1, h2.keep hk0⟩, h.ss.keep hk0, h.st.keep hk0, hk, h.hn, h.hm, h.ars, h.hs⟩
theorem Tk.drewN (h : Tk w g A n c Q m mc sg t k s) (d : Nat) : Tk (w.drewN d) g A n c Q m mc sg t k s := ⟨h.row, h.tab, h.ss, h.st, h.le, h.hn, h.hm, h.ars, h.hs⟩
/-- a binding is written -/
theorem Tk.put (h : Tk w g A n c Q m mc sg t k s) {j : Nat} (hj : j < 24) {D : Option Addr} {dn dc : Nat} {ys : List Int} (hs : Seg w g D dn ys) (hc : Cap D dn dc) (hl : ys.length ≤ m) :
    Tk (w.setCell ⟨g, j, none⟩ (.slice D dn dc)) g A n c Q m mc sg t k (s.set j ys) := by
  have hlt := h.lt
  have hg : w.grownBy (w.setCell ⟨g, j, none⟩ (.slice D dn dc)) (some g) := grown_put (World.grownBy.refl _ _) _ _
  have hk0 := keep_of (B := g) hg (by omega) (fun k e => by injection e; omega)
  obtain ⟨cs, h1, h2⟩ := h.tab
  exact ⟨h.row.far (show g + 1 ≠ g by omega) _, ⟨_, h1.put j _, (h2.put hj hs hc).keep hk0⟩, h.ss.keep hk0, h.st.keep hk0, h.le, h.hn, h.hm, h.ars, fun i => by rw [set_get]; split; exact hl; exact h.hs i⟩
theorem Tk.held (h : Tk w g A n c Q m mc sg t k s) {j : Nat} (hj : j < 24) : ∃ D dn dc, w.cell? ⟨g, j, none⟩ = some (.slice D dn dc) ∧ Seg w g D dn (s.getD j []) ∧ w.frozen? ⟨g, j, none⟩ = false := by
  obtain ⟨cs, h1, h2⟩ := h.tab
  obtain ⟨D, dn, dc, e, hs, _⟩ := h2.2.2 j hj
  exact ⟨D, dn, dc, by rw [h1.cell j, e], hs, h1.free j⟩
theorem Tk.len (h : Tk w g A n c Q m mc sg t k s) : s.length = 24 := by obtain ⟨cs, h1, h2⟩ := h.tab; exact h2.2.1
end

theorem btw_drewN (lo hi : Nat) (w : World) (d : Nat) : Btw lo hi w (w.drewN d) := ⟨rfl, rfl, rfl, Nat.le_refl _, fun _ _ _ => rfl⟩
/-- what take gives: a step of the walk -/
def AnsTake (w : World) (g : Nat) (A : Option Addr) (n c : Nat) (Q : Option Addr) (m mc : Nat) (sg t : List Int) (k : Nat) (s : List (List Int)) (x : Int) (e : Ending) (w' : World) : Prop :=
  Btw g (g + 2) w w' ∧ ((∃ k' s', e = .returned (.bool true) ∧ Tk w' g A n c Q m mc sg t k' s' ∧ ((0 ≤ x ∧ t.getD k 0 = x ∧ k' = k + 1) ∨ (x < 0 ∧ k' = k + (subL sg t k).length)) ∧ ∀ r, mst sg t (x :: r) k s = mst sg t r k' s') ∨
    (e = .returned (.bool false) ∧ ∀ r, mst sg t (x :: r) k s = none))

set_option maxHeartbeats 1000000 in
theorem take (g : Nat) (A Q : Option Addr) (n c m mc : Nat) (sg t : List Int) (k : Nat) (s : List (List Int)) (x : Int) (w : World) (h : Tk w g A n c Q m mc sg t k s) (hk : k < m) (hmc : m ≤ mc) (hmc2 : mc ≤ 9223372036854775807) (hx : -24 ≤ x) (hok : termOkB sg t = true) :
    Calls Try.prog 140 #[.pointer (some ⟨g, 0, none⟩), .int .i64 x, .pointer (some ⟨g + 1, 0, none⟩)] w (AnsTake w g A n c Q m mc sg t k s x) := by
  have HT := Lib.hid hok
  have HL := Lib.hid h.st.1
  have hkt : ¬ t.length ≤ k := by rw [HL.out]; omega
  have hm := h.hm
  have c1 : w.cell? ⟨g + 1, 1, none⟩ = some (.slice Q m mc) := h.row.cell 1
  have c2 : w.cell? ⟨g + 1, 2, none⟩ = some (.int .i64 k) := h.row.cell 2
  have f2 : w.frozen? ⟨g + 1, 2, none⟩ = false := h.row.free 2
  obtain ⟨b, off, y, rfl, hbb, hy, ey⟩ := h.st.spot hk
  have i0 : (0 : Int) ≤ (k : Int) := by omega
  have i1 : (k : Int) < (m : Int) := by omega
  clear hok
  by_cases hx0 : 0 ≤ x
  · have g0 : w.grownBy (w.setCell ⟨g + 1, 2, none⟩ (.int .i64 ((k : Int) + 1))) (some (g + 1)) := grown_put (World.grownBy.refl _ _) _ _
    have M := Lib.hid (h.move (k' := k + 1) g0 (by have r := h.row.put 2 (.int .i64 ((k : Int) + 1)); have e : (.int .i64 ((k : Int) + 1) : Value) = .int .i64 ((k + 1 : Nat) : Int) := by simp
                                                   rw [← e]; exact r) hk)
    have B := Lib.hid (Btw.of_grown (lo := g) (hi := g + 2) g0 (fun k e => by injection e; omega))
    have hy1 : (w.setCell ⟨g + 1, 2, none⟩ (.int .i64 ((k : Int) + 1))).cell? ⟨b, off + k, none⟩ = some (.int .i64 y) := (World.cell?_setCell_far w ⟨g + 1, 2, none⟩ ⟨b, off + k, none⟩ _ (by show g + 1 ≠ b; omega)).trans hy
    by_cases hxy : x = y
    · subst hxy
      have F := fun d => (show AnsTake w g A n c (some ⟨b, off, none⟩) m mc sg t k s x (.returned (.bool true)) ((w.setCell ⟨g + 1, 2, none⟩ (.int .i64 ((k : Int) + 1))).drewN d) from
        ⟨B.out.trans (btw_drewN _ _ _ d), .inl ⟨k + 1, s, rfl, M.out.drewN d, .inl ⟨hx0, ey.out, rfl⟩, fun r => mst_sym hkt hx0 ey.out.symm⟩⟩)
      have HF := Lib.hid F
      clear F M B g0 h ey
      go_enter Try.func140, Try.ntmps140
      go_wp2
      go_quiet (fail)
      go_wp2
      go_ret
      exact HF.out _
    · have hd : (y == x) = false := by simp; exact fun e => hxy e.symm
      have F := fun d => (show AnsTake w g A n c (some ⟨b, off, none⟩) m mc sg t k s x (.returned (.bool false)) ((w.setCell ⟨g + 1, 2, none⟩ (.int .i64 ((k : Int) + 1))).drewN d) from
        ⟨B.out.trans (btw_drewN _ _ _ d), .inr ⟨rfl, fun r => mst_symNo hkt hx0 (by rw [ey.out]; exact hxy)⟩⟩)
      have HF := Lib.hid F
      clear F M B g0 h ey
      go_enter Try.func140, Try.ntmps140
      go_wp2
      go_quiet (fail)
      go_wp2
      go_ret
      exact HF.out _
  · obtain ⟨v, hv⟩ : ∃ v : Nat, x = -1 - (v : Int) := ⟨(-1 - x).toNat, by omega⟩
    subst hv
    have hv24 : v < 24 := by omega
    have HVR := Lib.hid (show vr (-1 - (v : Int)) = v by unfold vr; omega)
    obtain ⟨t1, t2, t3⟩ := term_at HT.out (show k < t.length by rw [HL.out]; exact hk)
    rw [HL.out] at t3
    obtain ⟨j, hj⟩ : ∃ j, len1 sg t k = j := ⟨_, rfl⟩
    have hsl := (sub_len1 HT.out (show k < t.length by rw [HL.out]; exact hk)).1
    have hsub : subL sg t k = (t.drop k).take j := by unfold subL; rw [hj]
    rw [hj] at t1 t2 t3 hsl
    obtain ⟨ys, hys⟩ : ∃ ys, subL sg t k = ys := ⟨_, rfl⟩
    rw [hys] at hsl hsub
    have HYS := Lib.hid hys
    have HSUB := Lib.hid hsub
    have HSL := Lib.hid hsl
    have T1 := Lib.hid t1
    have C := Lib.hid h.cur
    have HH := Lib.hid h
    have HKT := Lib.hid hkt
    have a1 : (k : Int) ≤ (k : Int) + (j : Int) := by omega
    have a2 : (k : Int) + (j : Int) ≤ (mc : Int) := by omega
    have a3 : ¬ mc = k := by omega
    have a4 : k + j ≤ mc := by omega
    have w1 : IntKind.i64.wrap (-1 - (-1 - (v : Int))) = (v : Int) := by rw [IntKind.wrap_i64]; omega
    have w2 : IntKind.i64.wrap (v : Int) = (v : Int) := by rw [IntKind.wrap_i64]; omega
    have j0 : (0 : Int) ≤ (v : Int) := by omega
    have j1 : (v : Int) < 24 := by omega
    clear hj hys hsub hsl t1 hy ey f2 hkt h
    go_enter Try.func140, Try.ntmps140
    have C2 := Lib.hid (C.out.drewN 1)
    go_wp2_with fail
    go_region_held3 (fun _ => True) (trivial)
      (first
        | (go_at_call 116; refine (partC (g + 1) A n c b off m mc sg t k j w.drew C2.out T1.out t3 t2 hmc hmc2).mono ?_; rintro e w3 ⟨rfl, hg0, hc⟩))
    · have hg : w.grownBy w3 (some (g + 1)) := grown_trans (World.grownBy.refl w _) ⟨hg0.os, hg0.tape, hg0.output, hg0.size, hg0.block⟩
      have M := HH.out.move hg hc.row t3
      have b3 := Btw.of_grown (lo := g) (hi := g + 2) hg (fun k e => by injection e; omega)
      obtain ⟨D, dn, dc, ch, sh, fh⟩ := M.held hv24
      obtain ⟨os, hos⟩ : ∃ os, s.getD v [] = os := ⟨_, rfl⟩
      have hdn : dn ≤ 1048576 := by rw [← sh.1]; exact Nat.le_trans (M.hs v) hm
      rw [hos] at sh
      have HOS := Lib.hid hos
      have HSH := Lib.hid sh
      have HM := Lib.hid M
      have HB := Lib.hid b3
      have cut := Lib.hid (Seg.cut (a := k) (j := j) M.st t3)
      clear hc hg hg0 hos sh b3 M C C2 c1 c2
      have HC := Lib.hid (show Cap (some ⟨b, off + k, none⟩) j (mc - k) from ⟨by omega, by omega, fun e => by cases e⟩)
      have hj60 : j ≤ 1048576 := by omega
      have HJ := Lib.hid (show 1 ≤ j from t2)
      by_cases hd0 : dn = 0
      · subst hd0
        have hno : ¬ ((s.getD (vr (-1 - (v : Int))) []).length ≠ 0 ∧ s.getD (vr (-1 - (v : Int))) [] ≠ subL sg t k) := by
          rw [HVR.out, HOS.out, HSH.out.1]
          exact fun e => e.1 rfl
        have R := Lib.hid (fun r => mst_var (sg := sg) (r := r) HKT.out (show ¬ 0 ≤ -1 - (v : Int) by omega) hno)
        have P := Lib.hid (HM.out.put (j := v) (D := some ⟨b, off + k, none⟩) (dn := j) (dc := mc - k) (ys := ys) hv24 (by rw [HSUB.out]; exact cut.out) HC.out (by rw [HSL.out]; omega))
        have BP := Lib.hid (HB.out.trans (Btw.of_grown (lo := g) (hi := g + 2) (grown_put (World.grownBy.refl w3 (some g)) v (.slice (some ⟨b, off + k, none⟩) j (mc - k))) (fun k e => by injection e; omega)))
        have ce := World.cell?_setCell_same w3 ⟨g, v, none⟩ (.slice (some ⟨b, off + k, none⟩) j (mc - k)) (show w3.cell? ⟨g, v, none⟩ = some (.slice D 0 dc) from ch)
        have PS := Lib.hid (show Seg (w3.setCell ⟨g, v, none⟩ (.slice (some ⟨b, off + k, none⟩) j (mc - k))) (w3.setCell ⟨g, v, none⟩ (.slice (some ⟨b, off + k, none⟩) j (mc - k))).heap.size (some ⟨b, off + k, none⟩) j ys from by
          have q := cut.out.put (p := ⟨g, v, none⟩) (Nat.le_refl _) (.slice (some ⟨b, off + k, none⟩) j (mc - k))
          rw [← HSUB.out] at q
          exact q.more (by have := P.out.lt; omega))
        clear HM HB hno
        go_wp2_with fail
        refine (implSame _ _ j j _ _ ys ys _ PS.out PS.out hj60 hj60).mono ?_
        rintro e w5 ⟨rfl, d, rfl⟩
        rw [decide_eq_true (show ys = ys from rfl)]
        have F : AnsTake w g A n c (some ⟨b, off, none⟩) m mc sg t k s (-1 - (v : Int)) (.returned (.bool true)) ((w3.setCell ⟨g, v, none⟩ (.slice (some ⟨b, off + k, none⟩) j (mc - k))).drewN d) :=
          ⟨BP.out.trans (btw_drewN _ _ _ d), .inl ⟨k + j, s.set v ys, rfl, P.out.drewN d, .inr ⟨by omega, by rw [HYS.out, HSL.out]⟩, fun r => by rw [R.out r, HVR.out, HYS.out, HSL.out]⟩⟩
        have HF := Lib.hid F
        clear F R P BP ce PS cut
        go_wp2
        go_ret
        exact HF.out
      · have hdz : ((dn : Int) == 0) = false := by simp; omega
        have hwg := Lib.hid (show g ≤ w3.heap.size by have := HM.out.lt; omega)
        have PS := Lib.hid (show Seg w3 w3.heap.size (some ⟨b, off + k, none⟩) j ys from by
          have q := cut.out
          rw [← HSUB.out] at q
          exact q.more hwg.out)
        have PO := Lib.hid (show Seg w3 w3.heap.size D dn os from HSH.out.more hwg.out)
        by_cases hoy : os = ys
        · have hno : ¬ ((s.getD (vr (-1 - (v : Int))) []).length ≠ 0 ∧ s.getD (vr (-1 - (v : Int))) [] ≠ subL sg t k) := by
            rw [HVR.out, HOS.out, HYS.out]
            exact fun e => e.2 hoy
          have R := Lib.hid (fun r => mst_var (sg := sg) (r := r) HKT.out (show ¬ 0 ≤ -1 - (v : Int) by omega) hno)
          have SS := Lib.hid (show s.set v ys = s from set_same (HOS.out.trans hoy) (by rw [HM.out.len]; exact hv24))
          have DS := Lib.hid (decide_eq_true hoy)
          clear cut hno hoy
          go_wp2_with fail
          refine (implSame _ _ dn j _ _ os ys _ PO.out PS.out hdn hj60).mono ?_
          rintro e w5 ⟨rfl, d, rfl⟩
          rw [DS.out]
          have F : AnsTake w g A n c (some ⟨b, off, none⟩) m mc sg t k s (-1 - (v : Int)) (.returned (.bool true)) (w3.drewN d) :=
            ⟨HB.out.trans (btw_drewN _ _ _ d), .inl ⟨k + j, s, rfl, HM.out.drewN d, .inr ⟨by omega, by rw [HYS.out, HSL.out]⟩, fun r => by rw [R.out r, HVR.out, HYS.out, HSL.out, SS.out]⟩⟩
          have HF := Lib.hid F
          clear F R SS DS PS PO HM HB
          go_wp2
          go_ret
          exact HF.out
        · have hyes : (s.getD (vr (-1 - (v : Int))) []).length ≠ 0 ∧ s.getD (vr (-1 - (v : Int))) [] ≠ subL sg t k := by
            rw [HVR.out, HOS.out, HYS.out]
            exact ⟨by rw [HSH.out.1]; exact hd0, hoy⟩
          have R := Lib.hid (fun r => mst_varNo (sg := sg) (r := r) HKT.out (show ¬ 0 ≤ -1 - (v : Int) by omega) hyes)
          have DS := Lib.hid (decide_eq_false hoy)
          clear cut hyes hoy
          go_wp2_with fail
          refine (implSame _ _ dn j _ _ os ys _ PO.out PS.out hdn hj60).mono ?_
          rintro e w5 ⟨rfl, d, rfl⟩
          rw [DS.out]
          have F : AnsTake w g A n c (some ⟨b, off, none⟩) m mc sg t k s (-1 - (v : Int)) (.returned (.bool false)) (w3.drewN d) :=
            ⟨HB.out.trans (btw_drewN _ _ _ d), .inr ⟨rfl, R.out⟩⟩
          have HF := Lib.hid F
          clear F R DS PS PO HM HB
          go_wp2
          go_ret
          exact HF.out
end Go.Proofs.Ytkmhnkljigncmaa.take
end
