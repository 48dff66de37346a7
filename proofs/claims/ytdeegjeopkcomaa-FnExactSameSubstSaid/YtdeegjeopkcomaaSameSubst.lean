/-
  CONTRACTS: spec.SameSubst, impl.SameSubst. Conditions: the slices read as lists ('Seg', 'Segs'), at most 1048576 values. (The regions' walks by wip/tools/reg.py.) By an AI agent.
-/
import Derived.Test.YtdeegjeopkcomaaGives
import Derived.Test.YtdeegjeopkcomaaSame
import Derived.Test.YtdeegjeopkcomaaKinds
import Derived.Deep.RegionHeld3
namespace Go.Proofs.Ytdeegjeopkcomaa.sameSubst
open Go.RowKit Go.Proofs.Ytdeegjeopkcomaa.base Go.Proofs.Ytdeegjeopkcomaa.ints Go.Proofs.Ytdeegjeopkcomaa.sig Go.Proofs.Ytdeegjeopkcomaa.same Go.Proofs.Ytdeegjeopkcomaa.marks Go.Proofs.Ytdeegjeopkcomaa.sym Go.Proofs.Ytdeegjeopkcomaa.segs Go.Proofs.Ytdeegjeopkcomaa.segsHelp Go.Proofs.Ytdeegjeopkcomaa.kinds Go.Proofs.Ytdeegjeopkcomaa.varsOf Go.Proofs.Ytdeegjeopkcomaa.fillMath Go.Proofs.Ytdeegjeopkcomaa.look Go.Proofs.Ytdeegjeopkcomaa.substOk Go.Proofs.Ytdeegjeopkcomaa.gives
set_option maxRecDepth 100000

/-- what SameSubst answers -/
def sameG (a b : List (List Int)) : Bool := (List.range 24).all fun i => decide (givesL a i = givesL b i)
def sameB (sg : List Int) (a b : List (List Int)) : Bool := substOkB sg a && (substOkB sg b && sameG a b)
theorem sameG_yes {a b : List (List Int)} (h : ∀ i, i < 24 → givesL a i = givesL b i) : sameG a b = true := by
  unfold sameG
  rw [List.all_eq_true]
  intro i hi
  exact decide_eq_true (h i (List.mem_range.1 hi))
theorem sameG_no {a b : List (List Int)} {i : Nat} (hi : i < 24) (h : givesL a i ≠ givesL b i) : sameG a b = false := by
  cases e : sameG a b with
  | false => rfl
  | true =>
    unfold sameG at e
    rw [List.all_eq_true] at e
    exact absurd (of_decide_eq_true (e i (List.mem_range.2 hi))) h
theorem sameG_iff {a b : List (List Int)} : sameG a b = true ↔ ∀ i, i < 24 → givesL a i = givesL b i := by
  refine ⟨fun e i hi => ?_, sameG_yes⟩
  unfold sameG at e
  rw [List.all_eq_true] at e
  exact of_decide_eq_true (e i (List.mem_range.2 hi))
theorem same_a {sg : List Int} {a b : List (List Int)} (h : substOkB sg a = false) : sameB sg a b = false := by unfold sameB; rw [h, Bool.false_and]
theorem same_b {sg : List Int} {a b : List (List Int)} (h : substOkB sg b = false) : sameB sg a b = false := by unfold sameB; rw [h, Bool.false_and, Bool.and_false]
theorem same_ab {sg : List Int} {a b : List (List Int)} (h : substOkB sg a = true) (h' : substOkB sg b = true) : sameB sg a b = sameG a b := by unfold sameB; rw [h, h', Bool.true_and, Bool.true_and]
/-- three boxes -/
theorem boxesSS (w : World) (A : Option Addr) (n c : Nat) (S : Option Addr) (m c' : Nat) (T : Option Addr) (q cq : Nat) : ∃ W, W = ((w.alloc (.cells #[.slice A n c] 26)).alloc (.cells #[.slice S m c'] 29)).alloc (.cells #[.slice T q cq] 29) ∧
    Row W w.heap.size 26 #[.slice A n c] ∧ Row W (w.heap.size + 1) 29 #[.slice S m c'] ∧ Row W (w.heap.size + 2) 29 #[.slice T q cq] ∧ Below w.heap.size w W := by
  obtain ⟨W, hW, r1, r2, b⟩ := boxes2 w A n c S m c'
  have hz : W.heap.size = w.heap.size + 2 := by rw [hW]; simp
  refine ⟨_, rfl, ?_, ?_, ?_, ?_⟩
  · rw [← hW]; exact r1.alloc _
  · rw [← hW]; exact r2.alloc _
  · rw [← hW, ← hz]; exact Row.new _ _ _
  · rw [← hW]; exact b.alloc b.size _

theorem gives_each {ss : List (List Int)} (h : ∀ j, (ss.getD j []).length ≤ 1048576) (i : Nat) : (givesL ss i).length ≤ 1048576 := by
  unfold givesL
  split
  · simp [vt]
  · exact h i
theorem lookupB (S : Option Addr) (m c : Nat) (w : World) :
    Calls Try.prog 64 #[.agg #[.slice S m c]] w fun e w' => e = .returned (.func (.func 105) #[] #[.pointer (some ⟨w.heap.size, 0, none⟩)]) ∧ Row w' w.heap.size 29 #[.slice S m c] ∧ Below w.heap.size w w' :=
  (lookupIn S m c w).mono fun _ _ ⟨he, hw⟩ => ⟨he, by rw [hw]; exact Row.new _ _ _, by rw [hw]; exact (Below.refl _ _).alloc (Nat.le_refl _) _⟩

/-- the head of both loops: the boxes of the two substitutions lie at b1 and b2 -/
def HeadSS (w : World) (b1 b2 : Nat) (S : Option Addr) (m c : Nat) (T : Option Addr) (q cq : Nat) (xa xb : List (List Int)) (i : Value) (wr : World) : Prop :=
  ∃ k : Nat, k ≤ 24 ∧ i = .int .i64 k ∧ (∀ j, j < k → givesL xa j = givesL xb j) ∧ Row wr b1 29 #[.slice S m c] ∧ Row wr b2 29 #[.slice T q cq] ∧ Below w.heap.size w wr
theorem headSS_step {w wr w2 : World} {b1 b2 m c q cq k : Nat} {S T : Option Addr} {xa xb : List (List Int)} (hk : k < 24) (h : ∀ j, j < k → givesL xa j = givesL xb j) (he : givesL xa k = givesL xb k)
    (r1 : Row wr b1 29 #[.slice S m c]) (r2 : Row wr b2 29 #[.slice T q cq]) (hb : Below w.heap.size w wr) (bb : Below wr.heap.size wr w2) : HeadSS w b1 b2 S m c T q cq xa xb (.int .i64 ((k : Int) + 1)) w2 :=
  ⟨k + 1, hk, by simp, fun j hj => by
    by_cases e : j = k
    · rw [e]; exact he
    · exact h j (by omega), r1.next bb, r2.next bb, next_trans hb bb⟩

set_option maxHeartbeats 8000000 in
theorem specSameSubst (A S T : Option Addr) (n c m c' q cq : Nat) (sg : List Int) (xa xb : List (List Int)) (w : World) (h : Seg w w.heap.size A n sg) (h' : Segs w w.heap.size S m xa) (h2 : Segs w w.heap.size T q xb) (hn : n ≤ 1048576) (ht : tot xa ≤ 1048576) (ht2 : tot xb ≤ 1048576) :
    Calls Try.prog 28 #[.agg #[.slice A n c], .agg #[.slice S m c'], .agg #[.slice T q cq]] w (AnsB w (sameB sg xa xb)) := by
  obtain ⟨W, hW, rA, rS, rT, bel⟩ := boxesSS w A n c S m c' T q cq
  have HW := Lib.hid hW
  have hm : m ≤ 1048576 := tot_len h'.1 ht
  have hq : q ≤ 1048576 := tot_len h2.1 ht2
  have HE1 := Lib.hid (tot_each ht)
  have HE2 := Lib.hid (tot_each ht2)
  have HT1 := Lib.hid ht
  have HT2 := Lib.hid ht2
  have s := h.next bel
  have s1 := h'.next bel
  have s2 := h2.next bel
  have L := Lib.hid (specSubstOk A S n c m c' sg xa W s s1 hn ht)
  clear hW ht ht2
  cases hok : substOkB sg xa with
  | false =>
    have HS := Lib.hid hok
    clear hok s s1 s2 h h' h2
    go_enter Try.func28, Try.ntmps28
    go_wp2_with fail
    rw [← HW.out]
    refine L.out.mono ?_
    rintro e w1 ⟨he, bb⟩
    rw [HS.out] at he
    subst he
    have F := Lib.hid (ansB (b := sameB sg xa xb) (a := false) (by rw [same_a HS.out]) (next_trans bel bb))
    clear bb bel rA rS rT
    go_wp2
    go_ret
    exact F.out
  | true =>
    have HS := Lib.hid hok
    clear hok
    go_enter Try.func28, Try.ntmps28
    go_wp2_with fail
    rw [← HW.out]
    refine L.out.mono ?_
    rintro e w1 ⟨he, bb⟩
    rw [HS.out] at he
    subst he
    replace s := s.next bb
    replace s1 := s1.next bb
    replace s2 := s2.next bb
    replace rA := rA.next bb
    replace rS := rS.next bb
    replace rT := rT.next bb
    replace bel := next_trans bel bb
    have cA : w1.cell? ⟨w.heap.size, 0, none⟩ = some (.slice A n c) := rA.cell 0
    have cT : w1.cell? ⟨w.heap.size + 2, 0, none⟩ = some (.slice T q cq) := rT.cell 0
    have L2 := Lib.hid (specSubstOk A T n c q cq sg xb w1 s s2 hn HT2.out)
    clear bb L
    cases hok2 : substOkB sg xb with
    | false =>
      have HS2 := Lib.hid hok2
      clear hok2 s s1 s2 h h' h2
      go_wp2_with fail
      refine L2.out.mono ?_
      rintro e w2 ⟨he, bb⟩
      rw [HS2.out] at he
      subst he
      have F := Lib.hid (ansB (b := sameB sg xa xb) (a := false) (by rw [same_b HS2.out]) (next_trans bel bb))
      clear bb bel rA rS rT cA cT L2
      go_wp2
      go_ret
      exact F.out
    | true =>
      have HS2 := Lib.hid hok2
      clear hok2
      go_wp2_with fail
      refine L2.out.mono ?_
      rintro e w2 ⟨he, bb⟩
      rw [HS2.out] at he
      subst he
      replace s1 := s1.next bb
      replace s2 := s2.next bb
      replace rS := rS.next bb
      replace rT := rT.next bb
      replace bel := next_trans bel bb
      clear bb L2 cA cT rA s
      have H0 : HeadSS w (w.heap.size + 1) (w.heap.size + 2) S m c' T q cq xa xb (.int .i64 0) w2 := ⟨0, Nat.zero_le _, rfl, fun j hj => absurd hj (Nat.not_lt_zero _), rS, rT, bel⟩
      have HH := Lib.hid H0
      clear H0 s1 s2 rS rT bel
      go_wp2_with fail
      go_loopw [7] (fun i wr => HeadSS w (w.heap.size + 1) (w.heap.size + 2) S m c' T q cq xa xb i wr) (fun i _ => 24 - (intOf i).toNat)
      case atStart => exact HH.out
      case round =>
        obtain ⟨k, hk, rfl, hlow, r1, r2, hb⟩ := hrel
        clear HH
        have HLOW := Lib.hid hlow
        clear hlow
        by_cases hlt : k < 24
        · have i0 : (0 : Int) ≤ (k : Int) := by omega
          have cS : wr.cell? ⟨w.heap.size + 1, 0, none⟩ = some (.slice S m c') := r1.cell 0
          have cT : wr.cell? ⟨w.heap.size + 2, 0, none⟩ = some (.slice T q cq) := r2.cell 0
          have LG := Lib.hid (l2Gives S m c' xa k wr.drew (((h'.below hb).more hb.size).drew) HT1.out (by omega))
          have t2 := (((h2.below hb).more hb.size).drew)
          have rd1 := r1.drew
          have rd2 := r2.drew
          have hya : (givesL xa k).length ≤ 1048576 := gives_each HE1.out k
          have hyb : (givesL xb k).length ≤ 1048576 := gives_each HE2.out k
          obtain ⟨ya, hya2⟩ : ∃ ya, givesL xa k = ya := ⟨_, rfl⟩
          rw [hya2] at LG hya
          have HYA := Lib.hid hya2
          clear hya2 h h' h2
          obtain ⟨z, hz⟩ : ∃ z, decide (ya = givesL xb k) = z := ⟨_, rfl⟩
          have HZ := Lib.hid hz
          clear hz
          go_wp2_with fail
          refine wp_region_held_drew (S := (fun w' => w'.cell? ⟨w.heap.size + 1, 0, none⟩ = some (.slice S m c') ∧ w'.cell? ⟨w.heap.size + 2, 0, none⟩ = some (.slice T q cq))) (by kernel_rfl) ⟨cS, cT⟩ (fun hHeld => ?_)
          refine wpAnyH_take (i := 0) (v := ?_) rfl (by kernel_rfl) (by kernel_rfl) (by kernel_rfl) (fun _ _ _ h => h) (Or.inl ⟨by rfl, ?_⟩) (by assumption) ?_
          rotate_left 1
          · (intro w0 hSw; (try dsimp only at hSw); go_simp; try with_reducible rfl)
          try simp only [Act.put, List.setIfInBounds_toArray, List.set_cons_zero, List.set_cons_succ, List.getElem_toArray, List.getElem_cons_zero, List.getElem_cons_succ]
          refine wpAnyH_take (i := 1) (v := ?_) rfl (by kernel_rfl) (by kernel_rfl) (by kernel_rfl) (fun _ _ _ h => h) (Or.inl ⟨by rfl, ?_⟩) (by assumption) ?_
          rotate_left 1
          · (intro w0 hSw; (try dsimp only at hSw); go_simp; try with_reducible rfl)
          try simp only [Act.put, List.setIfInBounds_toArray, List.set_cons_zero, List.set_cons_succ, List.getElem_toArray, List.getElem_cons_zero, List.getElem_cons_succ]
          refine wpAnyH_take (i := 3) (v := ?_) rfl (by kernel_rfl) (by kernel_rfl) (by kernel_rfl) (fun _ _ _ h => h) (Or.inl ⟨by rfl, ?_⟩) (by assumption) ?_
          rotate_left 1
          · (intro w0 hSw; (try dsimp only at hSw); go_simp; try with_reducible rfl)
          try simp only [Act.put, List.setIfInBounds_toArray, List.set_cons_zero, List.set_cons_succ, List.getElem_toArray, List.getElem_cons_zero, List.getElem_cons_succ]
          refine wpAnyH_take (i := 4) (v := ?_) rfl (by kernel_rfl) (by kernel_rfl) (by kernel_rfl) (fun _ _ _ h => h) (Or.inl ⟨by rfl, ?_⟩) (by assumption) ?_
          rotate_left 1
          · (intro w0 hSw; (try dsimp only at hSw); go_simp; try with_reducible rfl)
          try simp only [Act.put, List.setIfInBounds_toArray, List.set_cons_zero, List.set_cons_succ, List.getElem_toArray, List.getElem_cons_zero, List.getElem_cons_succ]
          refine wpAnyH_ready (rs := [2]) (by kernel_rfl) (by simp) (AllReadyH.cons rfl (fun K hK => ?_) AllReadyH.nil)
          go_simp
          refine LG.out.mono ?_; rintro e w3 ⟨X, xn, xc, rfl, oa, b1⟩; have u1 := rd1.next b1; have u2 := rd2.next b1; have x1 : w3.cell? ⟨w.heap.size + 1, 0, none⟩ = some (.slice S m c') := u1.cell 0; have x2 : w3.cell? ⟨w.heap.size + 2, 0, none⟩ = some (.slice T q cq) := u2.cell 0; go_wp2_with fail
          refine hK.out _ _ ?_ (fun hHeld => ?_)
          · first | assumption | (dsimp only; assumption) | exact ⟨by assumption, by assumption⟩
          clear hK K
          try simp only [Act.put, List.setIfInBounds_toArray, List.set_cons_zero, List.set_cons_succ, List.getElem_toArray, List.getElem_cons_zero, List.getElem_cons_succ]
          refine wpAnyH_ready (rs := [5]) (by kernel_rfl) (by simp) (AllReadyH.cons rfl (fun K hK => ?_) AllReadyH.nil)
          go_simp
          refine (l2Gives T q cq xb k w3 (t2.next b1) HT2.out (by omega)).mono ?_; rintro e w4 ⟨Y, yn, yc, rfl, ob, b2⟩; have oa2 := oa.next b2; have v1 := u1.next b2; have v2 := u2.next b2; have x1 : w4.cell? ⟨w.heap.size + 1, 0, none⟩ = some (.slice S m c') := v1.cell 0; have x2 : w4.cell? ⟨w.heap.size + 2, 0, none⟩ = some (.slice T q cq) := v2.cell 0; go_wp2_with fail
          refine hK.out _ _ ?_ (fun hHeld => ?_)
          · first | assumption | (dsimp only; assumption) | exact ⟨by assumption, by assumption⟩
          clear hK K
          try simp only [Act.put, List.setIfInBounds_toArray, List.set_cons_zero, List.set_cons_succ, List.getElem_toArray, List.getElem_cons_zero, List.getElem_cons_succ]
          refine wpAnyH_ready (rs := [6]) (by kernel_rfl) (by simp) (AllReadyH.cons rfl (fun K hK => ?_) AllReadyH.nil)
          go_simp
          refine (specSame X Y xn yn xc yc ya (givesL xb k) w4 (Own.seg oa2) (Own.seg ob) (by rw [Own.len oa]; exact hya) (by rw [Own.len ob]; exact hyb)).mono ?_; rintro e w5 ⟨he, d, rfl⟩; rw [HZ.out] at he; subst he; have x1 : (w4.drewN d).cell? ⟨w.heap.size + 1, 0, none⟩ = some (.slice S m c') := (v1.drewN d).cell 0; have x2 : (w4.drewN d).cell? ⟨w.heap.size + 2, 0, none⟩ = some (.slice T q cq) := (v2.drewN d).cell 0; go_wp2_with fail
          refine hK.out _ _ ?_ (fun hHeld => ?_)
          · first | assumption | (dsimp only; assumption) | exact ⟨by assumption, by assumption⟩
          clear hK K
          try simp only [Act.put, List.setIfInBounds_toArray, List.set_cons_zero, List.set_cons_succ, List.getElem_toArray, List.getElem_cons_zero, List.getElem_cons_succ]
          refine wpAnyH_take (i := 7) (v := ?_) rfl (by kernel_rfl) (by kernel_rfl) (by kernel_rfl) (fun _ _ _ h => h) (Or.inl ⟨by rfl, ?_⟩) (by assumption) ?_
          rotate_left 1
          · (intro w0 hSw; (try dsimp only at hSw); go_simp; try with_reducible rfl)
          try simp only [Act.put, List.setIfInBounds_toArray, List.set_cons_zero, List.set_cons_succ, List.getElem_toArray, List.getElem_cons_zero, List.getElem_cons_succ]
          refine wpAnyH_done (by kernel_rfl) ?_ _
          have HB : Hid (Below wr.heap.size wr (w4.drewN d)) := Lib.hid (next_trans (drew_below wr) (next_trans b1 (next_trans b2 (drewN_below _ d))))
          clear b1 b2 oa oa2 ob u1 u2 v1 v2 x1 x2 cS cT rd1 rd2 t2 LG
          cases z with
          | true =>
            have S1 := Lib.hid (headSS_step (xa := xa) (xb := xb) hlt HLOW.out (HYA.out.trans (of_decide_eq_true HZ.out)) r1 r2 hb HB.out)
            clear r1 r2 hb
            go_wp2
            go_roundw
            case rel => exact S1.out
            case measure => simp [intOf]; omega
          | false =>
            have F := Lib.hid (ansB (b := sameB sg xa xb) (a := false) (by rw [same_ab HS.out HS2.out, sameG_no hlt (by rw [HYA.out]; exact of_decide_eq_false HZ.out)]) (next_trans hb HB.out))
            clear r1 r2 hb
            go_wp2
            go_ret
            exact F.out
        · have F := Lib.hid (ansB (b := sameB sg xa xb) (a := true) (by rw [same_ab HS.out HS2.out, sameG_yes (fun i hi => HLOW.out i (by omega))]) hb)
          clear r1 r2 hb h h' h2
          go_wp2
          go_ret
          exact F.out

set_option maxHeartbeats 8000000 in
theorem implSameSubst (A S T : Option Addr) (n c m c' q cq : Nat) (sg : List Int) (xa xb : List (List Int)) (w : World) (h : Seg w w.heap.size A n sg) (h' : Segs w w.heap.size S m xa) (h2 : Segs w w.heap.size T q xb) (hn : n ≤ 1048576) (ht : tot xa ≤ 1048576) (ht2 : tot xb ≤ 1048576) :
    Calls Try.prog 27 #[.agg #[.slice A n c], .agg #[.slice S m c'], .agg #[.slice T q cq]] w (AnsB w (sameB sg xa xb)) := by
  obtain ⟨W, hW, rA, rS, rT, bel⟩ := boxesSS w A n c S m c' T q cq
  have HW := Lib.hid hW
  have hm : m ≤ 1048576 := tot_len h'.1 ht
  have hq : q ≤ 1048576 := tot_len h2.1 ht2
  have HE1 := Lib.hid (tot_each ht)
  have HE2 := Lib.hid (tot_each ht2)
  have HT1 := Lib.hid ht
  have HT2 := Lib.hid ht2
  have s := h.next bel
  have s1 := h'.next bel
  have s2 := h2.next bel
  have L := Lib.hid (implSubstOk A S n c m c' sg xa W s s1 hn ht)
  clear hW ht ht2
  cases hok : substOkB sg xa with
  | false =>
    have HS := Lib.hid hok
    clear hok s s1 s2 h h' h2
    go_enter Try.func27, Try.ntmps27
    go_wp2_with fail
    rw [← HW.out]
    refine L.out.mono ?_
    rintro e w1 ⟨he, bb⟩
    rw [HS.out] at he
    subst he
    have F := Lib.hid (ansB (b := sameB sg xa xb) (a := false) (by rw [same_a HS.out]) (next_trans bel bb))
    clear bb bel rA rS rT
    go_wp2
    go_ret
    exact F.out
  | true =>
    have HS := Lib.hid hok
    clear hok
    go_enter Try.func27, Try.ntmps27
    go_wp2_with fail
    rw [← HW.out]
    refine L.out.mono ?_
    rintro e w1 ⟨he, bb⟩
    rw [HS.out] at he
    subst he
    replace s := s.next bb
    replace s1 := s1.next bb
    replace s2 := s2.next bb
    replace rA := rA.next bb
    replace rS := rS.next bb
    replace rT := rT.next bb
    replace bel := next_trans bel bb
    have cA : w1.cell? ⟨w.heap.size, 0, none⟩ = some (.slice A n c) := rA.cell 0
    have cT : w1.cell? ⟨w.heap.size + 2, 0, none⟩ = some (.slice T q cq) := rT.cell 0
    have L2 := Lib.hid (implSubstOk A T n c q cq sg xb w1 s s2 hn HT2.out)
    clear bb L
    cases hok2 : substOkB sg xb with
    | false =>
      have HS2 := Lib.hid hok2
      clear hok2 s s1 s2 h h' h2
      go_wp2_with fail
      refine L2.out.mono ?_
      rintro e w2 ⟨he, bb⟩
      rw [HS2.out] at he
      subst he
      have F := Lib.hid (ansB (b := sameB sg xa xb) (a := false) (by rw [same_b HS2.out]) (next_trans bel bb))
      clear bb bel rA rS rT cA cT L2
      go_wp2
      go_ret
      exact F.out
    | true =>
      have HS2 := Lib.hid hok2
      clear hok2
      go_wp2_with fail
      refine L2.out.mono ?_
      rintro e w2 ⟨he, bb⟩
      rw [HS2.out] at he
      subst he
      replace s1 := s1.next bb
      replace s2 := s2.next bb
      replace rS := rS.next bb
      replace rT := rT.next bb
      replace bel := next_trans bel bb
      clear bb L2 cA cT rA s
      have cS : w2.cell? ⟨w.heap.size + 1, 0, none⟩ = some (.slice S m c') := rS.cell 0
      have cT : w2.cell? ⟨w.heap.size + 2, 0, none⟩ = some (.slice T q cq) := rT.cell 0
      have d1 := rS.drew
      have d2 := rT.drew
      have sd1 := s1.drew
      have sd2 := s2.drew
      have bd := bel.drew
      clear rS rT s1 s2 bel
      go_wp2_with fail
      refine wp_region_held_drew (S := (fun w' => w'.cell? ⟨w.heap.size + 1, 0, none⟩ = some (.slice S m c') ∧ w'.cell? ⟨w.heap.size + 2, 0, none⟩ = some (.slice T q cq))) (by kernel_rfl) ⟨cS, cT⟩ (fun hHeld => ?_)
      refine wpAnyH_take (i := 0) (v := ?_) rfl (by kernel_rfl) (by kernel_rfl) (by kernel_rfl) (fun _ _ _ h => h) (Or.inl ⟨by rfl, ?_⟩) (by assumption) ?_
      rotate_left 1
      · (intro w0 hSw; (try dsimp only at hSw); go_simp; try with_reducible rfl)
      try simp only [Act.put, List.setIfInBounds_toArray, List.set_cons_zero, List.set_cons_succ, List.getElem_toArray, List.getElem_cons_zero, List.getElem_cons_succ]
      refine wpAnyH_take (i := 2) (v := ?_) rfl (by kernel_rfl) (by kernel_rfl) (by kernel_rfl) (fun _ _ _ h => h) (Or.inl ⟨by rfl, ?_⟩) (by assumption) ?_
      rotate_left 1
      · (intro w0 hSw; (try dsimp only at hSw); go_simp; try with_reducible rfl)
      try simp only [Act.put, List.setIfInBounds_toArray, List.set_cons_zero, List.set_cons_succ, List.getElem_toArray, List.getElem_cons_zero, List.getElem_cons_succ]
      refine wpAnyH_ready (rs := [1]) (by kernel_rfl) (by simp) (AllReadyH.cons rfl (fun K hK => ?_) AllReadyH.nil)
      go_simp
      refine (lookupB S m c' w2.drew).mono ?_; rintro e w3 ⟨rfl, ra, b3⟩; have u1 := d1.next b3; have u2 := d2.next b3; have x1 : w3.cell? ⟨w.heap.size + 1, 0, none⟩ = some (.slice S m c') := u1.cell 0; have x2 : w3.cell? ⟨w.heap.size + 2, 0, none⟩ = some (.slice T q cq) := u2.cell 0; go_wp2_with fail
      refine hK.out _ _ ?_ (fun hHeld => ?_)
      · first | assumption | (dsimp only; assumption) | exact ⟨by assumption, by assumption⟩
      clear hK K
      try simp only [Act.put, List.setIfInBounds_toArray, List.set_cons_zero, List.set_cons_succ, List.getElem_toArray, List.getElem_cons_zero, List.getElem_cons_succ]
      refine wpAnyH_ready (rs := [3]) (by kernel_rfl) (by simp) (AllReadyH.cons rfl (fun K hK => ?_) AllReadyH.nil)
      go_simp
      refine (lookupB T q cq w3).mono ?_; rintro e w4 ⟨rfl, rb, b4⟩; have x1 : w4.cell? ⟨w.heap.size + 1, 0, none⟩ = some (.slice S m c') := (u1.next b4).cell 0; have x2 : w4.cell? ⟨w.heap.size + 2, 0, none⟩ = some (.slice T q cq) := (u2.next b4).cell 0; clear u1 u2; go_wp2_with fail
      refine hK.out _ _ ?_ (fun hHeld => ?_)
      · first | assumption | (dsimp only; assumption) | exact ⟨by assumption, by assumption⟩
      clear hK K
      try simp only [Act.put, List.setIfInBounds_toArray, List.set_cons_zero, List.set_cons_succ, List.getElem_toArray, List.getElem_cons_zero, List.getElem_cons_succ]
      refine wpAnyH_take (i := 4) (v := ?_) rfl (by kernel_rfl) (by kernel_rfl) (by kernel_rfl) (fun _ _ _ h => h) (Or.inl ⟨by rfl, ?_⟩) (by assumption) ?_
      rotate_left 1
      · (intro w0 hSw; (try dsimp only at hSw); go_simp; try with_reducible rfl)
      try simp only [Act.put, List.setIfInBounds_toArray, List.set_cons_zero, List.set_cons_succ, List.getElem_toArray, List.getElem_cons_zero, List.getElem_cons_succ]
      refine wpAnyH_take (i := 5) (v := ?_) rfl (by kernel_rfl) (by kernel_rfl) (by kernel_rfl) (fun _ _ _ h => h) (Or.inl ⟨by rfl, ?_⟩) (by assumption) ?_
      rotate_left 1
      · (intro w0 hSw; (try dsimp only at hSw); go_simp; try with_reducible rfl)
      try simp only [Act.put, List.setIfInBounds_toArray, List.set_cons_zero, List.set_cons_succ, List.getElem_toArray, List.getElem_cons_zero, List.getElem_cons_succ]
      refine wpAnyH_done (by kernel_rfl) ?_ _
      have H0 : HeadSS w w2.heap.size w3.heap.size S m c' T q cq xa xb (.int .i64 0) w4 := ⟨0, Nat.zero_le _, rfl, fun j hj => absurd hj (Nat.not_lt_zero _), ra.next b4, rb, next_trans (next_trans bd b3) b4⟩
      have HH := Lib.hid H0
      have G1 := Lib.hid ((sd1.next b3).next b4)
      have G2 := Lib.hid ((sd2.next b3).next b4)
      clear H0 sd1 sd2 d1 d2 bd b3 b4 ra rb cS cT x1 x2
      go_wp2_with fail
      go_loopw [24] (fun i wr => HeadSS w w2.heap.size w3.heap.size S m c' T q cq xa xb i wr) (fun i _ => 24 - (intOf i).toNat)
      case atStart => exact HH.out
      case round =>
        obtain ⟨k, hk, rfl, hlow, r1, r2, hb⟩ := hrel
        clear HH
        have HLOW := Lib.hid hlow
        clear hlow
        by_cases hlt : k < 24
        · have i0 : (0 : Int) ≤ (k : Int) := by omega
          have LA : Calls Try.prog 105 #[.int .i64 (k : Int), .pointer (some ⟨w2.heap.size, 0, none⟩)] wr (AnsLook wr.heap.size wr (givesL xa k)) := lookSubst w2.heap.size S m c' xa wr r1 ((h'.below hb).more hb.size) hm wr k (Below.refl _ _) hlt
          have t2 := (h2.below hb).more hb.size
          have hya : (givesL xa k).length ≤ 1048576 := gives_each HE1.out k
          have hyb : (givesL xb k).length ≤ 1048576 := gives_each HE2.out k
          obtain ⟨ya, hya2⟩ : ∃ ya, givesL xa k = ya := ⟨_, rfl⟩
          rw [hya2] at LA hya
          have HYA := Lib.hid hya2
          clear hya2 h h' h2
          obtain ⟨z, hz⟩ : ∃ z, decide (ya = givesL xb k) = z := ⟨_, rfl⟩
          have HZ := Lib.hid hz
          clear hz
          replace LA := Lib.hid LA
          go_wp2_with fail
          refine LA.out.mono ?_
          rintro e w5 ⟨X, xn, xc, rfl, oa, -, -, b1⟩
          have LB : Calls Try.prog 105 #[.int .i64 (k : Int), .pointer (some ⟨w3.heap.size, 0, none⟩)] w5 (AnsLook w5.heap.size w5 (givesL xb k)) := lookSubst w3.heap.size T q cq xb w5 (r2.next b1) (t2.next b1) hq w5 k (Below.refl _ _) hlt
          replace LB := Lib.hid LB
          clear t2
          go_wp2_with fail
          refine LB.out.mono ?_
          rintro e w6 ⟨Y, yn, yc, rfl, ob, -, -, b2⟩
          have oa2 := oa.next b2
          go_wp2_with fail
          refine (implSame X Y xn yn xc yc ya (givesL xb k) w6 oa2 ob (by rw [← oa.1]; exact hya) (by rw [← ob.1]; exact hyb)).mono ?_
          rintro e w7 ⟨he, d, rfl⟩
          rw [HZ.out] at he
          subst he
          have HB := Lib.hid (next_trans b1 (next_trans b2 (drewN_below _ d)))
          clear b1 b2 oa oa2 ob LA LB
          cases z with
          | true =>
            have S1 := Lib.hid (headSS_step (xa := xa) (xb := xb) hlt HLOW.out (HYA.out.trans (of_decide_eq_true HZ.out)) r1 r2 hb HB.out)
            clear r1 r2 hb
            go_wp2
            go_roundw
            case rel => exact S1.out
            case measure => simp [intOf]; omega
          | false =>
            have F := Lib.hid (ansB (b := sameB sg xa xb) (a := false) (by rw [same_ab HS.out HS2.out, sameG_no hlt (by rw [HYA.out]; exact of_decide_eq_false HZ.out)]) (next_trans hb HB.out))
            clear r1 r2 hb
            go_wp2
            go_ret
            exact F.out
        · have F := Lib.hid (ansB (b := sameB sg xa xb) (a := true) (by rw [same_ab HS.out HS2.out, sameG_yes (fun i hi => HLOW.out i (by omega))]) hb)
          clear r1 r2 hb h h' h2
          go_wp2
          go_ret
          exact F.out
end Go.Proofs.Ytdeegjeopkcomaa.sameSubst
