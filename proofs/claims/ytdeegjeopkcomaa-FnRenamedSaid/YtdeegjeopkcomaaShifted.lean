/-
  CONTRACTS: spec.Shifted, impl.Shifted and its closure. Conditions: the slices read as lists ('Seg'), at most 1048576 numbers. By an AI agent.
-/
import Derived.Test.YtdeegjeopkcomaaLook
namespace Go.Proofs.Ytdeegjeopkcomaa.shifted
open Go.RowKit Go.Proofs.Ytdeegjeopkcomaa.base Go.Proofs.Ytdeegjeopkcomaa.ints Go.Proofs.Ytdeegjeopkcomaa.sig Go.Proofs.Ytdeegjeopkcomaa.term Go.Proofs.Ytdeegjeopkcomaa.termOk Go.Proofs.Ytdeegjeopkcomaa.marks Go.Proofs.Ytdeegjeopkcomaa.app Go.Proofs.Ytdeegjeopkcomaa.sym Go.Proofs.Ytdeegjeopkcomaa.segs Go.Proofs.Ytdeegjeopkcomaa.termFacts Go.Proofs.Ytdeegjeopkcomaa.varsMath Go.Proofs.Ytdeegjeopkcomaa.fillMath Go.Proofs.Ytdeegjeopkcomaa.look
set_option maxRecDepth 100000

/-- a list and a bool: the list reads as ys -/
def AnsPairS (w : World) (ys : List Int) (b : Bool) (e : Ending) (w' : World) : Prop := ∃ A n c, e = .returned (.tuple #[.slice A n c, .bool b]) ∧ Seg w' w'.heap.size A n ys ∧ Below w.heap.size w w'
/-- a list and a bool: the list is new -/
def AnsPairO (w : World) (ys : List Int) (b : Bool) (e : Ending) (w' : World) : Prop := ∃ A n c, e = .returned (.tuple #[.slice A n c, .bool b]) ∧ Own w' w.heap.size (.slice A n c) ys ∧ Below w.heap.size w w'

theorem shifted_no {sg t : List Int} {k : Int} (h : termOkB sg t = false ∨ ¬ (0 ≤ k ∧ k ≤ 24) ∨ shiftB k t = false) : shiftedB sg t k = false := by
  unfold shiftedB
  rcases h with h | h | h
  · rw [h]; rfl
  · rw [decide_eq_false h, Bool.and_false, Bool.false_and]
  · rw [h, Bool.and_false]
theorem shifted_yes {sg t : List Int} {k : Int} (h1 : termOkB sg t = true) (h2 : 0 ≤ k ∧ k ≤ 24) (h3 : shiftB k t = true) : shiftedB sg t k = true := by unfold shiftedB; rw [h1, h3, decide_eq_true h2]; rfl
theorem pairS_no {w w' : World} {sg t : List Int} {k : Int} {A : Option Addr} {c : Nat} (h : shiftedB sg t k = false) (hb : Below w.heap.size w w') : AnsPairS w (shiftedL sg t k) (shiftedB sg t k) (.returned (.tuple #[.slice A 0 c, .bool false])) w' :=
  ⟨A, 0, c, by rw [h], by unfold shiftedL; rw [if_neg (by rw [h]; simp)]; exact Seg.empty, hb⟩

/-- the head of the loop of spec.Shifted -/
def HeadSh (w : World) (m : Nat) (t : List Int) (k : Int) (out i : Value) (wr : World) : Prop :=
  ∃ (j : Nat) (O : Option Addr) (on oc : Nat), j ≤ m ∧ i = .int .i64 j ∧ out = .slice O on oc ∧ Own wr w.heap.size (.slice O on oc) (shiftL k (t.take j)) ∧ (∀ q, q < j → -24 ≤ sh k (t.getD q 0)) ∧ Below w.heap.size w wr

set_option maxHeartbeats 4000000 in
theorem specShifted (A A' : Option Addr) (n c m c' : Nat) (sg t : List Int) (k : Int) (w : World) (h : Seg w w.heap.size A n sg) (h' : Seg w w.heap.size A' m t) (hn : n ≤ 1048576) (hm : m ≤ 1048576) (_ : -9223372036854775808 ≤ k) (_ : k ≤ 9223372036854775807) :
    Calls Try.prog 57 #[.agg #[.slice A n c], .slice A' m c', .int .i64 k] w (AnsPairS w (shiftedL sg t k) (shiftedB sg t k)) := by
  obtain ⟨W, hW⟩ : ∃ W, W = w.alloc (.cells #[.slice A n c] 26) := ⟨_, rfl⟩
  have bel : Below w.heap.size w W := by rw [hW]; exact (Below.refl _ _).alloc (Nat.le_refl _) _
  have s := (h.below bel).more bel.size
  have s' := (h'.below bel).more bel.size
  have HW := Lib.hid hW
  have HL := Lib.hid h'.1
  have L := Lib.hid (specTermOk A A' n c m c' sg t W s s' hn hm)
  clear hW h s
  cases hok : termOkB sg t with
  | false =>
    have HS := Lib.hid hok
    clear hok s' h'
    go_enter Try.func57, Try.ntmps57
    go_wp2_with fail
    rw [← HW.out]
    refine L.out.mono ?_
    rintro e w1 ⟨he, bb⟩
    rw [HS.out] at he
    subst he
    have F := Lib.hid (pairS_no (A := some ⟨w1.heap.size, 0, none⟩) (c := 0) (shifted_no (k := k) (.inl HS.out)) ((next_trans bel bb).alloc (next_trans bel bb).size (.cells #[] 2)))
    clear bb bel
    go_wp2
    go_ret2
    exact F.out
  | true =>
    have HS := Lib.hid hok
    have HV := Lib.hid (fun x hx => term_mem (x := x) hok hx)
    clear hok s'
    by_cases hk : 0 ≤ k ∧ k ≤ 24
    · go_enter Try.func57, Try.ntmps57
      go_wp2_with fail
      rw [← HW.out]
      refine L.out.mono ?_
      rintro e w1 ⟨he, bb⟩
      rw [HS.out] at he
      subst he
      replace bel := next_trans bel bb
      clear bb L
      go_wp2_with fail
      refine (inYes _ _ _ _ hk).mono ?_
      rintro e w' ⟨rfl, rfl⟩
      obtain ⟨hk0, hk1⟩ := hk
      have S0 : HeadSh w m t k (.slice (some ⟨w1.heap.size, 0, none⟩) 0 0) (.int .i64 0) (w1.alloc (.cells #[] 2)) := ⟨0, _, 0, 0, Nat.zero_le _, rfl, rfl, by simpa [shiftL] using own_empty w1 w.heap.size bel.size, fun q hq => absurd hq (Nat.not_lt_zero _), bel.alloc bel.size _⟩
      have HS0 := Lib.hid S0
      clear S0 bel
      go_wp2_with fail
      go_loopw [8, 9] (fun out i wr => HeadSh w m t k out i wr) (fun _ i _ => m - (intOf i).toNat)
      case atStart => exact HS0.out
      case round =>
        obtain ⟨j, O, on, oc, hj, rfl, rfl, ho, hlow, hb⟩ := hrel
        have HLOW := Lib.hid hlow
        clear HS0 hlow
        have hon : on ≤ m := by rw [Own.len ho, shift_len]; simp; omega
        by_cases hlt : j < m
        · obtain ⟨b, off, x, rfl, hbb, hx, ex⟩ := h'.spot hlt
          have hx1 : wr.cell? ⟨b, off + j, none⟩ = some (.int .i64 x) := (hb.cell (p := ⟨b, off + j, none⟩) hbb).trans hx
          have hmem : x ∈ t := by
            have hkl : j < t.length := by rw [HL.out]; exact hlt
            have := ex.out
            rw [← this]
            simp [List.getD, hkl]
          have hx24 := HV.out x hmem
          obtain ⟨hxa, hxb⟩ := hx24
          have hsz := hb.size
          have E := Lib.hid (shift_take (k := k) (t := t) (j := j) (by rw [HL.out]; exact hlt) ex.out)
          clear hx h'
          by_cases hneg : x < 0
          · have R : sh k x = x - k := by unfold sh; rw [if_pos hneg]
            by_cases hlo : x - k < -24
            · have F := Lib.hid (pairS_no (A := some ⟨wr.heap.size, 0, none⟩) (c := 0) (shifted_no (sg := sg) (k := k) (.inr (.inr (shiftB_no hmem (by rw [R]; exact hlo))))) (hb.alloc hb.size (.cells #[] 2)))
              clear ho hb ex hmem E R
              go_wp2
              go_ret2
              exact F.out
            · have RH := Lib.hid R
              clear R
              go_wp2_with (at_builtin; refine app1 rfl _ _ rfl w.heap.size O on oc (shiftL k (t.take j)) rfl (Own.alloc ho _) wr.heap.size 1 (x - k) rfl ((Row.new _ _ _).cell 0) (by omega) (by simp; omega) ?_; intro O' oc' w2 ho2 b2)
              have S : HeadSh w m t k (.slice O' (on + 1) oc') (.int .i64 ((j : Int) + 1)) w2 := ⟨j + 1, O', on + 1, oc', hlt, by simp, rfl, by rw [E.out, RH.out]; exact ho2, fun q hq => by
                by_cases e : q = j
                · subst e; rw [ex.out, RH.out]; omega
                · exact HLOW.out q (by omega), (hb.alloc hsz _).trans b2⟩
              replace S := Lib.hid S
              clear ho2 b2 ho hb E ex hmem
              go_wp2
              go_roundw
              case rel => exact S.out
              case measure => simp [intOf]; omega
          · have RH := Lib.hid (show sh k x = x by unfold sh; rw [if_neg hneg])
            have d1 : decide (x < 0) = false := by simp; omega
            have d2 : decide (x < -24) = false := by simp; omega
            go_wp2_with (at_builtin; refine app1 rfl _ _ rfl w.heap.size O on oc (shiftL k (t.take j)) rfl (Own.alloc ho _) wr.heap.size 1 x rfl ((Row.new _ _ _).cell 0) (by omega) (by simp; omega) ?_; intro O' oc' w2 ho2 b2)
            have S : HeadSh w m t k (.slice O' (on + 1) oc') (.int .i64 ((j : Int) + 1)) w2 := ⟨j + 1, O', on + 1, oc', hlt, by simp, rfl, by rw [E.out, RH.out]; exact ho2, fun q hq => by
              by_cases e : q = j
              · subst e; rw [ex.out, RH.out]; omega
              · exact HLOW.out q (by omega), (hb.alloc hsz _).trans b2⟩
            replace S := Lib.hid S
            clear ho2 b2 ho hb E ex hmem
            go_wp2
            go_roundw
            case rel => exact S.out
            case measure => simp [intOf]; omega
        · have hB : shiftedB sg t k = true := shifted_yes HS.out ⟨hk0, hk1⟩ (shiftB_yes (fun q hq => HLOW.out q (by rw [HL.out] at hq; omega)))
          have F : AnsPairS w (shiftedL sg t k) (shiftedB sg t k) (.returned (.tuple #[.slice O on oc, .bool true])) wr := by
            rw [List.take_of_length_le (by rw [HL.out]; omega)] at ho
            exact ⟨O, on, oc, by rw [hB], by unfold shiftedL; rw [if_pos hB]; exact Own.seg ho, hb⟩
          have HF := Lib.hid F
          clear F ho hb h' hB
          go_wp2
          go_ret2
          exact HF.out
    · go_enter Try.func57, Try.ntmps57
      go_wp2_with fail
      rw [← HW.out]
      refine L.out.mono ?_
      rintro e w1 ⟨he, bb⟩
      rw [HS.out] at he
      subst he
      replace bel := next_trans bel bb
      clear bb L
      go_wp2_with fail
      refine (inNo _ _ _ _ hk).mono ?_
      rintro e w' ⟨rfl, rfl⟩
      have F := Lib.hid (pairS_no (A := some ⟨w1.heap.size, 0, none⟩) (c := 0) (shifted_no (sg := sg) (t := t) (k := k) (.inr (.inl hk))) (bel.alloc bel.size (.cells #[] 2)))
      clear bel hk
      go_wp2
      go_ret2
      exact F.out

/-- the closure of impl.Shifted -/
theorem lookShift (B : Nat) (k : Int) (w : World) (hr : Row w B 2 #[.int .i64 k]) (h0 : 0 ≤ k) (h1 : k ≤ 24) :
    Looks 98 #[.pointer (some ⟨B, 0, none⟩)] w (fun i => vt (i + k.toNat)) 24 := by
  intro W i hb hi
  have cB : W.cell? ⟨B, 0, none⟩ = some (.int .i64 k) := (hr.next hb).cell 0
  have L := Lib.hid (varTerm ((i : Int) + k) W (by omega) (by omega))
  have E := Lib.hid (show [-1 - ((i : Int) + k)] = vt (i + k.toNat) by unfold vt; rw [show (((i + k.toNat : Nat)) : Int) = (i : Int) + k by omega])
  clear hr hb
  show Calls Try.prog 98 #[.int .i64 (i : Int), .pointer (some ⟨B, 0, none⟩)] W _
  go_enter Try.func98, Try.ntmps98
  go_wp2_with fail
  refine L.out.mono ?_
  rintro e w1 ⟨A, n, c, rfl, ho, bb⟩
  rw [E.out] at ho
  have F : AnsLook w.heap.size W (vt (i + k.toNat)) (.returned (.slice A n c)) w1 := look_new ho bb
  have HF := Lib.hid F
  clear F ho bb L cB
  go_wp2
  go_ret
  exact HF.out

theorem pairO_no {w w' : World} {sg t : List Int} {k : Int} (h : shiftedB sg t k = false) (hb : Below w.heap.size w w') : AnsPairO w (shiftedL sg t k) (shiftedB sg t k) (.returned (.tuple #[.slice none 0 0, .bool false])) w' :=
  ⟨none, 0, 0, by rw [h], by unfold shiftedL; rw [if_neg (by rw [h]; simp)]; exact Own.nil _ _, hb⟩
theorem vt_len (i : Nat) : (vt i).length = 1 := rfl

set_option maxHeartbeats 4000000 in
theorem implShifted (A A' : Option Addr) (n c m c' : Nat) (sg t : List Int) (k : Int) (w : World) (h : Seg w w.heap.size A n sg) (h' : Seg w w.heap.size A' m t) (hn : n ≤ 1048576) (hm : m ≤ 1048576) (_ : -9223372036854775808 ≤ k) (_ : k ≤ 9223372036854775807) :
    Calls Try.prog 58 #[.agg #[.slice A n c], .slice A' m c', .int .i64 k] w (AnsPairO w (shiftedL sg t k) (shiftedB sg t k)) := by
  obtain ⟨W, hW⟩ : ∃ W, W = (w.alloc (.cells #[.slice A n c] 26)).alloc (.cells #[.int .i64 k] 2) := ⟨_, rfl⟩
  have rA : Row W w.heap.size 26 #[.slice A n c] := by rw [hW]; have := (Row.new w 26 #[.slice A n c]).alloc (.cells #[.int .i64 k] 2); simpa using this
  have rK : Row W (w.heap.size + 1) 2 #[.int .i64 k] := by rw [hW]; have := Row.new (w.alloc (.cells #[.slice A n c] 26)) 2 #[.int .i64 k]; simpa using this
  have bel : Below w.heap.size w W := by rw [hW]; exact ((Below.refl _ _).alloc (Nat.le_refl _) _).alloc (by simp) _
  have s := (h.below bel).more bel.size
  have s' := (h'.below bel).more bel.size
  have HW := Lib.hid hW
  have HL := Lib.hid h'.1
  have L := Lib.hid (implTermOk A A' n c m c' sg t W s s' hn hm)
  clear hW h h'
  cases hok : termOkB sg t with
  | false =>
    have HS := Lib.hid hok
    clear hok s' s
    go_enter Try.func58, Try.ntmps58
    go_wp2_with fail
    rw [← HW.out]
    refine L.out.mono ?_
    rintro e w1 ⟨he, bb⟩
    rw [HS.out] at he
    subst he
    have F := Lib.hid (pairO_no (shifted_no (k := k) (.inl HS.out)) (next_trans bel bb))
    clear bb bel rA rK
    go_wp2
    go_ret2
    exact F.out
  | true =>
    have HS := Lib.hid hok
    have HV := Lib.hid (fun x hx => (term_mem (x := x) hok hx).1)
    have H60 : m ≤ 60 := by rw [← HL.out]; exact (term_len hok).2
    clear hok
    by_cases hk : 0 ≤ k ∧ k ≤ 24
    · obtain ⟨hk0, hk1⟩ := hk
      have hmf : ∀ (fn : Fn) (first cap : Array Value) (w : World), (Instr.makeFunc fn first cap).run Try.prog w = .ok (.func fn first cap) w := fun _ _ _ _ => rfl
      go_enter Try.func58, Try.ntmps58
      go_wp2_with fail
      rw [← HW.out]
      refine L.out.mono ?_
      rintro e w1 ⟨he, bb⟩
      rw [HS.out] at he
      subst he
      replace bel := next_trans bel bb
      replace rA := rA.next bb
      replace rK := rK.next bb
      replace s := s.next bb
      replace s' := s'.next bb
      have cK : w1.cell? ⟨w.heap.size + 1, 0, none⟩ = some (.int .i64 k) := rK.cell 0
      have L2 := Lib.hid (fill 98 #[.pointer (some ⟨w.heap.size + 1, 0, none⟩)] (enters_of Try.func98 (by kernel_rfl) rfl) A' m c' t _ w1 (lookShift (w.heap.size + 1) k w1 rK hk0 hk1) s' H60 HV.out (fun i => by simp [vt_len]))
      clear bb L s'
      go_wp2_with fail
      refine L2.out.mono ?_
      rintro e w2 ⟨O, on, oc, rfl, ho, bb⟩
      have hsh : fillL (fun i => vt (i + k.toNat)) t = shiftL k t := by rw [shift_fill, show ((k.toNat : Nat) : Int) = k by omega]
      rw [hsh] at ho
      have hon : on ≤ 60 := by rw [Own.len ho, shift_len, HL.out]; exact H60
      replace rA := rA.next bb
      have cA : w2.cell? ⟨w.heap.size, 0, none⟩ = some (.slice A n c) := rA.cell 0
      have L3 := Lib.hid (implTermOk A O n c on oc sg (shiftL k t) w2 (s.next bb) (Own.seg ho) hn (by omega))
      have EO := Lib.hid (show termOkB sg (shiftL k t) = shiftB k t by have := shift_ok (k := k.toNat) HS.out; rw [show ((k.toNat : Nat) : Int) = k by omega] at this; exact this)
      have bel2 := next_trans bel bb
      have ho2 := Own.lower ho (show w.heap.size ≤ w1.heap.size from bel.size)
      clear bb L2 hsh ho rK cK s
      cases hsb : shiftB k t with
      | false =>
        have HB := Lib.hid hsb
        clear hsb
        go_wp2_with fail
        refine L3.out.mono ?_
        rintro e w3 ⟨he, bb⟩
        rw [EO.out, HB.out] at he
        subst he
        have F := Lib.hid (pairO_no (shifted_no (sg := sg) (k := k) (.inr (.inr HB.out))) (next_trans bel2 bb))
        clear bb bel2 bel rA cA ho2 hmf L3
        go_wp2
        go_ret2
        exact F.out
      | true =>
        have HB := Lib.hid hsb
        clear hsb
        go_wp2_with fail
        refine L3.out.mono ?_
        rintro e w3 ⟨he, bb⟩
        rw [EO.out, HB.out] at he
        subst he
        have hB : shiftedB sg t k = true := shifted_yes HS.out ⟨hk0, hk1⟩ HB.out
        have F : AnsPairO w (shiftedL sg t k) (shiftedB sg t k) (.returned (.tuple #[.slice O on oc, .bool true])) w3 := ⟨O, on, oc, by rw [hB], by unfold shiftedL; rw [if_pos hB]; exact ho2.next bb, next_trans bel2 bb⟩
        have HF := Lib.hid F
        clear F bb bel2 bel rA cA ho2 hmf L3 hB
        go_wp2
        go_ret2
        exact HF.out
    · by_cases hk0 : k < 0
      · go_enter Try.func58, Try.ntmps58
        go_wp2_with fail
        rw [← HW.out]
        refine L.out.mono ?_
        rintro e w1 ⟨he, bb⟩
        rw [HS.out] at he
        subst he
        have cK : w1.cell? ⟨w.heap.size + 1, 0, none⟩ = some (.int .i64 k) := (rK.next bb).cell 0
        have F := Lib.hid (pairO_no (shifted_no (sg := sg) (t := t) (k := k) (.inr (.inl hk))) (next_trans bel bb))
        clear bb bel rA rK hk
        go_wp2
        go_ret2
        exact F.out
      · have hk1 : 24 < k := by omega
        go_enter Try.func58, Try.ntmps58
        go_wp2_with fail
        rw [← HW.out]
        refine L.out.mono ?_
        rintro e w1 ⟨he, bb⟩
        rw [HS.out] at he
        subst he
        have cK : w1.cell? ⟨w.heap.size + 1, 0, none⟩ = some (.int .i64 k) := (rK.next bb).cell 0
        have F := Lib.hid (pairO_no (shifted_no (sg := sg) (t := t) (k := k) (.inr (.inl hk))) (next_trans bel bb))
        clear bb bel rA rK hk
        go_wp2
        go_ret2
        exact F.out
end Go.Proofs.Ytdeegjeopkcomaa.shifted
