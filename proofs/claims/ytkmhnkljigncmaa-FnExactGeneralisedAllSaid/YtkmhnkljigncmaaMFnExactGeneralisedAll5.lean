/-
  MERGED: my texts Shifted, Filled, Max, CompSpec, CompImpl, AppStep, GenNext, GenMain, one behind the other, as they are. By an AI agent.
-/
import Derived.Test.YtkmhnkljigncmaaMFnExactGeneralisedAll4
import Derived.Deep.AppendLies
import Derived.Deep.RegionHeld3
import Derived.Deep.DeepCutAuto
import Derived.Laws.NewBlocks
import Derived.Laws.EntriesVeiled
import Derived.Deep.QuietTactic
import Derived.BigQuiet
section
/-
  CONTRACTS: spec.Shifted, impl.Shifted and its closure. Conditions: the slices read as lists ('Seg'), at most 1048576 numbers. By an AI agent.
-/
namespace Go.Proofs.Ytkmhnkljigncmaa.shifted
open Go.RowKit Go.Proofs.Ytkmhnkljigncmaa.base Go.Proofs.Ytkmhnkljigncmaa.ints Go.Proofs.Ytkmhnkljigncmaa.sig Go.Proofs.Ytkmhnkljigncmaa.term Go.Proofs.Ytkmhnkljigncmaa.termOk Go.Proofs.Ytkmhnkljigncmaa.marks Go.Proofs.Ytkmhnkljigncmaa.app Go.Proofs.Ytkmhnkljigncmaa.sym Go.Proofs.Ytkmhnkljigncmaa.segs Go.Proofs.Ytkmhnkljigncmaa.termFacts Go.Proofs.Ytkmhnkljigncmaa.varsMath Go.Proofs.Ytkmhnkljigncmaa.fillMath Go.Proofs.Ytkmhnkljigncmaa.look
set_option maxRecDepth 100000

/-- a list and a bool: the list reads as ys -/
def AnsPairS (w : World) (ys : List Int) (b : Bool) (e : Ending) (w' : World) : Prop := ∃ A n c, e = .returned (.tuple #[.slice A n c, .bool b]) ∧ Seg w' w'.heap.size A n ys ∧ Below w.heap.size w w'
/-- a list and a bool: the list is new -/
def AnsPairO (w : World) (ys : List Int) (b : Bool) (e : Ending) (w' : World) : Prop := ∃ A n c, e = .returned (.tuple #[.slice A n c, .bool b]) ∧ Own w' w.heap.size (.slice A n c) ys ∧ Below w.heap.size w w'

theorem shifted_no {sg t : List Int} {k : Int} (h : termOkB sg t = false ∨ ¬ (0 ≤ k ∧ k ≤ 24) ∨ shiftB k t = false) : shiftedB sg t k = false := by
  unfold shiftedB
  rcases h with h | h | h
  · rw [h]; rfl
  · rw [decide_eq_false h, Bool.and_false, Bool.false_and]
  · rw [h, Bool.and_false]
theorem shifted_yes {sg t : List Int} {k : Int} (h1 : termOkB sg t = true) (h2 : 0 ≤ k ∧ k ≤ 24) (h3 : shiftB k t = true) : shiftedB sg t k = true := by unfold shiftedB; rw [h1, h3, decide_eq_true h2]; rfl
theorem pairS_no {w w' : World} {sg t : List Int} {k : Int} {A : Option Addr} {c : Nat} (h : shiftedB sg t k = false) (hb : Below w.heap.size w w') : AnsPairS w (shiftedL sg t k) (shiftedB sg t k) (.returned (.tuple #[.slice A 0 c, .bool false])) w' :=
  ⟨A, 0, c, by rw [h], by unfold shiftedL; rw [if_neg (by rw [h]; simp)]; exact Seg.empty, hb⟩

/-- the head of the loop of spec.Shifted -/
def HeadSh (w : World) (m : Nat) (t : List Int) (k : Int) (out i : Value) (wr : World) : Prop :=
  ∃ (j : Nat) (O : Option Addr) (on oc : Nat), j ≤ m ∧ i = .int .i64 j ∧ out = .slice O on oc ∧ Own wr w.heap.size (.slice O on oc) (shiftL k (t.take j)) ∧ (∀ q, q < j → -24 ≤ sh k (t.getD q 0)) ∧ Below w.heap.size w wr

set_option maxHeartbeats 4000000 in
theorem specShifted (A A' : Option Addr) (n c m c' : Nat) (sg t : List Int) (k : Int) (w : World) (h : Seg w w.heap.size A n sg) (h' : Seg w w.heap.size A' m t) (hn : n ≤ 1048576) (hm : m ≤ 1048576) (_ : -9223372036854775808 ≤ k) (_ : k ≤ 9223372036854775807) :
    Calls Try.prog 91 #[.agg #[.slice A n c], .slice A' m c', .int .i64 k] w (AnsPairS w (shiftedL sg t k) (shiftedB sg t k)) := by
  obtain ⟨W, hW⟩ : ∃ W, W = w.alloc (.cells #[.slice A n c] 26) := ⟨_, rfl⟩
  have bel : Below w.heap.size w W := by rw [hW]; exact (Below.refl _ _).alloc (Nat.le_refl _) _
  have s := (h.below bel).more bel.size
  have s' := (h'.below bel).more bel.size
  have HW := Lib.hid hW
  have HL := Lib.hid h'.1
  have L := Lib.hid (specTermOk A A' n c m c' sg t W s s' hn hm)
  clear hW h s
  cases hok : termOkB sg t with
  | false =>
    have HS := Lib.hid hok
    clear hok s' h'
    go_enter Try.func91, Try.ntmps91
    go_wp2_with fail
    rw [← HW.out]
    refine L.out.mono ?_
    rintro e w1 ⟨he, bb⟩
    rw [HS.out] at he
    subst he
    have F := Lib.hid (pairS_no (A := some ⟨w1.heap.size, 0, none⟩) (c := 0) (shifted_no (k := k) (.inl HS.out)) ((next_trans bel bb).alloc (next_trans bel bb).size (.cells #[] 2)))
    clear bb bel
    go_wp2
    go_ret2
    exact F.out
  | true =>
    have HS := Lib.hid hok
    have HV := Lib.hid (fun x hx => term_mem (x := x) hok hx)
    clear hok s'
    by_cases hk : 0 ≤ k ∧ k ≤ 24
    · go_enter Try.func91, Try.ntmps91
      go_wp2_with fail
      rw [← HW.out]
      refine L.out.mono ?_
      rintro e w1 ⟨he, bb⟩
      rw [HS.out] at he
      subst he
      replace bel := next_trans bel bb
      clear bb L
      go_wp2_with fail
      refine (inYes _ _ _ _ hk).mono ?_
      rintro e w' ⟨rfl, rfl⟩
      obtain ⟨hk0, hk1⟩ := hk
      have S0 : HeadSh w m t k (.slice (some ⟨w1.heap.size, 0, none⟩) 0 0) (.int .i64 0) (w1.alloc (.cells #[] 2)) := ⟨0, _, 0, 0, Nat.zero_le _, rfl, rfl, by simpa [shiftL] using own_empty w1 w.heap.size bel.size, fun q hq => absurd hq (Nat.not_lt_zero _), bel.alloc bel.size _⟩
      have HS0 := Lib.hid S0
      clear S0 bel
      go_wp2_with fail
      go_loopw [8, 9] (fun out i wr => HeadSh w m t k out i wr) (fun _ i _ => m - (intOf i).toNat)
      case atStart => exact HS0.out
      case round =>
        obtain ⟨j, O, on, oc, hj, rfl, rfl, ho, hlow, hb⟩ := hrel
        have HLOW := Lib.hid hlow
        clear HS0 hlow
        have hon : on ≤ m := by rw [Own.len ho, shift_len]; simp; omega
        by_cases hlt : j < m
        · obtain ⟨b, off, x, rfl, hbb, hx, ex⟩ := h'.spot hlt
          have hx1 : wr.cell? ⟨b, off + j, none⟩ = some (.int .i64 x) := (hb.cell (p := ⟨b, off + j, none⟩) hbb).trans hx
          have hmem : x ∈ t := by
            have hkl : j < t.length := by rw [HL.out]; exact hlt
            have := ex.out
            rw [← this]
            simp [List.getD, hkl]
          have hx24 := HV.out x hmem
          obtain ⟨hxa, hxb⟩ := hx24
          have hsz := hb.size
          have E := Lib.hid (shift_take (k := k) (t := t) (j := j) (by rw [HL.out]; exact hlt) ex.out)
          clear hx h'
          by_cases hneg : x < 0
          · have R : sh k x = x - k := by unfold sh; rw [if_pos hneg]
            by_cases hlo : x - k < -24
            · have F := Lib.hid (pairS_no (A := some ⟨wr.heap.size, 0, none⟩) (c := 0) (shifted_no (sg := sg) (k := k) (.inr (.inr (shiftB_no hmem (by rw [R]; exact hlo))))) (hb.alloc hb.size (.cells #[] 2)))
              clear ho hb ex hmem E R
              go_wp2
              go_ret2
              exact F.out
            · have RH := Lib.hid R
              clear R
              go_wp2_with (at_builtin; refine app1 rfl _ _ rfl w.heap.size O on oc (shiftL k (t.take j)) rfl (Own.alloc ho _) wr.heap.size 1 (x - k) rfl ((Row.new _ _ _).cell 0) (by omega) (by simp; omega) ?_; intro O' oc' w2 ho2 b2)
              have S : HeadSh w m t k (.slice O' (on + 1) oc') (.int .i64 ((j : Int) + 1)) w2 := ⟨j + 1, O', on + 1, oc', hlt, by simp, rfl, by rw [E.out, RH.out]; exact ho2, fun q hq => by
                by_cases e : q = j
                · subst e; rw [ex.out, RH.out]; omega
                · exact HLOW.out q (by omega), (hb.alloc hsz _).trans b2⟩
              replace S := Lib.hid S
              clear ho2 b2 ho hb E ex hmem
              go_wp2
              go_roundw
              case rel => exact S.out
              case measure => simp [intOf]; omega
          · have RH := Lib.hid (show sh k x = x by unfold sh; rw [if_neg hneg])
            have d1 : decide (x < 0) = false := by simp; omega
            have d2 : decide (x < -24) = false := by simp; omega
            go_wp2_with (at_builtin; refine app1 rfl _ _ rfl w.heap.size O on oc (shiftL k (t.take j)) rfl (Own.alloc ho _) wr.heap.size 1 x rfl ((Row.new _ _ _).cell 0) (by omega) (by simp; omega) ?_; intro O' oc' w2 ho2 b2)
            have S : HeadSh w m t k (.slice O' (on + 1) oc') (.int .i64 ((j : Int) + 1)) w2 := ⟨j + 1, O', on + 1, oc', hlt, by simp, rfl, by rw [E.out, RH.out]; exact ho2, fun q hq => by
              by_cases e : q = j
              · subst e; rw [ex.out, RH.out]; omega
              · exact HLOW.out q (by omega), (hb.alloc hsz _).trans b2⟩
            replace S := Lib.hid S
            clear ho2 b2 ho hb E ex hmem
            go_wp2
            go_roundw
            case rel => exact S.out
            case measure => simp [intOf]; omega
        · have hB : shiftedB sg t k = true := shifted_yes HS.out ⟨hk0, hk1⟩ (shiftB_yes (fun q hq => HLOW.out q (by rw [HL.out] at hq; omega)))
          have F : AnsPairS w (shiftedL sg t k) (shiftedB sg t k) (.returned (.tuple #[.slice O on oc, .bool true])) wr := by
            rw [List.take_of_length_le (by rw [HL.out]; omega)] at ho
            exact ⟨O, on, oc, by rw [hB], by unfold shiftedL; rw [if_pos hB]; exact Own.seg ho, hb⟩
          have HF := Lib.hid F
          clear F ho hb h' hB
          go_wp2
          go_ret2
          exact HF.out
    · go_enter Try.func91, Try.ntmps91
      go_wp2_with fail
      rw [← HW.out]
      refine L.out.mono ?_
      rintro e w1 ⟨he, bb⟩
      rw [HS.out] at he
      subst he
      replace bel := next_trans bel bb
      clear bb L
      go_wp2_with fail
      refine (inNo _ _ _ _ hk).mono ?_
      rintro e w' ⟨rfl, rfl⟩
      have F := Lib.hid (pairS_no (A := some ⟨w1.heap.size, 0, none⟩) (c := 0) (shifted_no (sg := sg) (t := t) (k := k) (.inr (.inl hk))) (bel.alloc bel.size (.cells #[] 2)))
      clear bel hk
      go_wp2
      go_ret2
      exact F.out

/-- the closure of impl.Shifted -/
theorem lookShift (B : Nat) (k : Int) (w : World) (hr : Row w B 2 #[.int .i64 k]) (h0 : 0 ≤ k) (h1 : k ≤ 24) :
    Looks 129 #[.pointer (some ⟨B, 0, none⟩)] w (fun i => vt (i + k.toNat)) 24 := by
  intro W i hb hi
  have cB : W.cell? ⟨B, 0, none⟩ = some (.int .i64 k) := (hr.next hb).cell 0
  have L := Lib.hid (varTerm ((i : Int) + k) W (by omega) (by omega))
  have E := Lib.hid (show [-1 - ((i : Int) + k)] = vt (i + k.toNat) by unfold vt; rw [show (((i + k.toNat : Nat)) : Int) = (i : Int) + k by omega])
  clear hr hb
  show Calls Try.prog 129 #[.int .i64 (i : Int), .pointer (some ⟨B, 0, none⟩)] W _
  go_enter Try.func129, Try.ntmps129
  go_wp2_with fail
  refine L.out.mono ?_
  rintro e w1 ⟨A, n, c, rfl, ho, bb⟩
  rw [E.out] at ho
  have F : AnsLook w.heap.size W (vt (i + k.toNat)) (.returned (.slice A n c)) w1 := look_new ho bb
  have HF := Lib.hid F
  clear F ho bb L cB
  go_wp2
  go_ret
  exact HF.out

theorem pairO_no {w w' : World} {sg t : List Int} {k : Int} (h : shiftedB sg t k = false) (hb : Below w.heap.size w w') : AnsPairO w (shiftedL sg t k) (shiftedB sg t k) (.returned (.tuple #[.slice none 0 0, .bool false])) w' :=
  ⟨none, 0, 0, by rw [h], by unfold shiftedL; rw [if_neg (by rw [h]; simp)]; exact Own.nil _ _, hb⟩
theorem vt_len (i : Nat) : (vt i).length = 1 := rfl

set_option maxHeartbeats 4000000 in
theorem implShifted (A A' : Option Addr) (n c m c' : Nat) (sg t : List Int) (k : Int) (w : World) (h : Seg w w.heap.size A n sg) (h' : Seg w w.heap.size A' m t) (hn : n ≤ 1048576) (hm : m ≤ 1048576) (_ : -9223372036854775808 ≤ k) (_ : k ≤ 9223372036854775807) :
    Calls Try.prog 92 #[.agg #[.slice A n c], .slice A' m c', .int .i64 k] w (AnsPairO w (shiftedL sg t k) (shiftedB sg t k)) := by
  obtain ⟨W, hW⟩ : ∃ W, W = (w.alloc (.cells #[.slice A n c] 26)).alloc (.cells #[.int .i64 k] 2) := ⟨_, rfl⟩
  have rA : Row W w.heap.size 26 #[.slice A n c] := by rw [hW]; have := (Row.new w 26 #[.slice A n c]).alloc (.cells #[.int .i64 k] 2); simpa using this
  have rK : Row W (w.heap.size + 1) 2 #[.int .i64 k] := by rw [hW]; have := Row.new (w.alloc (.cells #[.slice A n c] 26)) 2 #[.int .i64 k]; simpa using this
  have bel : Below w.heap.size w W := by rw [hW]; exact ((Below.refl _ _).alloc (Nat.le_refl _) _).alloc (by simp) _
  have s := (h.below bel).more bel.size
  have s' := (h'.below bel).more bel.size
  have HW := Lib.hid hW
  have HL := Lib.hid h'.1
  have L := Lib.hid (implTermOk A A' n c m c' sg t W s s' hn hm)
  clear hW h h'
  cases hok : termOkB sg t with
  | false =>
    have HS := Lib.hid hok
    clear hok s' s
    go_enter Try.func92, Try.ntmps92
    go_wp2_with fail
    rw [← HW.out]
    refine L.out.mono ?_
    rintro e w1 ⟨he, bb⟩
    rw [HS.out] at he
    subst he
    have F := Lib.hid (pairO_no (shifted_no (k := k) (.inl HS.out)) (next_trans bel bb))
    clear bb bel rA rK
    go_wp2
    go_ret2
    exact F.out
  | true =>
    have HS := Lib.hid hok
    have HV := Lib.hid (fun x hx => (term_mem (x := x) hok hx).1)
    have H60 : m ≤ 60 := by rw [← HL.out]; exact (term_len hok).2
    clear hok
    by_cases hk : 0 ≤ k ∧ k ≤ 24
    · obtain ⟨hk0, hk1⟩ := hk
      have hmf : ∀ (fn : Fn) (first cap : Array Value) (w : World), (Instr.makeFunc fn first cap).run Try.prog w = .ok (.func fn first cap) w := fun _ _ _ _ => rfl
      go_enter Try.func92, Try.ntmps92
      go_wp2_with fail
      rw [← HW.out]
      refine L.out.mono ?_
      rintro e w1 ⟨he, bb⟩
      rw [HS.out] at he
      subst he
      replace bel := next_trans bel bb
      replace rA := rA.next bb
      replace rK := rK.next bb
      replace s := s.next bb
      replace s' := s'.next bb
      have cK : w1.cell? ⟨w.heap.size + 1, 0, none⟩ = some (.int .i64 k) := rK.cell 0
      have L2 := Lib.hid (fill 129 #[.pointer (some ⟨w.heap.size + 1, 0, none⟩)] (enters_of Try.func129 (by kernel_rfl) rfl) A' m c' t _ w1 (lookShift (w.heap.size + 1) k w1 rK hk0 hk1) s' H60 HV.out (fun i => by simp [vt_len]))
      clear bb L s'
      go_wp2_with fail
      refine L2.out.mono ?_
      rintro e w2 ⟨O, on, oc, rfl, ho, bb⟩
      have hsh : fillL (fun i => vt (i + k.toNat)) t = shiftL k t := by rw [shift_fill, show ((k.toNat : Nat) : Int) = k by omega]
      rw [hsh] at ho
      have hon : on ≤ 60 := by rw [Own.len ho, shift_len, HL.out]; exact H60
      replace rA := rA.next bb
      have cA : w2.cell? ⟨w.heap.size, 0, none⟩ = some (.slice A n c) := rA.cell 0
      have L3 := Lib.hid (implTermOk A O n c on oc sg (shiftL k t) w2 (s.next bb) (Own.seg ho) hn (by omega))
      have EO := Lib.hid (show termOkB sg (shiftL k t) = shiftB k t by have := shift_ok (k := k.toNat) HS.out; rw [show ((k.toNat : Nat) : Int) = k by omega] at this; exact this)
      have bel2 := next_trans bel bb
      have ho2 := Own.lower ho (show w.heap.size ≤ w1.heap.size from bel.size)
      clear bb L2 hsh ho rK cK s
      cases hsb : shiftB k t with
      | false =>
        have HB := Lib.hid hsb
        clear hsb
        go_wp2_with fail
        refine L3.out.mono ?_
        rintro e w3 ⟨he, bb⟩
        rw [EO.out, HB.out] at he
        subst he
        have F := Lib.hid (pairO_no (shifted_no (sg := sg) (k := k) (.inr (.inr HB.out))) (next_trans bel2 bb))
        clear bb bel2 bel rA cA ho2 hmf L3
        go_wp2
        go_ret2
        exact F.out
      | true =>
        have HB := Lib.hid hsb
        clear hsb
        go_wp2_with fail
        refine L3.out.mono ?_
        rintro e w3 ⟨he, bb⟩
        rw [EO.out, HB.out] at he
        subst he
        have hB : shiftedB sg t k = true := shifted_yes HS.out ⟨hk0, hk1⟩ HB.out
        have F : AnsPairO w (shiftedL sg t k) (shiftedB sg t k) (.returned (.tuple #[.slice O on oc, .bool true])) w3 := ⟨O, on, oc, by rw [hB], by unfold shiftedL; rw [if_pos hB]; exact ho2.next bb, next_trans bel2 bb⟩
        have HF := Lib.hid F
        clear F bb bel2 bel rA cA ho2 hmf L3 hB
        go_wp2
        go_ret2
        exact HF.out
    · by_cases hk0 : k < 0
      · go_enter Try.func92, Try.ntmps92
        go_wp2_with fail
        rw [← HW.out]
        refine L.out.mono ?_
        rintro e w1 ⟨he, bb⟩
        rw [HS.out] at he
        subst he
        have cK : w1.cell? ⟨w.heap.size + 1, 0, none⟩ = some (.int .i64 k) := (rK.next bb).cell 0
        have F := Lib.hid (pairO_no (shifted_no (sg := sg) (t := t) (k := k) (.inr (.inl hk))) (next_trans bel bb))
        clear bb bel rA rK hk
        go_wp2
        go_ret2
        exact F.out
      · have hk1 : 24 < k := by omega
        go_enter Try.func92, Try.ntmps92
        go_wp2_with fail
        rw [← HW.out]
        refine L.out.mono ?_
        rintro e w1 ⟨he, bb⟩
        rw [HS.out] at he
        subst he
        have cK : w1.cell? ⟨w.heap.size + 1, 0, none⟩ = some (.int .i64 k) := (rK.next bb).cell 0
        have F := Lib.hid (pairO_no (shifted_no (sg := sg) (t := t) (k := k) (.inr (.inl hk))) (next_trans bel bb))
        clear bb bel rA rK hk
        go_wp2
        go_ret2
        exact F.out
end Go.Proofs.Ytkmhnkljigncmaa.shifted
end

section
/-
  CONTRACTS: spec.l2Filled, spec.Filled, impl.Filled. Conditions: the slices read as lists ('Seg', 'Segs'), at most 1048576 values. By an AI agent.
-/
namespace Go.Proofs.Ytkmhnkljigncmaa.filled
open Go.RowKit Go.Proofs.Ytkmhnkljigncmaa.base Go.Proofs.Ytkmhnkljigncmaa.ints Go.Proofs.Ytkmhnkljigncmaa.sig Go.Proofs.Ytkmhnkljigncmaa.cursor Go.Proofs.Ytkmhnkljigncmaa.term Go.Proofs.Ytkmhnkljigncmaa.termOk Go.Proofs.Ytkmhnkljigncmaa.marks Go.Proofs.Ytkmhnkljigncmaa.app Go.Proofs.Ytkmhnkljigncmaa.appAt Go.Proofs.Ytkmhnkljigncmaa.sym Go.Proofs.Ytkmhnkljigncmaa.sub Go.Proofs.Ytkmhnkljigncmaa.segs Go.Proofs.Ytkmhnkljigncmaa.segsHelp Go.Proofs.Ytkmhnkljigncmaa.termFacts Go.Proofs.Ytkmhnkljigncmaa.varsMath Go.Proofs.Ytkmhnkljigncmaa.varsOf Go.Proofs.Ytkmhnkljigncmaa.fillMath Go.Proofs.Ytkmhnkljigncmaa.look Go.Proofs.Ytkmhnkljigncmaa.shifted Go.Proofs.Ytkmhnkljigncmaa.substOk Go.Proofs.Ytkmhnkljigncmaa.gives
set_option maxRecDepth 100000

/-- a whole slice appended, at a step of a region that draws -/
theorem stepAppAll {w : World} {ops : Array Oper} {o : Oper} {a : Act} {K : Act → World → Prop} {Q : Exit → Act → World → Prop} {E : Prop} (hgd : o.guard = none) (s x : Operand)
    (ho : o.op = .call { callee := .builtin .append, args := #[s, x], argTypes := #[24, 24] })
    (base : Nat) (A : Option Addr) (n c : Nat) (xs : List Int) (hs : a.eval s = .slice A n c) (hown : Own w base (.slice A n c) xs)
    (S : Option Addr) (m c2 B : Nat) (ys : List Int) (hx : a.eval x = .slice S m c2) (hseg : Seg w B S m ys) (hm1 : 1 ≤ m) (hn : n ≤ 2097152) (hm : m ≤ 2097152) (hbase : base ≤ w.heap.size)
    (h : ∀ g' c' w', Own w' base (.slice (some ⟨g', 0, none⟩) (n + m) c') (xs ++ ys) → w.grownBy w' (blk A) → (blk A = some g' ∨ g' = w.heap.size) → g' < w'.heap.size → K (a.put o.dst (.slice (some ⟨g', 0, none⟩) (n + m) c')) w') :
    if Region.wanted o (yielded ops a.tmps) = true then Oper.wp Try.prog o a w K Q else E := by
  obtain ⟨i0, hi, hz0, hz1, hz2⟩ := info_parts info_i64
  have hl : xs.length = n := by
    obtain ⟨A', c', e⟩ := hown.slice
    exact (Value.slice.inj e).2.1.symm
  have hob : (Value.slice A n c).ownBlock = blk A := by cases A <;> rfl
  obtain ⟨b, off, e, _, hc⟩ := hseg.2 (by omega)
  subst e
  refine step_append_lies w hgd s x 24 ho base 2 i0 (.int .i64 0) 1 8 Try.underlying24 hi hz0 hz1 hz2 rfl (by decide) (.slice A n c) n (xs.map (Value.int .i64)) hs (by rw [← hl]; rw [← hl] at hown; exact hown)
    ⟨b, off, none⟩ m c2 (ys.map (Value.int .i64)) hx (by simp [hseg.1]) (fun j u hj => ?_) (fun u hu => ?_) (by omega) (by unfold maxLen; omega) (by omega) hbase w.heap.size rfl ?_
  · have hjl : j < m := by
      have := (List.getElem?_eq_some_iff.1 hj).1
      simp at this
      have := hseg.1
      omega
    have hcj := hc j hjl
    have e2 : (⟨b, off, none⟩ : Addr).add j = ⟨b, off + j, none⟩ := by unfold Addr.add; split <;> simp_all
    rw [e2, hcj, ← hj]
    have := hseg.1
    simp [List.getD, show j < ys.length by omega]
  · obtain ⟨y, _, rfl⟩ := List.mem_map.1 hu
    rfl
  · intro g' c' w' hown' hg hat hlt
    rw [← List.map_append] at hown'
    rw [hob] at hg hat
    refine h g' c' w' ?_ hg hat hlt
    have hl2 : (xs ++ ys).length = n + m := by simp [hl, hseg.1]
    unfold Own
    rw [hl2]
    exact hown'

/-- what filling answers -/
def fitsB (ss : List (List Int)) (t : List Int) : Bool := decide ((fillL (givesL ss) t).length ≤ 60)
def fitL (ss : List (List Int)) (t : List Int) : List Int := if fitsB ss t = true then fillL (givesL ss) t else []
theorem fits_no {ss : List (List Int)} {t : List Int} {k : Nat} (h : 60 < (fillL (givesL ss) (t.take k)).length) : fitsB ss t = false := by
  have e : fillL (givesL ss) t = fillL (givesL ss) (t.take k) ++ fillL (givesL ss) (t.drop k) := by rw [← fill_append, List.take_append_drop]
  unfold fitsB
  rw [e, List.length_append]
  simp
  omega

/-- the head of l2Filled's loop -/
def HeadF (w : World) (S : Option Addr) (m c mt : Nat) (ss : List (List Int)) (t : List Int) (out i : Value) (wr : World) : Prop :=
  ∃ (k : Nat) (O : Option Addr) (on oc : Nat), k ≤ mt ∧ i = .int .i64 k ∧ out = .slice O on oc ∧ on ≤ 60 ∧ Own wr (w.heap.size + 1) (.slice O on oc) (fillL (givesL ss) (t.take k)) ∧ Row wr w.heap.size 31 #[.slice S m c] ∧ Below w.heap.size w wr
theorem pairF_no {w wr : World} {ss : List (List Int)} {t : List Int} (h : fitsB ss t = false) (hb : Below w.heap.size w wr) : AnsPairO w (fitL ss t) (fitsB ss t) (.returned (.tuple #[.slice (some ⟨wr.heap.size, 0, none⟩) 0 0, .bool false])) (wr.alloc (.cells #[] 2)) :=
  ⟨_, 0, 0, by rw [h], by unfold fitL; rw [if_neg (by rw [h]; simp)]; exact own_empty wr w.heap.size hb.size, hb.alloc hb.size _⟩

set_option maxHeartbeats 8000000 in
theorem l2Filled (S A : Option Addr) (m c mt ct : Nat) (ss : List (List Int)) (t : List Int) (w : World) (h : Segs w w.heap.size S m ss) (h' : Seg w w.heap.size A mt t) (ht : tot ss ≤ 1048576) (hmt : mt ≤ 60) (hv : ∀ x ∈ t, -24 ≤ x) (hM : ∀ i, (givesL ss i).length ≤ 60) :
    Calls Try.prog 70 #[.agg #[.slice S m c], .slice A mt ct] w (AnsPairO w (fitL ss t) (fitsB ss t)) := by
  have HL := Lib.hid h'.1
  have HV := Lib.hid hv
  have HM := Lib.hid hM
  have HT := Lib.hid ht
  have S0 : HeadF w S m c mt ss t (.slice (some ⟨w.heap.size + 1, 0, none⟩) 0 0) (.int .i64 0) ((w.alloc (.cells #[.slice S m c] 31)).alloc (.cells #[] 2)) :=
    ⟨0, _, _, _, Nat.zero_le _, rfl, rfl, by omega, by have := own_empty (w.alloc (.cells #[.slice S m c] 31)) (w.heap.size + 1) (by simp); simpa [fillL] using this, (Row.new _ _ _).alloc _, ((Below.refl _ _).alloc (Nat.le_refl _) _).alloc (by simp) _⟩
  have HS0 := Lib.hid S0
  clear S0 hv hM ht
  go_enter Try.func70, Try.ntmps70
  go_wp2_with fail
  go_loopw [6, 7] (fun out i wr => HeadF w S m c mt ss t out i wr) (fun _ i _ => mt - (intOf i).toNat)
  case atStart => exact HS0.out
  case round =>
    obtain ⟨k, O, on, oc, hk, rfl, rfl, hon, ho, hr, hb⟩ := hrel
    clear HS0
    have hsz := hr.lt
    by_cases hlt : k < mt
    · obtain ⟨b, off, x, rfl, hbb, hx, ex⟩ := h'.spot hlt
      have hx1 : wr.cell? ⟨b, off + k, none⟩ = some (.int .i64 x) := (hb.cell (p := ⟨b, off + k, none⟩) hbb).trans hx
      have hbr : b < wr.heap.size := Nat.lt_of_lt_of_le hbb hb.size
      have cS : wr.cell? ⟨w.heap.size, 0, none⟩ = some (.slice S m c) := hr.cell 0
      have hmem : x ∈ t := by
        have hkl : k < t.length := by rw [HL.out]; exact hlt
        have := ex.out
        rw [← this]
        simp [List.getD, hkl]
      have hx24 : -24 ≤ x := HV.out x hmem
      have E := Lib.hid (fill_take (L := givesL ss) (t := t) (k := k) (by rw [HL.out]; exact hlt) ex.out)
      have i0 : (0 : Int) ≤ (k : Int) := by omega
      have i1 : (k : Int) < (mt : Int) := by omega
      have HN := Lib.hid (Own.len ho)
      have hx0 := hx
      clear hmem hx h' ex
      by_cases hpos : 0 ≤ x
      · have R := Lib.hid (rep_sym (L := givesL ss) hpos)
        have d1 : decide (x < 0) = false := by simp; omega
        by_cases h60 : on + 1 ≤ 60
        · go_wp2_with (at_builtin; refine app1 rfl _ _ rfl (w.heap.size + 1) O on oc (fillL (givesL ss) (t.take k)) rfl (Own.alloc ho _) wr.heap.size 1 x rfl ((Row.new _ _ _).cell 0) (by omega) (by simp; omega) ?_; intro O' oc' w2 ho2 b2)
          have S1 : HeadF w S m c mt ss t (.slice O' (on + 1) oc') (.int .i64 ((k : Int) + 1)) w2 := ⟨k + 1, O', on + 1, oc', hlt, by simp, rfl, h60, by rw [E.out, R.out]; exact ho2, (hr.alloc _).below b2 (Nat.lt_succ_self _), (hb.alloc (Nat.le_of_lt hsz) _).trans (b2.mono (Nat.le_succ _))⟩
          have HS1 := Lib.hid S1
          clear S1 ho2 b2 ho hr hb R E cS
          go_wp2
          go_roundw
          case rel => exact HS1.out
          case measure => simp [intOf]; omega
        · have NO := Lib.hid (fits_no (ss := ss) (t := t) (k := k + 1) (by rw [E.out, R.out, List.length_append, ← HN.out]; simp; omega))
          go_wp2_with (at_builtin; refine app1 rfl _ _ rfl (w.heap.size + 1) O on oc (fillL (givesL ss) (t.take k)) rfl (Own.alloc ho _) wr.heap.size 1 x rfl ((Row.new _ _ _).cell 0) (by omega) (by simp; omega) ?_; intro O' oc' w2 ho2 b2)
          have F := Lib.hid (pairF_no NO.out ((hb.alloc (Nat.le_of_lt hsz) _).trans (b2.mono (Nat.le_succ _))))
          clear ho2 b2 ho hr hb R E cS
          go_wp2
          go_ret2
          exact F.out
      · have hneg : x < 0 := by omega
        have R := Lib.hid (rep_var (L := givesL ss) hneg)
        obtain ⟨i, hi⟩ : ∃ i : Nat, (-1 - x).toNat = i := ⟨_, rfl⟩
        rw [hi] at R
        have hix : (i : Int) = -1 - x := by omega
        have LG := Lib.hid (l2Gives S m c ss i wr.drew (((h.below hb).more hb.size).drew) HT.out (by omega))
        rw [hix] at LG
        have hlen : (givesL ss i).length ≤ 60 := HM.out i
        have hlen1 : 1 ≤ (givesL ss i).length := gives_pos ss i
        obtain ⟨q, hq⟩ : ∃ q, (givesL ss i).length = q := ⟨_, rfl⟩
        rw [hq] at hlen hlen1
        have HQ := Lib.hid hq
        have hw1 : IntKind.i64.wrap (-1 - x) = -1 - x := by rw [IntKind.wrap_i64]; omega
        have hod := Own.drew ho
        have hrd := hr.drew
        have hbd := hb.drew
        clear hix hi hq h
        go_wp2_with fail
        go_region_held3 (fun w' => w'.cell? ⟨w.heap.size, 0, none⟩ = some (.slice S m c) ∧ w'.cell? ⟨b, off + k, none⟩ = some (.int .i64 x))
          (go_keep)
          (first
            | (go_at_call 66; refine LG.out.mono ?_; rintro e w1 ⟨D, dn, dc, rfl, od, bb⟩; obtain rfl : dn = q := (by rw [Own.len od]; exact HQ.out); have ho1 := Own.next hod bb; have hr1 := hrd.next bb; have hb1 := next_trans hbd bb; have cS1 : w1.cell? ⟨w.heap.size, 0, none⟩ = some (.slice S m c) := hr1.cell 0; have cX1 : w1.cell? ⟨b, off + k, none⟩ = some (.int .i64 x) := (bb.cell (p := ⟨b, off + k, none⟩) hbr).trans hx1)
            | (refine stepAppAll rfl _ _ rfl (w.heap.size + 1) O on oc (fillL (givesL ss) (t.take k)) (by rfl) ho1 D _ dc w1.heap.size (givesL ss i) (by rfl) (Own.seg od) (by omega) (by omega) (by omega) (by have := hr1.lt; omega) ?_; intro O' oc' w2 ho2 hg2 hat2 hlt2; have hr2 := Row.away hr1 hg2 (fun e => by have := (World.ownsRow.lt ho1 w.heap.size (by rw [blk_own]; exact e)).1; omega); have hb2 : Below w.heap.size w w2 := hb1.grown hg2 hb1.size (fun z hz => by have := (World.ownsRow.lt ho1 z (by rw [blk_own]; exact hz)).1; omega); have cS2 : w2.cell? ⟨w.heap.size, 0, none⟩ = some (.slice S m c) := hr2.cell 0; have cX2 : w2.cell? ⟨b, off + k, none⟩ = some (.int .i64 x) := (hb2.cell (p := ⟨b, off + k, none⟩) hbb).trans hx0))
        have hsum : (fillL (givesL ss) (t.take k) ++ givesL ss i).length = on + dn := by rw [List.length_append, ← HN.out, HQ.out]
        clear cS1 cX1 ho1 hr1 hb1 od bb hod hrd hbd LG ho hr hb cS hx1 hg2 hat2 HM HV
        by_cases h60 : on + dn ≤ 60
        · have S1 : HeadF w S m c mt ss t (.slice (some ⟨O', 0, none⟩) (on + dn) oc') (.int .i64 ((k : Int) + 1)) w2 := ⟨k + 1, _, on + dn, oc', hlt, by simp, rfl, h60, by rw [E.out, R.out]; exact ho2, hr2, hb2⟩
          have HS1 := Lib.hid S1
          clear S1 ho2 hr2 hb2 R E HQ hsum
          go_wp2
          go_roundw
          case rel => exact HS1.out
          case measure => simp [intOf]; omega
        · have NO := Lib.hid (fits_no (ss := ss) (t := t) (k := k + 1) (by rw [E.out, R.out, hsum]; omega))
          have F := Lib.hid (pairF_no NO.out hb2)
          clear ho2 hr2 hb2 R E HQ hsum
          go_wp2
          go_ret2
          exact F.out
    · have F : AnsPairO w (fitL ss t) (fitsB ss t) (.returned (.tuple #[.slice O on oc, .bool true])) wr := by
        rw [List.take_of_length_le (by rw [HL.out]; omega)] at ho
        have hB : fitsB ss t = true := by unfold fitsB; rw [← Own.len ho]; simp; omega
        exact ⟨O, on, oc, by rw [hB], by unfold fitL; rw [if_pos hB]; exact Own.lower ho (Nat.le_succ _), hb⟩
      have HF := Lib.hid F
      clear F ho hr hb h h'
      go_wp2
      go_ret2
      exact HF.out

/-- what Filled answers -/
def filledB (sg : List Int) (ss : List (List Int)) (t : List Int) : Bool := substOkB sg ss && (termOkB sg t && fitsB ss t)
def filledL (sg : List Int) (ss : List (List Int)) (t : List Int) : List Int := if filledB sg ss t = true then fillL (givesL ss) t else []
theorem filled_s {sg : List Int} {ss : List (List Int)} {t : List Int} (h : substOkB sg ss = false) : filledB sg ss t = false := by unfold filledB; rw [h, Bool.false_and]
theorem filled_t {sg : List Int} {ss : List (List Int)} {t : List Int} (h : termOkB sg t = false) : filledB sg ss t = false := by unfold filledB; rw [h, Bool.false_and, Bool.and_false]
theorem filled_b {sg : List Int} {ss : List (List Int)} {t : List Int} (h : substOkB sg ss = true) (h' : termOkB sg t = true) : filledB sg ss t = fitsB ss t := by unfold filledB; rw [h, h', Bool.true_and, Bool.true_and]
theorem filled_l {sg : List Int} {ss : List (List Int)} {t : List Int} (h : substOkB sg ss = true) (h' : termOkB sg t = true) : filledL sg ss t = fitL ss t := by unfold filledL fitL; rw [filled_b h h']
theorem filled_len (sg : List Int) (ss : List (List Int)) (t : List Int) : (filledL sg ss t).length ≤ 60 := by
  unfold filledL filledB fitsB
  split
  · rename_i h
    simp only [Bool.and_eq_true, decide_eq_true_eq] at h
    exact h.2.2
  · simp
theorem pairSF_no {w wr : World} {sg : List Int} {ss : List (List Int)} {t : List Int} (h : filledB sg ss t = false) (hb : Below w.heap.size w wr) : AnsPairO w (filledL sg ss t) (filledB sg ss t) (.returned (.tuple #[.slice (some ⟨wr.heap.size, 0, none⟩) 0 0, .bool false])) (wr.alloc (.cells #[] 2)) :=
  ⟨_, 0, 0, by rw [h], by unfold filledL; rw [if_neg (by rw [h]; simp)]; exact own_empty wr w.heap.size hb.size, hb.alloc hb.size _⟩
theorem pairOF_no {w w' : World} {sg : List Int} {ss : List (List Int)} {t : List Int} (h : filledB sg ss t = false) (hb : Below w.heap.size w w') : AnsPairO w (filledL sg ss t) (filledB sg ss t) (.returned (.tuple #[.slice none 0 0, .bool false])) w' :=
  ⟨none, 0, 0, by rw [h], by unfold filledL; rw [if_neg (by rw [h]; simp)]; exact Own.nil _ _, hb⟩

set_option maxHeartbeats 2000000 in
theorem specFilledO (A S A' : Option Addr) (n c m c' q cq : Nat) (sg : List Int) (ss : List (List Int)) (t : List Int) (w : World) (h : Seg w w.heap.size A n sg) (h' : Segs w w.heap.size S m ss) (h2 : Seg w w.heap.size A' q t) (hn : n ≤ 1048576) (ht : tot ss ≤ 1048576) (hq : q ≤ 1048576) :
    Calls Try.prog 18 #[.agg #[.slice A n c], .agg #[.slice S m c'], .slice A' q cq] w (AnsPairO w (filledL sg ss t) (filledB sg ss t)) := by
  obtain ⟨W, hW, rA, rS, bel⟩ := boxes2 w A n c S m c'
  have HW := Lib.hid hW
  have HL := Lib.hid h2.1
  have s := h.next bel
  have s1 := h'.next bel
  have s2 := h2.next bel
  have L := Lib.hid (specSubstOk A S n c m c' sg ss W s s1 hn ht)
  clear hW h h' h2
  cases hok : substOkB sg ss with
  | false =>
    have HS := Lib.hid hok
    clear hok s s1 s2
    go_enter Try.func18, Try.ntmps18
    go_wp2_with fail
    rw [← HW.out]
    refine L.out.mono ?_
    rintro e w1 ⟨he, bb⟩
    rw [HS.out] at he
    subst he
    have bel1 := next_trans bel bb
    have F := Lib.hid (pairSF_no (filled_s (t := t) HS.out) bel1)
    clear bb bel bel1 rA rS
    go_wp2
    go_ret2
    exact F.out
  | true =>
    have HS := Lib.hid hok
    clear hok
    go_enter Try.func18, Try.ntmps18
    go_wp2_with fail
    rw [← HW.out]
    refine L.out.mono ?_
    rintro e w1 ⟨he, bb⟩
    rw [HS.out] at he
    subst he
    replace s := s.next bb
    replace s1 := s1.next bb
    replace s2 := s2.next bb
    replace rA := rA.next bb
    replace rS := rS.next bb
    replace bel := next_trans bel bb
    have cA : w1.cell? ⟨w.heap.size, 0, none⟩ = some (.slice A n c) := rA.cell 0
    have L2 := Lib.hid (specTermOk A A' n c q cq sg t w1 s s2 hn hq)
    clear bb L
    cases hok2 : termOkB sg t with
    | false =>
      have HS2 := Lib.hid hok2
      clear hok2 s s1 s2
      go_wp2_with fail
      refine L2.out.mono ?_
      rintro e w2 ⟨he, bb⟩
      rw [HS2.out] at he
      subst he
      have bel1 := next_trans bel bb
      have F := Lib.hid (pairSF_no (filled_t (ss := ss) HS2.out) bel1)
      clear bb bel bel1 rA rS cA L2
      go_wp2
      go_ret2
      exact F.out
    | true =>
      have HS2 := Lib.hid hok2
      have HV := Lib.hid (fun x hx => (term_mem (x := x) hok2 hx).1)
      have H60 : q ≤ 60 := by rw [← HL.out]; exact (term_len hok2).2
      clear hok2
      go_wp2_with fail
      refine L2.out.mono ?_
      rintro e w2 ⟨he, bb⟩
      rw [HS2.out] at he
      subst he
      replace s1 := s1.next bb
      replace s2 := s2.next bb
      replace bel := next_trans bel bb
      have cS : w2.cell? ⟨w.heap.size + 1, 0, none⟩ = some (.slice S m c') := (rS.next bb).cell 0
      have L3 := Lib.hid (l2Filled S A' m c' q cq ss t w2 s1 s2 ht H60 HV.out (gives_len HS.out))
      clear bb L2 s1 s2 cA rA rS
      go_wp2_with fail
      refine L3.out.mono ?_
      rintro e w3 ⟨O, on, oc, rfl, ho, bb⟩
      have hsz := bel.size
      have F : AnsPairO w (filledL sg ss t) (filledB sg ss t) (.returned (.tuple #[.slice O on oc, .bool (fitsB ss t)])) w3 :=
        ⟨O, on, oc, by rw [filled_b HS.out HS2.out], by rw [filled_l HS.out HS2.out]; exact Own.lower ho hsz, next_trans bel bb⟩
      have HF := Lib.hid F
      clear F ho bb bel L3 cS
      generalize fitsB ss t = z at *
      go_wp2
      go_ret2
      exact HF.out

theorem specFilled (A S A' : Option Addr) (n c m c' q cq : Nat) (sg : List Int) (ss : List (List Int)) (t : List Int) (w : World) (h : Seg w w.heap.size A n sg) (h' : Segs w w.heap.size S m ss) (h2 : Seg w w.heap.size A' q t) (hn : n ≤ 1048576) (ht : tot ss ≤ 1048576) (hq : q ≤ 1048576) :
    Calls Try.prog 18 #[.agg #[.slice A n c], .agg #[.slice S m c'], .slice A' q cq] w (AnsPairS w (filledL sg ss t) (filledB sg ss t)) :=
  (specFilledO A S A' n c m c' q cq sg ss t w h h' h2 hn ht hq).mono fun _ _ ⟨A0, n0, c0, e, ho, hb⟩ => ⟨A0, n0, c0, e, Own.seg ho, hb⟩

set_option maxHeartbeats 4000000 in
theorem implFilled (A S A' : Option Addr) (n c m c' q cq : Nat) (sg : List Int) (ss : List (List Int)) (t : List Int) (w : World) (h : Seg w w.heap.size A n sg) (h' : Segs w w.heap.size S m ss) (h2 : Seg w w.heap.size A' q t) (hn : n ≤ 1048576) (ht : tot ss ≤ 1048576) (hq : q ≤ 1048576) :
    Calls Try.prog 21 #[.agg #[.slice A n c], .agg #[.slice S m c'], .slice A' q cq] w (AnsPairO w (filledL sg ss t) (filledB sg ss t)) := by
  obtain ⟨W, hW, rA, rS, bel⟩ := boxes2 w A n c S m c'
  have HW := Lib.hid hW
  have HL := Lib.hid h2.1
  have hm : m ≤ 1048576 := tot_len h'.1 ht
  have s := h.next bel
  have s1 := h'.next bel
  have s2 := h2.next bel
  have L := Lib.hid (implSubstOk A S n c m c' sg ss W s s1 hn ht)
  clear hW h h' h2
  cases hok : substOkB sg ss with
  | false =>
    have HS := Lib.hid hok
    clear hok s s1 s2
    go_enter Try.func21, Try.ntmps21
    go_wp2_with fail
    rw [← HW.out]
    refine L.out.mono ?_
    rintro e w1 ⟨he, bb⟩
    rw [HS.out] at he
    subst he
    have F := Lib.hid (pairOF_no (filled_s (t := t) HS.out) (next_trans bel bb))
    clear bb bel rA rS
    go_wp2
    go_ret2
    exact F.out
  | true =>
    have HS := Lib.hid hok
    clear hok
    go_enter Try.func21, Try.ntmps21
    go_wp2_with fail
    rw [← HW.out]
    refine L.out.mono ?_
    rintro e w1 ⟨he, bb⟩
    rw [HS.out] at he
    subst he
    replace s := s.next bb
    replace s1 := s1.next bb
    replace s2 := s2.next bb
    replace rA := rA.next bb
    replace rS := rS.next bb
    replace bel := next_trans bel bb
    have cA : w1.cell? ⟨w.heap.size, 0, none⟩ = some (.slice A n c) := rA.cell 0
    have L2 := Lib.hid (implTermOk A A' n c q cq sg t w1 s s2 hn hq)
    clear bb L
    cases hok2 : termOkB sg t with
    | false =>
      have HS2 := Lib.hid hok2
      clear hok2 s s1 s2
      go_wp2_with fail
      refine L2.out.mono ?_
      rintro e w2 ⟨he, bb⟩
      rw [HS2.out] at he
      subst he
      have F := Lib.hid (pairOF_no (filled_t (ss := ss) HS2.out) (next_trans bel bb))
      clear bb bel rA rS cA L2
      go_wp2
      go_ret2
      exact F.out
    | true =>
      have HS2 := Lib.hid hok2
      have HV := Lib.hid (fun x hx => (term_mem (x := x) hok2 hx).1)
      have H60 : q ≤ 60 := by rw [← HL.out]; exact (term_len hok2).2
      have HG := Lib.hid (gives_len HS.out)
      clear hok2
      go_wp2_with fail
      refine L2.out.mono ?_
      rintro e w2 ⟨he, bb⟩
      rw [HS2.out] at he
      subst he
      replace s1 := s1.next bb
      replace s2 := s2.next bb
      replace bel := next_trans bel bb
      have cS : w2.cell? ⟨w.heap.size + 1, 0, none⟩ = some (.slice S m c') := (rS.next bb).cell 0
      clear bb L2 cA rA rS
      go_wp2_with fail
      refine (lookupIn S m c' w2).mono ?_
      rintro e w3 ⟨rfl, hw3⟩
      have b3 : Below w2.heap.size w2 w3 := by rw [hw3]; exact (Below.refl _ _).alloc (Nat.le_refl _) _
      have r3 : Row w3 w2.heap.size 31 #[.slice S m c'] := by rw [hw3]; exact Row.new _ _ _
      replace s1 := s1.next b3
      replace s2 := s2.next b3
      replace bel := next_trans bel b3
      have L3 := Lib.hid (fill 112 #[.pointer (some ⟨w2.heap.size, 0, none⟩)] (enters_of Try.func112 (by kernel_rfl) rfl) A' q cq t _ w3 (lookSubst w2.heap.size S m c' ss w3 r3 s1 hm) s2 H60 HV.out (fun i => Nat.le_trans (HG.out i) (by omega)))
      clear hw3 b3 r3 s1 s2 cS
      go_wp2_with fail
      refine L3.out.mono ?_
      rintro e w4 ⟨O, on, oc, rfl, ho, bb⟩
      have hsize := bel.size
      replace bel := next_trans bel bb
      have ho2 := Own.lower ho hsize
      have hlen := Own.len ho
      have hon : on ≤ 245760 := by rw [hlen]; have := fill_bound (L := givesL ss) (t := t) (k := t.length) (fun i => Nat.le_trans (HG.out i) (by omega)) HL.out H60; rwa [List.take_length] at this
      have F : ∀ z : Bool, z = decide (60 < on) → AnsPairO w (filledL sg ss t) (filledB sg ss t) (.returned (.tuple #[.slice (if z then none else O) (if z then 0 else on) (if z then 0 else oc), .bool !z])) w4 := fun z hz => by
        by_cases h60 : 60 < on
        · rw [decide_eq_true h60] at hz
          subst hz
          exact pairOF_no (by rw [filled_b HS.out HS2.out]; unfold fitsB; rw [← hlen]; simp; omega) bel
        · rw [decide_eq_false h60] at hz
          subst hz
          have hb : filledB sg ss t = true := by rw [filled_b HS.out HS2.out]; unfold fitsB; rw [← hlen]; simp; omega
          exact ⟨O, on, oc, by rw [hb]; rfl, by unfold filledL; rw [if_pos hb]; exact ho2, bel⟩
      have HF := Lib.hid F
      clear F ho ho2 bb bel L3 hlen
      go_wp2_with fail
      refine (tooLong O on oc w4 (by omega)).mono ?_
      rintro e w5 ⟨rfl, rfl⟩
      obtain ⟨z, hz⟩ : ∃ z, decide (60 < on) = z := ⟨_, rfl⟩
      have G := Lib.hid (HF.out z hz.symm)
      rw [hz]
      clear HF hz
      cases z
      · go_wp2
        go_ret2
        exact G.out
      · go_wp2
        go_ret2
        exact G.out
end Go.Proofs.Ytkmhnkljigncmaa.filled
end

section
/-
  CONTRACT of spec.l1Max. Conditions: none. By an AI agent.
-/
namespace Go.Proofs.Ytkmhnkljigncmaa.maxi
open Go.RowKit Go.Proofs.Ytkmhnkljigncmaa.base
theorem max_any (x y : Int) (w : World) : Calls Try.prog 126 #[.int .i64 x, .int .i64 y] w fun e w' => w = w' ∧ e = .returned (.int .i64 (max x y)) := by
  by_cases h : y < x
  · have e : max x y = x := by omega
    rw [e]
    go_enter Try.func126, Try.ntmps126
    go_wp2
    go_ret
    exact ⟨rfl, rfl⟩
  · have e : max x y = y := by omega
    rw [e]
    go_enter Try.func126, Try.ntmps126
    go_wp2
    go_ret
    exact ⟨rfl, rfl⟩
end Go.Proofs.Ytkmhnkljigncmaa.maxi
end

section
/-
  CONTRACTS: spec.Composed. Conditions: the slices read as lists ('Seg', 'Segs'), at most 1048576 values. (The region's walk by wip/tools/reg.py.) By an AI agent.
-/
namespace Go.Proofs.Ytkmhnkljigncmaa.compSpec
open Go.RowKit Go.Proofs.Ytkmhnkljigncmaa.base Go.Proofs.Ytkmhnkljigncmaa.ints Go.Proofs.Ytkmhnkljigncmaa.sig Go.Proofs.Ytkmhnkljigncmaa.cursor Go.Proofs.Ytkmhnkljigncmaa.marks Go.Proofs.Ytkmhnkljigncmaa.app Go.Proofs.Ytkmhnkljigncmaa.appAt Go.Proofs.Ytkmhnkljigncmaa.sym Go.Proofs.Ytkmhnkljigncmaa.segs Go.Proofs.Ytkmhnkljigncmaa.segsHelp Go.Proofs.Ytkmhnkljigncmaa.kinds Go.Proofs.Ytkmhnkljigncmaa.termFacts Go.Proofs.Ytkmhnkljigncmaa.fillMath Go.Proofs.Ytkmhnkljigncmaa.substOk Go.Proofs.Ytkmhnkljigncmaa.gives Go.Proofs.Ytkmhnkljigncmaa.shifted Go.Proofs.Ytkmhnkljigncmaa.filled Go.Proofs.Ytkmhnkljigncmaa.plainMath Go.Proofs.Ytkmhnkljigncmaa.plain Go.Proofs.Ytkmhnkljigncmaa.plainOf Go.Proofs.Ytkmhnkljigncmaa.compMath Go.Proofs.Ytkmhnkljigncmaa.maxi
set_option maxRecDepth 100000

/-- a substitution of the call's own, and whether -/
def AnsSubB (w : World) (xss : List (List Int)) (b : Bool) (e : Ending) (w' : World) : Prop := ∃ A n c, e = .returned (.tuple #[.agg #[.slice A n c], .bool b]) ∧ Owns w' w.heap.size w'.heap.size A n c xss ∧ Below w.heap.size w w'
theorem subB_no {w w' : World} {sg : List Int} {ss us : List (List Int)} (h : composedB sg ss us = false) (hb : Below w.heap.size w w') : AnsSubB w (composedI sg ss us) (composedB sg ss us) (.returned (.tuple #[.agg #[.slice none 0 0], .bool false])) w' :=
  ⟨none, 0, 0, by rw [h], by rw [composed_no h]; exact Owns.nil _ _ _, hb⟩
/-- four boxes: three parameters and the result -/
theorem boxes4 (w : World) (A : Option Addr) (n c : Nat) (S : Option Addr) (m c' : Nat) (T : Option Addr) (q cq : Nat) : ∃ W, W = (((w.alloc (.cells #[.slice A n c] 26)).alloc (.cells #[.slice S m c'] 31)).alloc (.cells #[.slice T q cq] 31)).alloc (.cells #[.slice none 0 0] 31) ∧
    Row W w.heap.size 26 #[.slice A n c] ∧ Row W (w.heap.size + 1) 31 #[.slice S m c'] ∧ Row W (w.heap.size + 2) 31 #[.slice T q cq] ∧ Row W (w.heap.size + 3) 31 #[.slice none 0 0] ∧ Below w.heap.size w W := by
  obtain ⟨W, hW, r1, r2, b⟩ := boxes2 w A n c S m c'
  have hz : W.heap.size = w.heap.size + 2 := by rw [hW]; simp
  have hz2 : (W.alloc (.cells #[.slice T q cq] 31)).heap.size = w.heap.size + 3 := by simp [hz]
  refine ⟨_, rfl, ?_, ?_, ?_, ?_, ?_⟩
  · rw [← hW]; exact (r1.alloc _).alloc _
  · rw [← hW]; exact (r2.alloc _).alloc _
  · rw [← hW, ← hz]; exact (Row.new _ _ _).alloc _
  · rw [← hW, ← hz2]; exact Row.new _ _ _
  · rw [← hW]; exact (b.alloc b.size _).alloc (by simp; have := b.size; omega) _

/-- the head of the loop: the result so far lies in block o -/
def HeadC (w : World) (o M : Nat) (S : Option Addr) (m c : Nat) (T : Option Addr) (q cq : Nat) (ss us : List (List Int)) (i : Value) (wr : World) : Prop :=
  ∃ (k : Nat) (A : Option Addr) (cA : Nat), k ≤ M ∧ i = .int .i64 k ∧ (∀ j, j < k → (compL us ss j).length ≤ 60) ∧ Owns wr (o + 1) wr.heap.size A k cA (outL us ss k) ∧ Row wr (w.heap.size + 1) 31 #[.slice S m c] ∧ Row wr (w.heap.size + 2) 31 #[.slice T q cq] ∧
    Row wr (w.heap.size + 3) 31 #[.slice none 0 0] ∧ Row wr o 31 #[.slice A k cA] ∧ Below w.heap.size w wr
theorem headC_step {w wr w5 w6 : World} {S T A A' : Option Addr} {o M m c q cq k cA c' : Nat} {ss us : List (List Int)} (hk : k < M) (hoz : w.heap.size + 3 < o) (hlow : ∀ j, j < k → (compL us ss j).length ≤ 60) (hkk : (compL us ss k).length ≤ 60) (ho : Owns w6 (o + 1) w6.heap.size A' (k + 1) c' (outL us ss (k + 1)))
    (r1 : Row wr (w.heap.size + 1) 31 #[.slice S m c]) (r2 : Row wr (w.heap.size + 2) 31 #[.slice T q cq]) (r3 : Row wr (w.heap.size + 3) 31 #[.slice none 0 0]) (ro : Row wr o 31 #[.slice A k cA]) (hb : Below w.heap.size w wr)
    (bb : Below wr.heap.size wr w5) (hg : w5.grownBy w6 (blk A)) (hA : ∀ z, blk A = some z → o + 1 ≤ z) :
    HeadC w o M S m c T q cq ss us (.int .i64 ((k : Int) + 1)) (w6.setCell ⟨o, 0, none⟩ (.slice A' (k + 1) c')) := by
  have q1 := Row.away (r1.next bb) hg (fun e => by have := hA _ e; omega)
  have q2 := Row.away (r2.next bb) hg (fun e => by have := hA _ e; omega)
  have q3 := Row.away (r3.next bb) hg (fun e => by have := hA _ e; omega)
  have qo := Row.away (ro.next bb) hg (fun e => by have := hA _ e; omega)
  have hbb : Below w.heap.size w w6 := (hb.trans (bb.mono hb.size)).grown hg (by have := hb.size; have := bb.size; omega) (fun z hz => by have := hA z hz; omega)
  refine ⟨k + 1, A', c', hk, by simp, fun j hj => ?_, ?_, q1.far (by simp; omega) _, q2.far (by simp; omega) _, q3.far (by simp; omega) _, ?_, hbb.setCell (by simp; omega) _⟩
  · by_cases e : j = k
    · rw [e]; exact hkk
    · exact hlow j (by omega)
  · have := owns_put ho qo (by omega) 0 (.slice A' (k + 1) c')
    simpa using this
  · have := qo.put 0 (.slice A' (k + 1) c')
    simpa using this

end Go.Proofs.Ytkmhnkljigncmaa.compSpec
end

section
/-
  CONTRACTS: slices.IndexFunc, slices.ContainsFunc over impl.tooLong, the closure of impl.Composed, impl.Composed. Conditions: the slices read as lists ('Seg', 'Segs'), at most 1048576 values. (The closure's region by wip/tools/reg.py.) By an AI agent.
-/
namespace Go.Proofs.Ytkmhnkljigncmaa.compImpl
open Go.RowKit Go.Proofs.Ytkmhnkljigncmaa.base Go.Proofs.Ytkmhnkljigncmaa.ints Go.Proofs.Ytkmhnkljigncmaa.sig Go.Proofs.Ytkmhnkljigncmaa.cursor Go.Proofs.Ytkmhnkljigncmaa.marks Go.Proofs.Ytkmhnkljigncmaa.app Go.Proofs.Ytkmhnkljigncmaa.appAt Go.Proofs.Ytkmhnkljigncmaa.sym Go.Proofs.Ytkmhnkljigncmaa.segs Go.Proofs.Ytkmhnkljigncmaa.segsHelp Go.Proofs.Ytkmhnkljigncmaa.kinds Go.Proofs.Ytkmhnkljigncmaa.termFacts Go.Proofs.Ytkmhnkljigncmaa.fillMath Go.Proofs.Ytkmhnkljigncmaa.look Go.Proofs.Ytkmhnkljigncmaa.substOk Go.Proofs.Ytkmhnkljigncmaa.gives Go.Proofs.Ytkmhnkljigncmaa.shifted Go.Proofs.Ytkmhnkljigncmaa.filled Go.Proofs.Ytkmhnkljigncmaa.plainMath Go.Proofs.Ytkmhnkljigncmaa.plain Go.Proofs.Ytkmhnkljigncmaa.plainOf Go.Proofs.Ytkmhnkljigncmaa.compMath Go.Proofs.Ytkmhnkljigncmaa.compSpec Go.Proofs.Ytkmhnkljigncmaa.thn
set_option maxRecDepth 100000

def AnsIdx (w : World) (xss : List (List Int)) (e : Ending) (w' : World) : Prop := w = w' ∧ ∃ z : Int, e = .returned (.int .i64 z) ∧ -1 ≤ z ∧ z ≤ 1048576 ∧ decide (0 ≤ z) = anyLong xss
def HeadIdx (w : World) (n : Nat) (xss : List (List Int)) (i : Value) (wr : World) : Prop := ∃ k : Nat, k ≤ n ∧ i = .int .i64 k ∧ (∀ j, j < k → ¬ 60 < (xss.getD j []).length) ∧ w = wr

set_option maxHeartbeats 2000000 in
theorem indexLong (A : Option Addr) (n c : Nat) (xss : List (List Int)) (w : World) (h : Segs w w.heap.size A n xss) (hn : n ≤ 1048576) (hE : ∀ j, (xss.getD j []).length ≤ 1048576) :
    Calls Try.prog 114 #[.slice A n c, .func (.func 74) #[] #[]] w (AnsIdx w xss) := by
  have HE := Lib.hid hE
  have HL := Lib.hid h.1
  have HH : Hid (HeadIdx w n xss (.int .i64 0) w) := Lib.hid ⟨0, Nat.zero_le _, rfl, fun j hj => absurd hj (Nat.not_lt_zero _), rfl⟩
  clear hE
  go_enter Try.func114, Try.ntmps114
  go_wp2_with fail
  go_loopw [8] (fun i wr => HeadIdx w n xss i wr) (fun i _ => n - (intOf i).toNat)
  case atStart => exact HH.out
  case round =>
    obtain ⟨k, hk, rfl, hlow, rfl⟩ := hrel
    have HLOW := Lib.hid hlow
    clear hlow HH
    by_cases hlt : k < n
    · obtain ⟨b, off, A', n', cc, rfl, hbB, hx, hseg, hcap⟩ := h.spot hlt
      have hn' : n' ≤ 1048576 := by rw [← hseg.1]; exact HE.out k
      have HG := Lib.hid hseg.1
      have i0 : (0 : Int) ≤ (k : Int) := by omega
      have i1 : (k : Int) < (n : Int) := by omega
      clear hseg hcap h
      go_wp2_with fail
      refine (tooLong A' n' cc w (by omega)).mono ?_
      rintro e w' ⟨rfl, rfl⟩
      by_cases h60 : 60 < n'
      · rw [decide_eq_true h60]
        have F : AnsIdx w xss (.returned (.int .i64 (k : Int))) w := ⟨rfl, k, rfl, by omega, by omega, by rw [decide_eq_true (by omega)]; exact (anyLong_iff.2 ⟨k, by rw [HG.out]; exact h60⟩).symm⟩
        have HF := Lib.hid F
        clear F hx
        go_wp2
        go_ret
        exact HF.out
      · rw [decide_eq_false h60]
        have S1 : HeadIdx w n xss (.int .i64 ((k : Int) + 1)) w := ⟨k + 1, hlt, by simp, fun j hj => by
          by_cases e : j = k
          · rw [e, HG.out]; exact h60
          · exact HLOW.out j (by omega), rfl⟩
        have HS1 := Lib.hid S1
        clear S1 hx
        go_wp2
        go_roundw
        case rel => exact HS1.out
        case measure => simp [intOf]; omega
    · have F : AnsIdx w xss (.returned (.int .i64 (-1))) w := ⟨rfl, -1, rfl, by omega, by omega, by
        cases e : anyLong xss with
        | false => rfl
        | true =>
          obtain ⟨i, hi⟩ := anyLong_iff.1 e
          by_cases hin : i < n
          · exact absurd hi (HLOW.out i (by omega))
          · rw [show xss.getD i [] = [] by simp [List.getD, HL.out, hin]] at hi
            simp at hi⟩
      have HF := Lib.hid F
      clear F h
      go_wp2
      go_ret
      exact HF.out
theorem containsLong (A : Option Addr) (n c : Nat) (xss : List (List Int)) (w : World) (h : Segs w w.heap.size A n xss) (hn : n ≤ 1048576) (hE : ∀ j, (xss.getD j []).length ≤ 1048576) :
    Calls Try.prog 76 #[.slice A n c, .func (.func 74) #[] #[]] w fun e w' => w = w' ∧ e = .returned (.bool (anyLong xss)) := by
  have L := Lib.hid (indexLong A n c xss w h hn hE)
  clear h hE
  go_enter Try.func76, Try.ntmps76
  go_wp2_with fail
  refine L.out.mono ?_
  rintro e w' ⟨rfl, z, rfl, h1, h2, hz⟩
  have HZ := Lib.hid hz
  clear hz L
  go_wp2
  go_ret
  exact ⟨rfl, by rw [← HZ.out]; rfl⟩

/-- the composition of two look-ups -/
theorem lookBoth (b1 b2 l1 l2 : Nat) (S : Option Addr) (m c : Nat) (T : Option Addr) (q cq : Nat) (sg : List Int) (ss us : List (List Int)) (w wx : World) (hok : substOkB sg ss = true) (hok2 : substOkB sg us = true) (hb : Below w.heap.size w wx) (h : Segs w w.heap.size S m ss) (h' : Segs w w.heap.size T q us)
    (c1 : wx.cell? ⟨b1, 0, none⟩ = some (.func (.func 112) #[] #[.pointer (some ⟨l1, 0, none⟩)])) (c2 : wx.cell? ⟨b2, 0, none⟩ = some (.func (.func 112) #[] #[.pointer (some ⟨l2, 0, none⟩)]))
    (k1 : wx.cell? ⟨l1, 0, none⟩ = some (.slice S m c)) (k2 : wx.cell? ⟨l2, 0, none⟩ = some (.slice T q cq)) :
    Calls Try.prog 61 #[.func (.func 113) #[] #[.pointer (some ⟨b2, 0, none⟩), .pointer (some ⟨b1, 0, none⟩)]] wx (fun e w' => ∃ O on oc, e = .returned (.agg #[.slice O on oc]) ∧ Owns w' wx.heap.size w'.heap.size O on oc (plainL (compL us ss) 24) ∧ Below wx.heap.size wx w' ∧ Below w.heap.size w wx) := by
  have m24 : m ≤ 1048576 := by have := (substOk_parts hok).2.1; rw [h.1] at this; omega
  have q24 : q ≤ 1048576 := by have := (substOk_parts hok2).2.1; rw [h'.1] at this; omega
  have eq := enters_of Try.func112 (by kernel_rfl) rfl
  have no : ∀ {g : Nat} {lb : Array Value} {L : Nat → List Int}, Looks g lb wx L 24 → LooksE none g lb wx L 24 := fun h W i hg hi => h W i ⟨hg.os, hg.tape, hg.output, hg.size, fun k hk => hg.block k hk (by simp)⟩ hi
  have LK := lookThen none b1 b2 _ _ _ _ eq eq (givesL ss) (givesL us) wx (World.block_lt_of_cell? _ _ c1) (World.block_lt_of_cell? _ _ c2) (by simp) (by simp) c1 c2
    (no (lookSubstC l1 S m c ss wx (World.block_lt_of_cell? _ _ k1) k1 (h.next hb) m24)) (no (lookSubstC l2 T q cq us wx (World.block_lt_of_cell? _ _ k2) k2 (h'.next hb) q24)) (fun i _ => gives_len hok i) (fun i hi y hy => (term_mem (x := y) (gives_ok hok hi) hy).1) (fun i => Nat.le_trans (gives_len hok2 i) (by omega))
  exact (plain 113 _ (enters_of Try.func113 (by kernel_rfl) rfl) (compL us ss) wx LK.looks (comp_pos us ss) (fun i => Nat.le_trans (comp_len hok hok2 i) (by omega))).mono fun _ _ ⟨O, on, oc, e1, e2, e3⟩ => ⟨O, on, oc, e1, e2, e3, hb⟩

/-- what lies behind the result's making: its variable -/
def Got (w : World) (F : List (List Int)) (p : Value) (wx : World) : Prop :=
  ∃ (b : Nat) (O : Option Addr) (on oc : Nat), p = .pointer (some ⟨b, 0, none⟩) ∧ Row wx b 31 #[.slice O on oc] ∧ Owns wx w.heap.size wx.heap.size O on oc F ∧ w.heap.size ≤ b ∧ Below w.heap.size w wx
theorem got_after {w w1 w2 : World} {F : List (List Int)} {O : Option Addr} {on oc : Nat} (b1 : Below w.heap.size w w1) (ho : Owns w2 w1.heap.size w2.heap.size O on oc F) (b2 : Below w1.heap.size w1 w2) : Got w F (.pointer (some ⟨w2.heap.size, 0, none⟩)) (w2.alloc (.cells #[.slice O on oc] 31)) :=
  have B : Below w2.heap.size w2 (w2.alloc (.cells #[.slice O on oc] 31)) := (Below.refl _ _).alloc (Nat.le_refl _) _
  ⟨_, O, on, oc, rfl, Row.new _ _ _, (ho.next B).wider b1.size (by simp), Nat.le_trans b1.size b2.size, next_trans b1 (next_trans b2 B)⟩
theorem got_ahead {w w1 w2 : World} {F : List (List Int)} {O : Option Addr} {on oc b : Nat} (b1 : Below w.heap.size w w1) (hb : w.heap.size ≤ b) (r2 : Row w2 b 31 #[.slice none 0 0]) (hlt : b < w1.heap.size) (ho : Owns w2 w1.heap.size w2.heap.size O on oc F) (b2 : Below w1.heap.size w1 w2) : Got w F (.pointer (some ⟨b, 0, none⟩)) (w2.setCell ⟨b, 0, none⟩ (.slice O on oc)) :=
  ⟨b, O, on, oc, rfl, by have := r2.put 0 (.slice O on oc); simpa using this, (owns_put ho r2 hlt 0 _).wider b1.size (by simp), hb, (next_trans b1 b2).setCell hb _⟩
theorem sz_alloc (w : World) (o : Obj) : (w.alloc o).heap.size = w.heap.size + 1 := by simp
theorem sz_drew (w : World) : w.drew.heap.size = w.heap.size := rfl
theorem row_top {w : World} {t : TypeId} {cs : Array Value} {n : Nat} (hn : n = w.heap.size) : Row (w.alloc (.cells cs t)) n t cs := by subst hn; exact Row.new _ _ _
theorem row_alloc {w : World} {o : Obj} {t : TypeId} {cs : Array Value} {n : Nat} (h : Row w n t cs) : Row (w.alloc o) n t cs := h.alloc o
theorem row_drew {w : World} {t : TypeId} {cs : Array Value} {n : Nat} (h : Row w n t cs) : Row w.drew n t cs := h.drew
theorem keep_alloc {w : World} {a : Addr} {v : Value} {o : Obj} (h : w.cell? a = some v) : (w.alloc o).cell? a = some v := (World.cell?_alloc_some w a o (by rw [h]; rfl)).trans h
theorem cell_top {w : World} {v : Value} {t : TypeId} {n : Nat} (hn : n = w.heap.size) : (w.alloc (.cells #[v] t)).cell? ⟨n, 0, none⟩ = some v := by subst hn; simp
theorem keep_set {w : World} {p a : Addr} {u v : Value} (hne : p.block ≠ a.block) (h : w.cell? a = some v) : (w.setCell p u).cell? a = some v := (World.cell?_setCell_far w p a u hne).trans h

set_option maxHeartbeats 8000000 in
theorem implComposed (A S T : Option Addr) (n c m c' q cq : Nat) (sg : List Int) (ss us : List (List Int)) (w : World) (h : Seg w w.heap.size A n sg) (h' : Segs w w.heap.size S m ss) (h2 : Segs w w.heap.size T q us) (hn : n ≤ 1048576) (ht : tot ss ≤ 1048576) (ht2 : tot us ≤ 1048576) :
    Calls Try.prog 22 #[.agg #[.slice A n c], .agg #[.slice S m c'], .agg #[.slice T q cq]] w (AnsSubB w (composedI sg ss us) (composedB sg ss us)) := by
  obtain ⟨W, hW, rA, r1, r2, r3, bel⟩ := boxes4 w A n c S m c' T q cq
  have HW := Lib.hid hW
  have HT2 := Lib.hid ht2
  have s := h.next bel
  have s1 := h'.next bel
  have s2 := h2.next bel
  have L := Lib.hid (implSubstOk A S n c m c' sg ss W s s1 hn ht)
  clear hW ht ht2 h h' h2
  cases hok : substOkB sg ss with
  | false =>
    have HS := Lib.hid hok
    clear hok s s1 s2
    go_enter Try.func22, Try.ntmps22
    go_wp2_with fail
    rw [← HW.out]
    refine L.out.mono ?_
    rintro e w1 ⟨he, bb⟩
    rw [HS.out] at he
    subst he
    replace r3 := r3.next bb
    replace bel := next_trans bel bb
    have cR : w1.cell? ⟨w.heap.size + 3, 0, none⟩ = some (.slice none 0 0) := r3.cell 0
    have fR : w1.frozen? ⟨w.heap.size + 3, 0, none⟩ = false := r3.free 0
    have F1 := Lib.hid (subB_no (sg := sg) (ss := ss) (us := us) (composed_s HS.out) bel)
    have F2 := Lib.hid (subB_no (sg := sg) (ss := ss) (us := us) (composed_s HS.out) ((bel).setCell (p := ⟨w.heap.size + 3, 0, none⟩) (by simp) (.slice none 0 0)))
    clear bb bel rA r1 r2 r3
    go_wp2
    first
      | exact bodyPost_ret (v := .tuple #[.agg #[.slice none 0 0], .bool false]) (by simp [results, Try.results22, go_sem, cR]) rfl F1.out
      | exact bodyPost_ret (v := .tuple #[.agg #[.slice none 0 0], .bool false]) (by simp [results, Try.results22, go_sem, cR]) rfl F2.out
  | true =>
    have HS := Lib.hid hok
    clear hok
    have hmf : ∀ (fn : Fn) (first cap : Array Value) (w : World), (Instr.makeFunc fn first cap).run Try.prog w = .ok (.func fn first cap) w := fun _ _ _ _ => rfl
    go_enter Try.func22, Try.ntmps22
    go_wp2_with fail
    rw [← HW.out]
    refine L.out.mono ?_
    rintro e w1 ⟨he, bb⟩
    rw [HS.out] at he
    subst he
    replace s := s.next bb
    replace s1 := s1.next bb
    replace s2 := s2.next bb
    replace rA := rA.next bb
    replace r1 := r1.next bb
    replace r2 := r2.next bb
    replace r3 := r3.next bb
    replace bel := next_trans bel bb
    have cA : w1.cell? ⟨w.heap.size, 0, none⟩ = some (.slice A n c) := rA.cell 0
    have cT : w1.cell? ⟨w.heap.size + 2, 0, none⟩ = some (.slice T q cq) := r2.cell 0
    have L2 := Lib.hid (implSubstOk A T n c q cq sg us w1 s s2 hn HT2.out)
    clear bb L rA
    cases hok2 : substOkB sg us with
    | false =>
      have HS2 := Lib.hid hok2
      clear hok2 s s1 s2
      go_wp2_with fail
      refine L2.out.mono ?_
      rintro e w2 ⟨he, bb⟩
      rw [HS2.out] at he
      subst he
      replace r3 := r3.next bb
      replace bel := next_trans bel bb
      have cR : w2.cell? ⟨w.heap.size + 3, 0, none⟩ = some (.slice none 0 0) := r3.cell 0
      have fR : w2.frozen? ⟨w.heap.size + 3, 0, none⟩ = false := r3.free 0
      have F1 := Lib.hid (subB_no (sg := sg) (ss := ss) (us := us) (composed_u HS2.out) bel)
      have F2 := Lib.hid (subB_no (sg := sg) (ss := ss) (us := us) (composed_u HS2.out) ((bel).setCell (p := ⟨w.heap.size + 3, 0, none⟩) (by simp) (.slice none 0 0)))
      clear bb bel r1 r2 r3 cA cT L2 hmf
      go_wp2
      first
        | exact bodyPost_ret (v := .tuple #[.agg #[.slice none 0 0], .bool false]) (by simp [results, Try.results22, go_sem, cR]) rfl F1.out
        | exact bodyPost_ret (v := .tuple #[.agg #[.slice none 0 0], .bool false]) (by simp [results, Try.results22, go_sem, cR]) rfl F2.out
    | true =>
      have HS2 := Lib.hid hok2
      clear hok2
      go_wp2_with fail
      refine L2.out.mono ?_
      rintro e w2 ⟨he, bb⟩
      rw [HS2.out] at he
      subst he
      replace s1 := s1.next bb
      replace s2 := s2.next bb
      replace r1 := r1.next bb
      replace r2 := r2.next bb
      replace r3 := r3.next bb
      replace bel := next_trans bel bb
      clear bb L2 cA cT s
      have cS : w2.cell? ⟨w.heap.size + 1, 0, none⟩ = some (.slice S m c') := r1.cell 0
      have cT : w2.cell? ⟨w.heap.size + 2, 0, none⟩ = some (.slice T q cq) := r2.cell 0
      have z1 := r1.lt
      have z2 := r2.lt
      clear r1 r2
      go_wp2_with fail
      have LKB := Lib.hid (fun (wx : World) (b1 b2 l1 l2 : Nat) (hb : Below w2.heap.size w2 wx) => lookBoth b1 b2 l1 l2 S m c' T q cq sg ss us w2 wx HS.out HS2.out hb s1 s2)
      go_cut [8] (fun p8 wx => Got w2 (plainL (compL us ss) 24) p8 wx)
      case first =>
        clear bel r3 s1 s2
        go_region_held3 (fun w' => w'.cell? ⟨w.heap.size + 1, 0, none⟩ = some (.slice S m c') ∧ w'.cell? ⟨w.heap.size + 2, 0, none⟩ = some (.slice T q cq))
          (((try simp only [World.cell?_drew]); (refine ⟨?_, ?_⟩ <;> (repeat (first | assumption | (with_reducible apply keep_alloc) | (refine keep_set (by first | (simp only [sz_alloc, sz_drew]; omega) | (simp; done) | (simp; omega)) ?_))))))
          (first
            | (go_at_call 72; refine (lookupIn _ _ _ _).mono ?_; rintro e w3 ⟨rfl, rfl⟩)
            | (go_at_call 75; refine (thenC _ _ _ _ _).mono ?_; rintro e w3 ⟨rfl, rfl⟩)
            | (go_at_call 61; refine (LKB.out _ _ _ ?_ ?_ ?_ ?_ ?_ ?_ ?_).mono ?_; rotate_left 3; (focus (simp only [World.cell?_drew]; (repeat (first | ((with_reducible refine cell_top ?_); (simp only [sz_alloc, sz_drew]; done)) | (with_reducible refine keep_alloc ?_))))); (focus (simp only [World.cell?_drew]; (repeat (first | ((with_reducible refine cell_top ?_); (simp only [sz_alloc, sz_drew]; done)) | (with_reducible refine keep_alloc ?_))))); (focus (simp only [World.cell?_drew]; (repeat (first | ((with_reducible refine cell_top ?_); (simp only [sz_alloc, sz_drew]; done)) | (with_reducible refine keep_alloc ?_))))); (focus (simp only [World.cell?_drew]; (repeat (first | ((with_reducible refine cell_top ?_); (simp only [sz_alloc, sz_drew]; done)) | (with_reducible refine keep_alloc ?_))))); rotate_right 1; (focus (repeat (first | (with_reducible exact Below.refl _ _) | (with_reducible refine Below.drew ?_) | (with_reducible refine Below.alloc ?_ (by first | omega | (simp only [sz_alloc, sz_drew]; omega)) _)))); rintro e w4 ⟨O, on, oc, rfl, ho, b4, hbx⟩; have y1 : w4.cell? ⟨w.heap.size + 1, 0, none⟩ = some (.slice S m c') := (b4.cell (p := ⟨w.heap.size + 1, 0, none⟩) (by first | omega | (simp only [sz_alloc, sz_drew]; omega))).trans (by simp only [World.cell?_drew]; repeat (first | exact cS | (with_reducible apply keep_alloc))); have y2 : w4.cell? ⟨w.heap.size + 2, 0, none⟩ = some (.slice T q cq) := (b4.cell (p := ⟨w.heap.size + 2, 0, none⟩) (by first | omega | (simp only [sz_alloc, sz_drew]; omega))).trans (by simp only [World.cell?_drew]; repeat (first | exact cT | (with_reducible apply keep_alloc))); (try (obtain ⟨q4, -⟩ : Row w4 (w2.heap.size) 31 #[.slice none 0 0] ∧ True; (focus ((refine ⟨Go.Proofs.Ytkmhnkljigncmaa.base.Row.next ?_ b4, trivial⟩); (repeat (first | ((with_reducible refine row_top ?_); (simp only [sz_alloc, sz_drew]; done)) | (with_reducible refine row_drew ?_) | (with_reducible refine row_alloc ?_))); done)); have y3 : w4.cell? ⟨w2.heap.size, 0, none⟩ = some (.slice none 0 0) := q4.cell 0; have y4 : w4.frozen? ⟨w2.heap.size, 0, none⟩ = false := q4.free 0)); (try (obtain ⟨q4, -⟩ : Row w4 (w2.heap.size + 1) 31 #[.slice none 0 0] ∧ True; (focus ((refine ⟨Go.Proofs.Ytkmhnkljigncmaa.base.Row.next ?_ b4, trivial⟩); (repeat (first | ((with_reducible refine row_top ?_); (simp only [sz_alloc, sz_drew]; done)) | (with_reducible refine row_drew ?_) | (with_reducible refine row_alloc ?_))); done)); have y3 : w4.cell? ⟨w2.heap.size + 1, 0, none⟩ = some (.slice none 0 0) := q4.cell 0; have y4 : w4.frozen? ⟨w2.heap.size + 1, 0, none⟩ = false := q4.free 0)); (try (obtain ⟨q4, -⟩ : Row w4 (w2.heap.size + 1 + 1) 31 #[.slice none 0 0] ∧ True; (focus ((refine ⟨Go.Proofs.Ytkmhnkljigncmaa.base.Row.next ?_ b4, trivial⟩); (repeat (first | ((with_reducible refine row_top ?_); (simp only [sz_alloc, sz_drew]; done)) | (with_reducible refine row_drew ?_) | (with_reducible refine row_alloc ?_))); done)); have y3 : w4.cell? ⟨w2.heap.size + 1 + 1, 0, none⟩ = some (.slice none 0 0) := q4.cell 0; have y4 : w4.frozen? ⟨w2.heap.size + 1 + 1, 0, none⟩ = false := q4.free 0)); (try (obtain ⟨q4, -⟩ : Row w4 (w2.heap.size + 1 + 1 + 1 + 1) 31 #[.slice none 0 0] ∧ True; (focus ((refine ⟨Go.Proofs.Ytkmhnkljigncmaa.base.Row.next ?_ b4, trivial⟩); (repeat (first | ((with_reducible refine row_top ?_); (simp only [sz_alloc, sz_drew]; done)) | (with_reducible refine row_drew ?_) | (with_reducible refine row_alloc ?_))); done)); have y3 : w4.cell? ⟨w2.heap.size + 1 + 1 + 1 + 1, 0, none⟩ = some (.slice none 0 0) := q4.cell 0; have y4 : w4.frozen? ⟨w2.heap.size + 1 + 1 + 1 + 1, 0, none⟩ = false := q4.free 0)); all_goals skip))
        all_goals
          go_wp2_with fail
          go_meet
          first
            | exact got_after hbx ho b4
            | exact got_ahead hbx (by omega) q4 (by simp only [sz_alloc, sz_drew]; omega) ho b4
      case rest =>
        rename World => wc
        obtain ⟨b, O, on, oc, rfl, rb, ho, hwb, b4⟩ := hcut
        have HE := Lib.hid (plain_each (L := compL us ss) (m := 24) (comp_len HS.out HS2.out))
        have HLN := Lib.hid (plain_len (compL us ss) 24)
        have AL := Lib.hid (anyLong_comp us ss)
        have CB := Lib.hid (composed_b HS.out HS2.out)
        have r4 := r3.next b4
        have hlt3 := r3.lt
        have bel5 := next_trans bel b4
        have hon : on ≤ 24 := by rw [← ho.len]; exact HLN.out
        have LC := Lib.hid (containsLong O on oc (plainL (compL us ss) 24) wc ho.segs (by omega) (fun j => Nat.le_trans (HE.out j) (by omega)))
        have cR : wc.cell? ⟨w.heap.size + 3, 0, none⟩ = some (.slice none 0 0) := r4.cell 0
        have fR : wc.frozen? ⟨w.heap.size + 3, 0, none⟩ = false := r4.free 0
        have cO : wc.cell? ⟨b, 0, none⟩ = some (.slice O on oc) := rb.cell 0
        have F1 := Lib.hid (fun hno : composedB sg ss us = false => subB_no hno bel5)
        have F2 := Lib.hid (fun hno : composedB sg ss us = false => subB_no hno (bel5.setCell (p := ⟨w.heap.size + 3, 0, none⟩) (by simp) (.slice none 0 0)))
        have F3 : Hid (composedB sg ss us = true → AnsSubB w (composedI sg ss us) (composedB sg ss us) (.returned (.tuple #[.agg #[.slice O on oc], .bool true])) (wc.setCell ⟨w.heap.size + 3, 0, none⟩ (.slice O on oc))) :=
          Lib.hid fun hyes => ⟨O, on, oc, by rw [hyes], by rw [composed_yes hyes]; have hwc := bel.size; exact (owns_put ho r4 hlt3 0 _).wider hwc (by simp), bel5.setCell (by simp) _⟩
        clear r3 r4 ho b4 bel bel5 rb LKB
        go_wp2_with fail
        refine LC.out.mono ?_
        rintro e w6 ⟨rfl, rfl⟩
        rw [AL.out]
        cases hc : compOk us ss with
        | false =>
          have hno : composedB sg ss us = false := CB.out.trans hc
          have G1 := Lib.hid (F1.out hno)
          have G2 := Lib.hid (F2.out hno)
          clear hc hno F1 F2 F3 LC
          go_wp2
          first
            | exact bodyPost_ret (v := .tuple #[.agg #[.slice none 0 0], .bool false]) (by simp [results, Try.results22, go_sem, cR]) rfl G1.out
            | exact bodyPost_ret (v := .tuple #[.agg #[.slice none 0 0], .bool false]) (by simp [results, Try.results22, go_sem, cR]) rfl G2.out
        | true =>
          have G3 := Lib.hid (F3.out (CB.out.trans hc))
          clear hc F1 F2 F3 LC
          go_wp2
          exact bodyPost_ret (v := .tuple #[.agg #[.slice O on oc], .bool true]) (by simp [results, Try.results22, go_sem, cR]) rfl G3.out
end Go.Proofs.Ytkmhnkljigncmaa.compImpl
end

section
/-
  CONTRACT: append of one list to a slice of slices of the call's own, as one operation of a region that draws, with what the cells hold afterwards. By an AI agent.
-/
namespace Go.Proofs.Ytkmhnkljigncmaa.appStep
open Go.RowKit Go.Proofs.Ytkmhnkljigncmaa.base Go.Proofs.Ytkmhnkljigncmaa.ints Go.Proofs.Ytkmhnkljigncmaa.cursor Go.Proofs.Ytkmhnkljigncmaa.same Go.Proofs.Ytkmhnkljigncmaa.marks Go.Proofs.Ytkmhnkljigncmaa.app Go.Proofs.Ytkmhnkljigncmaa.appAt Go.Proofs.Ytkmhnkljigncmaa.sym Go.Proofs.Ytkmhnkljigncmaa.sub Go.Proofs.Ytkmhnkljigncmaa.segs Go.Proofs.Ytkmhnkljigncmaa.segsHelp Go.Proofs.Ytkmhnkljigncmaa.kinds Go.Proofs.Ytkmhnkljigncmaa.look Go.Proofs.Ytkmhnkljigncmaa.plain Go.Proofs.Ytkmhnkljigncmaa.appZ
set_option maxRecDepth 100000

set_option maxHeartbeats 1000000 in
theorem stepS1Z {w : World} {ops : Array Oper} {o : Oper} {a : Act} {K : Act → World → Prop} {Q : Exit → Act → World → Prop} {E : Prop} (hgd : o.guard = none) (s x : Operand)
    (ho : o.op = .call { callee := .builtin .append, args := #[s, x], argTypes := #[29, 29] })
    (lo mid : Nat) (A : Option Addr) (n c : Nat) (xss : List (List Int)) (hs : a.eval s = .slice A n c) (hown : Owns w lo mid A n c xss)
    (g c2 : Nat) (v : Value) (ys : List Int) (hx : a.eval x = .slice (some ⟨g, 0, none⟩) 1 c2) (hy : w.cell? ⟨g, 0, none⟩ = some v) (hv : Inn w mid w.heap.size v ys) (hn : n ≤ 1048576) (hlo : lo ≤ mid) (hmid : mid ≤ w.heap.size) (H : Nat) (hH : w.heap.size = H)
    (h : ∀ g' c' w', Owns w' lo w'.heap.size (some ⟨g', 0, none⟩) (n + 1) c' (xss ++ [ys]) → w.grownBy w' (blk A) → (blk A = some g' ∨ g' = H) → Below lo w w' → (∀ j u, j < n + 1 → w'.cell? ⟨g', j, none⟩ = some u → (∃ b, j < n ∧ A = some ⟨b, 0, none⟩ ∧ w.cell? ⟨b, j, none⟩ = some u) ∨ (j = n ∧ u = v)) → K (a.put o.dst (.slice (some ⟨g', 0, none⟩) (n + 1) c')) w') :
    if Region.wanted o (yielded ops a.tmps) = true then Oper.wp Try.prog o a w K Q else E := by
  obtain ⟨i0, hi, hz0, hz1, hz2⟩ := info_parts info_list
  obtain ⟨hlen, ⟨vs, hr, hin, hap⟩, htop⟩ := hown
  have hvl : vs.length = n := by have := hr.1; omega
  have hvc : v.oneCell' = true := by obtain ⟨A1, c1, rfl, _⟩ := hv; rfl
  refine step_append_lies w hgd s x 29 ho lo 24 i0 (.slice none 0 0) 1 24 Try.underlying29 hi hz0 hz1 hz2 rfl (by decide) (.slice A n c) n vs hs hr
    ⟨g, 0, none⟩ 1 c2 [v] hx rfl (fun j u hj => ?_) (fun u hu => ?_) (by omega) (by unfold maxLen; omega) (by omega) (by omega) H hH ?_
  · match j, hj with
    | 0, hj => simp at hj; subst hj; simpa [Addr.add] using hy
  · simp at hu; subst hu; exact hvc
  · intro g' c' w' hown' hg hat hlt
    rw [blk_own] at hg hat
    have hsz := hg.size
    have hne : ∀ {u : Value} {zs : List Int} {l2 h2 : Nat}, Inn w l2 h2 u zs → u.ownBlock = none ∨ u.ownBlock ≠ blk A := fun {u zs l2 h2} hu => by
      rcases own_form hr with ⟨rfl, _⟩ | ⟨g', cur, rfl, _, hrow, _⟩
      · cases e : u.ownBlock with
        | none => exact .inl rfl
        | some z => exact .inr (fun e2 => by cases e2)
      · exact .inr (hu.ne hrow)
    have hget : ∀ j, j < n → (vs ++ [v]).getD j undef = vs.getD j undef := fun j hj => by simp [List.getD, List.getElem?_append_left (show j < vs.length by omega)]
    have hget2 : ∀ j, j < n → (xss ++ [ys]).getD j [] = xss.getD j [] := fun j hj => by simp [List.getD, List.getElem?_append_left (show j < xss.length by omega)]
    have hnew : (vs ++ [v]).getD n undef = v := by simp [List.getD, ← hvl]
    have hnew2 : (xss ++ [ys]).getD n [] = ys := by simp [List.getD, ← hlen]
    refine h g' c' w' ⟨by simp [hlen], ⟨vs ++ [v], hown', fun j hj => ?_, fun i j k hij hj e1 e2 => ?_⟩, fun k hk => (World.ownsRow.lt hown' k (by rw [blk_own]; exact hk)).2⟩ hg hat ?_ ?_
    · by_cases e : j = n
      · subst e
        rw [hnew, hnew2]
        exact (hv.kept hg (hne hv)).wider (by omega) (by omega)
      · rw [hget j (by omega), hget2 j (by omega)]
        exact ((hin j (by omega)).kept hg (hne (hin j (by omega)))).wider (Nat.le_refl _) (by omega)
    · by_cases e : j = n
      · subst e
        rw [hget i hij] at e1
        rw [hnew] at e2
        have h1 := ((hin i hij).blk k e1).2.1
        have h2 := (hv.blk k e2).1
        omega
      · rw [hget i (by omega)] at e1
        rw [hget j (by omega)] at e2
        exact hap i j k hij (by omega) e1 e2
    · refine (Below.refl lo w).grown hg (by omega) (fun k hk => ?_)
      exact (World.ownsRow.lt hr k (by rw [blk_own]; exact hk)).1
    · intro j u hj hc
      rcases own_form (n := n + 1) hown' with ⟨e, _⟩ | ⟨g2, cur, e, _, hrow, _, _, _, _, hcell⟩
      · cases e
      · injection e with e
        injection e with e1
        subst e1
        rw [hrow.cell j, hcell j hj] at hc
        injection hc with hc
        by_cases e : j = n
        · subst e
          rw [hnew] at hc
          exact .inr ⟨rfl, hc.symm⟩
        · refine .inl ?_
          rw [hget j (by omega)] at hc
          rcases own_form (n := n) hr with ⟨_, hz, _⟩ | ⟨g3, cur3, e3, _, hrow3, _, _, _, _, hcell3⟩
          · omega
          · exact ⟨g3, by omega, e3, by rw [hrow3.cell j, hcell3 j (by omega), hc]⟩
end Go.Proofs.Ytkmhnkljigncmaa.appStep
end

section
/-
  CONTRACT: impl.generalisation.next: a symbol of both terms, or the variable of the pair of subterms. Conditions: both cursors stand where terms begin. (By wip/tools/mknext.py.) By an AI agent.
-/
namespace Go.Proofs.Ytkmhnkljigncmaa.genNext
open Go.RowKit Go.Proofs.Ytkmhnkljigncmaa.base Go.Proofs.Ytkmhnkljigncmaa.ints Go.Proofs.Ytkmhnkljigncmaa.same Go.Proofs.Ytkmhnkljigncmaa.sig Go.Proofs.Ytkmhnkljigncmaa.cursor Go.Proofs.Ytkmhnkljigncmaa.marks Go.Proofs.Ytkmhnkljigncmaa.app Go.Proofs.Ytkmhnkljigncmaa.appAt Go.Proofs.Ytkmhnkljigncmaa.sym Go.Proofs.Ytkmhnkljigncmaa.segs Go.Proofs.Ytkmhnkljigncmaa.segsHelp Go.Proofs.Ytkmhnkljigncmaa.kinds Go.Proofs.Ytkmhnkljigncmaa.term Go.Proofs.Ytkmhnkljigncmaa.sub Go.Proofs.Ytkmhnkljigncmaa.look Go.Proofs.Ytkmhnkljigncmaa.plain Go.Proofs.Ytkmhnkljigncmaa.curO Go.Proofs.Ytkmhnkljigncmaa.anyOf Go.Proofs.Ytkmhnkljigncmaa.inside Go.Proofs.Ytkmhnkljigncmaa.unifMath Go.Proofs.Ytkmhnkljigncmaa.genMath Go.Proofs.Ytkmhnkljigncmaa.genPos Go.Proofs.Ytkmhnkljigncmaa.genTab Go.Proofs.Ytkmhnkljigncmaa.genRec Go.Proofs.Ytkmhnkljigncmaa.appZ Go.Proofs.Ytkmhnkljigncmaa.thn Go.Proofs.Ytkmhnkljigncmaa.unifRep Go.Proofs.Ytkmhnkljigncmaa.heldT Go.Proofs.Ytkmhnkljigncmaa.genSt Go.Proofs.Ytkmhnkljigncmaa.appStep
set_option maxRecDepth 100000

theorem drew_below (w : World) (d : Nat) : Below w.heap.size w (w.drewN d) := ⟨rfl, rfl, rfl, Nat.le_refl _, fun _ _ => rfl⟩
/-- the test: the same numbers as the pair -/
theorem testPair (bp : Nat) (O : Option Addr) (on oc : Nat) (pr : List Int) (w : World) (hr : Row w bp 24 #[.slice O on oc]) (hs : Seg w w.heap.size O on pr) (hn : on ≤ 1048576) :
    Tests 117 #[.pointer (some ⟨bp, 0, none⟩)] w (fun ys => decide (ys = pr)) := by
  intro W D dn dc ys hb hy hdn _
  have cp : W.cell? ⟨bp, 0, none⟩ = some (.slice O on oc) := (hr.next hb).cell 0
  have LS := Lib.hid (implSame D O dn on dc oc ys pr W hy (hs.next hb) hdn hn)
  show Calls Try.prog 117 #[.slice D dn dc, .pointer (some ⟨bp, 0, none⟩)] W _
  clear hs hr hb hy
  go_enter Try.func117, Try.ntmps117
  go_wp2_with fail
  refine LS.out.mono ?_
  rintro e w' ⟨rfl, d, rfl⟩
  go_wp2
  go_ret
  exact ⟨rfl, genNext.drew_below W d⟩

/-- behind the pair's making -/
def PB (w : World) (g hi : Nat) (A : Option Addr) (n c : Nat) (sg : List Int) (P : Option Addr) (m mc : Nat) (a : List Int) (i : Nat) (Q : Option Addr) (k kc : Nat) (b : List Int) (j : Nat) (D : Option Addr) (dn dc : Nat) (xss : List (List Int)) (pr : List Int) (p4 : Value) (wx : World) : Prop :=
  ∃ (bp : Nat) (O : Option Addr) (on oc : Nat), p4 = .pointer (some ⟨bp, 0, none⟩) ∧ Row wx bp 24 #[.slice O on oc] ∧ Own wx w.heap.size (.slice O on oc) pr ∧ Gn wx g hi A n c sg P m mc a i Q k kc b j D dn dc xss ∧ w.heap.size ≤ bp ∧ w.grownBy wx (some g)
section
variable {w w4 w5 : World} {g hi : Nat} {A : Option Addr} {n c : Nat} {sg : List Int} {P : Option Addr} {m mc : Nat} {a : List Int} {i : Nat} {Q : Option Addr} {k kc : Nat} {b : List Int} {j : Nat} {D : Option Addr} {dn dc : Nat} {xss : List (List Int)} {pr : List Int} {O : Option Addr} {on oc : Nat}
theorem pb_after (ho : Own w5 w4.heap.size (.slice O on oc) pr) (hs : w.heap.size ≤ w4.heap.size) (hG : Gn w5 g hi A n c sg P m mc a i Q k kc b j D dn dc xss) (hg : w.grownBy w5 (some g)) :
    PB w g hi A n c sg P m mc a i Q k kc b j D dn dc xss pr (.pointer (some ⟨w5.heap.size, 0, none⟩)) (w5.alloc (.cells #[.slice O on oc] 24)) :=
  have B : Below w5.heap.size w5 (w5.alloc (.cells #[.slice O on oc] 24)) := (Below.refl _ _).alloc (Nat.le_refl _) _
  ⟨_, O, on, oc, rfl, Row.new _ _ _, Own.lower (Own.next ho B) hs, hG.next B, hg.size, grown_trans hg (grown_below B _)⟩
theorem own_put {w : World} {base bp : Nat} {O : Option Addr} {on oc : Nat} {pr : List Int} (ho : Own w base (.slice O on oc) pr) {cs : Array Value} (hr : Row w bp 24 cs) (u : Value) : Own (w.setCell ⟨bp, 0, none⟩ u) base (.slice O on oc) pr :=
  own_away (r0 := 0) ho (r := some bp) (grown_put (World.grownBy.refl _ _) _ _) (fun z hz e => by
    injection hz with hz
    subst hz
    obtain ⟨⟨cs2, h2⟩, _⟩ := ownRow ho _ e
    exact Row.ne_ h2 hr (by decide) rfl) rfl
theorem pb_ahead {bp : Nat} (q : Row w5 bp 24 #[.slice none 0 0]) (hb : w.heap.size ≤ bp) (hlt : bp < w4.heap.size) (hgb : g < bp) (hhi : hi ≤ bp) (ho : Own w5 w4.heap.size (.slice O on oc) pr) (hs : w.heap.size ≤ w4.heap.size) (hG : Gn w5 g hi A n c sg P m mc a i Q k kc b j D dn dc xss) (hg : w.grownBy w5 (some g)) :
    PB w g hi A n c sg P m mc a i Q k kc b j D dn dc xss pr (.pointer (some ⟨bp, 0, none⟩)) (w5.setCell ⟨bp, 0, none⟩ (.slice O on oc)) := by
  have g1 : w5.grownBy (w5.setCell ⟨bp, 0, none⟩ (.slice O on oc)) (some bp) := grown_put (World.grownBy.refl _ _) _ _
  have B : Below bp w5 (w5.setCell ⟨bp, 0, none⟩ (.slice O on oc)) := (Below.refl bp w5).setCell (p := ⟨bp, 0, none⟩) (Nat.le_refl _) _
  refine ⟨bp, O, on, oc, rfl, by have := q.put 0 (.slice O on oc); simpa using this, Own.lower (own_put ho q _) hs, ?_, hb, ?_⟩
  · have hp := hG.row
    exact ⟨Row.away hp g1 (fun e => by injection e; omega), hG.s.below (B.mono (by omega)), hG.pa.below (B.mono (by omega)), hG.qb.below (B.mono (by omega)), hG.o.btw (Btw.of_grown (lo := bp) (hi := bp + 1) g1 (fun z e => by injection e; omega)) (by left; exact hhi), by have := hG.le; have := g1.size; omega, hG.li, hG.lj, hG.hn, hG.hm, hG.hk, hG.ars⟩
  · exact ⟨g1.os.trans hg.os, g1.tape.trans hg.tape, g1.output.trans hg.output, Nat.le_trans hg.size g1.size, fun z hz hn => (g1.block z (Nat.lt_of_lt_of_le hz hg.size) (fun e => by injection e; omega)).trans (hg.block z hz hn)⟩
end

/-- the pair is the one at its index -/
theorem nx_old {sg u v : List Int} {T : Tb} {z : Nat} (hz : z < T.length) (hf : Fine2 sg T) (hu : Trm sg u) (e : (T.map cat).getD z [] = u ++ v) : T[z]? = some (u, v) := by
  obtain ⟨x, h1, h2⟩ := cat_get hz
  have hx : x ∈ T := List.mem_of_getElem? h1
  obtain ⟨e1, e2⟩ := cat_inj (hf x hx).1 hu (h2.symm.trans e)
  rw [h1]
  congr 1
  exact Prod.ext e1 e2
theorem nx_new {u v : List Int} {T : Tb} (h : ∀ j, j < T.length → decide ((T.map cat).getD j [] = u ++ v) = false) : (u, v) ∉ T := fun hm => by
  obtain ⟨j, hj, e⟩ := List.getElem_of_mem hm
  have := of_decide_eq_false (h j hj)
  exact this (by simp [List.getD, hj, e, cat])
theorem grown_two {w w' : World} {g : Nat} {D : Option Addr} (h : w.grownBy w' (some g)) : Two w w' (some ⟨g, 0, none⟩) D := Two.left h
theorem avoid_grown {w w' : World} {g hi : Nat} {D : Option Addr} {dn dc : Nat} {xss : List (List Int)} {Z : Nat → Prop} (ho : Owns w (g + 1) hi D dn dc xss) (hg : w.grownBy w' (some g)) (h : Avoid Z w D dn) : Avoid Z w' D dn :=
  h.keep fun b j e => by
    obtain ⟨⟨cs, hr⟩, h2, h3⟩ := topRow ho b (by rw [e]; rfl)
    exact World.cell?_of_block (hg.block b h3 (fun e => by injection e; omega))
/-- a new pair behind the others -/
theorem nx_push {w wa w8 : World} {g : Nat} {A : Option Addr} {n c : Nat} {sg : List Int} {P : Option Addr} {m mc : Nat} {a : List Int} {i : Nat} {Q : Option Addr} {k kc : Nat} {b : List Int} {j : Nat} {D : Option Addr} {dn dc : Nat} {T : Tb} {p q : Nat} {u v : List Int} {O : Option Addr} {on oc : Nat} {c' g' : Nat}
    (how : Owns w (g + 1) w.heap.size D dn dc (T.map cat)) (GA : Gn wa g w.heap.size A n c sg P m mc a (i + p) Q k kc b (j + q) D dn dc (T.map cat)) (hgA : w.grownBy wa (some g)) (hsa : w.heap.size ≤ wa.heap.size) (hf : Fine2 sg T) (hp : scan sg 1 (a.drop i) = some p) (hq : scan sg 1 (b.drop j) = some q) (hns : ¬ (0 ≤ a.getD i 0 ∧ a.getD i 0 = b.getD j 0)) (hnew : (subL sg a i, subL sg b j) ∉ T)
    (hu1 : subL sg a i = u) (hv1 : subL sg b j = v) (hu2 : (subL sg a i).length = p) (hv2 : (subL sg b j).length = q) (hdl : dn = T.length) (hip : i + p ≤ m) (hjq : j + q ≤ k) (hm : m ≤ 60) (hk : k ≤ 60) (hO : ∀ y, blk O = some y → w.heap.size ≤ y) (hDg : ∀ y, blk D = some y → g + 1 ≤ y ∧ y < w.heap.size)
    (ho8 : Owns w8 (g + 1) w8.heap.size (some ⟨g', 0, none⟩) (dn + 1) c' (T.map cat ++ [u ++ v])) (hg8 : wa.grownBy w8 (blk D)) (hat8 : blk D = some g' ∨ g' = wa.heap.size) (_ : Below (g + 1) wa w8)
    (hc8 : ∀ y z, y < dn + 1 → w8.cell? ⟨g', y, none⟩ = some z → (∃ b, y < dn ∧ D = some ⟨b, 0, none⟩ ∧ wa.cell? ⟨b, y, none⟩ = some z) ∨ (y = dn ∧ z = .slice O on oc)) :
    AnsNx w g A n c sg P m mc a i Q k kc b j D dn T (.returned (.int .i64 (-1 - (dn : Int)))) (w8.setCell ⟨g, 6, none⟩ (.slice (some ⟨g', 0, none⟩) (dn + 1) c')) := by
  have hgl := GA.lt
  have r8 : Row w8 g 85 (gcs A n c P m mc (i + p) Q k kc (j + q) D dn dc) := Row.away GA.row hg8 (fun e => by have := (hDg g e).1; omega)
  have g9 : w8.grownBy (w8.setCell ⟨g, 6, none⟩ (.slice (some ⟨g', 0, none⟩) (dn + 1) c')) (some g) := grown_put (World.grownBy.refl _ _) _ _
  have Bg : Below g wa w8 := (Below.refl g wa).grown hg8 (by omega) (fun y hy => by have := (hDg y hy).1; omega)
  have B9 : Below g w8 (w8.setCell ⟨g, 6, none⟩ (.slice (some ⟨g', 0, none⟩) (dn + 1) c')) := (Below.refl g w8).setCell (p := ⟨g, 6, none⟩) (Nat.le_refl _) _
  have hmap : T.map cat ++ [u ++ v] = (T ++ [(subL sg a i, subL sg b j)]).map cat := by simp [cat, hu1, hv1]
  have row9 : Row (w8.setCell ⟨g, 6, none⟩ (.slice (some ⟨g', 0, none⟩) (dn + 1) c')) g 85 (gcs A n c P m mc (i + p) Q k kc (j + q) (some ⟨g', 0, none⟩) (dn + 1) c') := by
    have r := r8.put 6 (.slice (some ⟨g', 0, none⟩) (dn + 1) c')
    simpa [gcs] using r
  have o9 := owns_put ho8 r8 (show g < g + 1 by omega) 6 (.slice (some ⟨g', 0, none⟩) (dn + 1) c')
  rw [hmap] at o9
  have tw : Two w (w8.setCell ⟨g, 6, none⟩ (.slice (some ⟨g', 0, none⟩) (dn + 1) c')) (some ⟨g, 0, none⟩) D :=
    Two.trans (Two.trans (L := some ⟨g, 0, none⟩) (R := D) (Two.left hgA) (Two.right hg8) (fun _ h _ => h) (fun _ h _ => h)) (Two.left (L := some ⟨g, 0, none⟩) (R := D) g9) (fun _ h _ => h) (fun _ h _ => h)
  refine ⟨_, i + p, j + q, some ⟨g', 0, none⟩, dn + 1, c', T ++ [(subL sg a i, subL sg b j)], rfl, ⟨row9, (GA.s.below Bg).below B9, (GA.pa.below Bg).below B9, (GA.qb.below Bg).below B9, o9.wider (Nat.le_refl _) (by simp), Nat.le_refl _, GA.li, GA.lj, GA.hn, GA.hm, GA.hk, GA.ars⟩,
    hf.snoc (genPos.sub_trm hp) (genPos.sub_trm hq) (by omega) (by omega), tw, fun z hz hlt => ?_, fun Z hZ hA => ?_, .inr ⟨by rw [hu2], by rw [hv2], by rw [hdl]; exact gp_new hp hq hns hnew⟩⟩
  · injection hz with hz
    subst hz
    rcases hat8 with h | h
    · exact h
    · have hlt2 : g' < w.heap.size := hlt
      omega
  · have hA2 := avoid_grown how hgA hA
    intro y b' z hy e hc x hx e2
    injection e with e
    injection e with e
    subst e
    have hne : g ≠ g' := fun e => by
      have := (topRow ho8 g' rfl).2.1
      omega
    have hcw : w8.cell? ⟨g', y, none⟩ = some z := by rw [← World.cell?_setCell_far w8 ⟨g, 6, none⟩ ⟨g', y, none⟩ _ hne]; exact hc
    rcases hc8 y z hy hcw with ⟨b3, h1, h2, h3⟩ | ⟨_, rfl⟩
    · exact hA2 y b3 z h1 h2 h3 x hx e2
    · have h1 := hO x (by rw [← blk_own O on oc]; exact e2)
      have h2 := hZ x hx
      omega
/-- a step over a symbol of both -/
theorem nx_sym {w : World} {g : Nat} {A : Option Addr} {n c : Nat} {sg : List Int} {P : Option Addr} {m mc : Nat} {a : List Int} {i : Nat} {Q : Option Addr} {k kc : Nat} {b : List Int} {j : Nat} {D : Option Addr} {dn dc : Nat} {T : Tb} {x : Int} (h : Gn w g w.heap.size A n c sg P m mc a i Q k kc b j D dn dc (T.map cat)) (hf : Fine2 sg T) (hi : i < m) (hj : j < k) (hx0 : 0 ≤ x) (ex : a.getD i 0 = x) (ey : b.getD j 0 = x) (d : Nat) :
    AnsNx w g A n c sg P m mc a i Q k kc b j D dn T (.returned (.int .i64 x)) (((w.drewN d).setCell ⟨g, 2, none⟩ (.int .i64 ((i : Int) + 1))).setCell ⟨g, 5, none⟩ (.int .i64 ((j : Int) + 1))) := by
  have g0 : w.grownBy (((w.drewN d).setCell ⟨g, 2, none⟩ (.int .i64 ((i : Int) + 1))).setCell ⟨g, 5, none⟩ (.int .i64 ((j : Int) + 1))) (some g) := grown_put (grown_put (grown_drewN (World.grownBy.refl w (some g)) d) 2 _) 5 _
  have r := (((h.drewN d).row.put 2 (.int .i64 ((i : Int) + 1))).put 5 (.int .i64 ((j : Int) + 1)))
  have e1 : ((i + 1 : Nat) : Int) = (i : Int) + 1 := by simp
  have e2 : ((j + 1 : Nat) : Int) = (j : Int) + 1 := by simp
  have G := h.move (i' := i + 1) (j' := j + 1) g0 (by unfold gcs; rw [e1, e2]; simpa [gcs] using r) hi hj
  exact ⟨x, i + 1, j + 1, D, dn, dc, T, rfl, ⟨G.row, G.s, G.pa, G.qb, G.o.wider (Nat.le_refl _) g0.size, Nat.le_refl _, G.li, G.lj, G.hn, G.hm, G.hk, G.ars⟩, hf, Two.left g0, fun z hz _ => hz, fun Z _ hA => avoid_grown h.o g0 hA, .inl ⟨hx0, ex, ey, rfl, rfl, rfl⟩⟩

set_option maxHeartbeats 4000000 in
theorem next (g : Nat) (A : Option Addr) (n c : Nat) (sg : List Int) (P : Option Addr) (m mc : Nat) (a : List Int) (i : Nat) (Q : Option Addr) (k kc : Nat) (b : List Int) (j : Nat) (D : Option Addr) (dn dc : Nat) (T : Tb) (w : World) (h : Gn w g w.heap.size A n c sg P m mc a i Q k kc b j D dn dc (T.map cat)) (hf : Fine2 sg T) (hi : i < m) (hj : j < k) (p q : Nat) (hp : scan sg 1 (a.drop i) = some p) (hq : scan sg 1 (b.drop j) = some q) (hip : i + p ≤ m) (hjq : j + q ≤ k) (hp1 : 1 ≤ p) (hq1 : 1 ≤ q) (hm60 : m ≤ 60) (hk60 : k ≤ 60) (hmc : m ≤ mc) (hmc2 : mc ≤ 9223372036854775807) (hkc : k ≤ kc) (hkc2 : kc ≤ 9223372036854775807) (hdn : T.length ≤ 60) :
    Calls Try.prog 78 #[.pointer (some ⟨g, 0, none⟩)] w (AnsNx w g A n c sg P m mc a i Q k kc b j D dn T) := by
  obtain ⟨b1, o1, x, rfl, hb1, hx, ex⟩ := h.pa.spot hi
  obtain ⟨b2, o2, y, rfl, hb2, hy, ey⟩ := h.qb.spot hj
  have hgl := h.lt
  have c1 : w.cell? ⟨g, 1, none⟩ = some (.slice (some ⟨b1, o1, none⟩) m mc) := h.cell 1
  have c2 : w.cell? ⟨g, 2, none⟩ = some (.int .i64 (i : Int)) := h.cell 2
  have c4 : w.cell? ⟨g, 4, none⟩ = some (.slice (some ⟨b2, o2, none⟩) k kc) := h.cell 4
  have c5 : w.cell? ⟨g, 5, none⟩ = some (.int .i64 (j : Int)) := h.cell 5
  have f2 : w.frozen? ⟨g, 2, none⟩ = false := h.row.free 2
  have f5 : w.frozen? ⟨g, 5, none⟩ = false := h.row.free 5
  have i0 : (0 : Int) ≤ (i : Int) := by omega
  have i1 : (i : Int) < (m : Int) := by omega
  have j0 : (0 : Int) ≤ (j : Int) := by omega
  have j1 : (j : Int) < (k : Int) := by omega
  have EX := Lib.hid ex.out
  have EY := Lib.hid ey.out
  have HF := Lib.hid hf
  have HP := Lib.hid hp
  have HQ := Lib.hid hq
  have hmf : ∀ (fn : Fn) (first cap : Array Value) (w : World), (Instr.makeFunc fn first cap).run Try.prog w = .ok (.func fn first cap) w := fun _ _ _ _ => rfl
  clear ex ey hf hp hq
  by_cases hsym : 0 ≤ x ∧ x = y
  · obtain ⟨hx0, rfl⟩ := hsym
    have d0 : decide (0 ≤ x) = true := decide_eq_true hx0
    have HS := Lib.hid (fun d => nx_sym h HF.out hi hj hx0 EX.out EY.out d)
    clear h HF
    go_enter Try.func78, Try.ntmps78
    go_wp2
    go_quiet (fail)
    go_wp2_with fail
    go_quiet (fail)
    rw [World.drewN_drewN]
    have HS1 := HS.out
    clear HS
    go_wp2
    go_ret
    exact HS1 _
  · have HNS := Lib.hid (show ¬ (0 ≤ a.getD i 0 ∧ a.getD i 0 = b.getD j 0) by rw [EX.out, EY.out]; exact hsym)
    clear f2 f5
    by_cases hx0 : 0 ≤ x
    · have d0 : decide (0 ≤ x) = true := decide_eq_true hx0
      have d1 : (x == y) = false := by simp; exact fun e => hsym ⟨hx0, e⟩
      clear hsym
      go_enter Try.func78, Try.ntmps78
      go_wp2
      go_quiet (fail)
      go_wp2_with fail
      go_quiet (fail)
      rw [World.drewN_drewN]
      go_wp2_with fail
      have G1 := Lib.hid (fun d => h.drewN d)
      have BW := Lib.hid (fun d => genNext.drew_below w d)
      have HOW := Lib.hid h.o
      obtain ⟨w1, hw1, GW, BW1, hs1⟩ : ∃ w1, w1 = w.drewN (_) ∧ Gn w1 g w.heap.size A n c sg (some ⟨b1, o1, none⟩) m mc a i (some ⟨b2, o2, none⟩) k kc b j D dn dc (T.map cat) ∧ Below w.heap.size w w1 ∧ w1.heap.size = w.heap.size := ⟨_, rfl, G1.out _, BW.out _, rfl⟩
      rw [← hw1]
      clear hw1 G1 BW c1 c2 c4 c5 hx hy d0 h
      have hgl1 : g < w1.heap.size := by omega
      have hsz : w.heap.size ≤ w1.heap.size := by omega
      clear hs1
      have hu1 : subL sg a i = (a.drop i).take p := by unfold subL; rw [len1_eq HP.out]
      have hu2 : (subL sg a i).length = p := by rw [hu1, List.length_take, List.length_drop, GW.pa.1]; omega
      have hv1 : subL sg b j = (b.drop j).take q := by unfold subL; rw [len1_eq HQ.out]
      have hv2 : (subL sg b j).length = q := by rw [hv1, List.length_take, List.length_drop, GW.qb.1]; omega
      have cutA := Lib.hid (fun (w2 : World) (i2 : Nat) (G : Gn w2 g w.heap.size A n c sg (some ⟨b1, o1, none⟩) m mc a i2 (some ⟨b2, o2, none⟩) k kc b (j + q) D dn dc (T.map cat)) => (Seg.cut (a := i) (j := p) G.pa hip).more (Nat.le_of_lt G.lt))
      have cutB := Lib.hid (fun (w2 : World) (i2 : Nat) (G : Gn w2 g w.heap.size A n c sg (some ⟨b1, o1, none⟩) m mc a i2 (some ⟨b2, o2, none⟩) k kc b (j + q) D dn dc (T.map cat)) => (Seg.cut (a := j) (j := q) G.qb hjq).more (Nat.le_of_lt G.lt))
      obtain ⟨u, hu⟩ : ∃ u, (a.drop i).take p = u := ⟨_, rfl⟩
      obtain ⟨v, hv⟩ : ∃ v, (b.drop j).take q = v := ⟨_, rfl⟩
      rw [hu] at cutA hu1
      rw [hv] at cutB hv1
      have HU1 := Lib.hid hu1
      have HU2 := Lib.hid hu2
      have HV1 := Lib.hid hv1
      have HV2 := Lib.hid hv2
      have luv : (u ++ v).length = p + q := by rw [List.length_append, ← hu1, ← hv1, hu2, hv2]
      have LPA := Lib.hid (fun (w2 : World) (B : Below w1.heap.size w1 w2) => (partA (GW.next B) HP.out hip hp1 hmc hmc2).mono fun e w' (r : _ ∧ _ ∧ _) => (⟨r.1, r.2.1, r.2.2, grown_trans (grown_below B _) r.2.2⟩ : e = .returned (.slice (some ⟨b1, o1 + i, none⟩) p (mc - i)) ∧ Gn w' g w.heap.size A n c sg (some ⟨b1, o1, none⟩) m mc a (i + p) (some ⟨b2, o2, none⟩) k kc b j D dn dc (T.map cat) ∧ w2.grownBy w' (some g) ∧ w1.grownBy w' (some g)))
      have LPB := Lib.hid (fun (w2 : World) (G : Gn w2 g w.heap.size A n c sg (some ⟨b1, o1, none⟩) m mc a (i + p) (some ⟨b2, o2, none⟩) k kc b j D dn dc (T.map cat)) (B : w1.grownBy w2 (some g)) => (partB G HQ.out hjq hq1 hkc hkc2).mono fun e w' (r : _ ∧ _ ∧ _) => (⟨r.1, r.2.1, r.2.2, grown_trans B r.2.2⟩ : e = .returned (.slice (some ⟨b2, o2 + j, none⟩) q (kc - j)) ∧ Gn w' g w.heap.size A n c sg (some ⟨b1, o1, none⟩) m mc a (i + p) (some ⟨b2, o2, none⟩) k kc b (j + q) D dn dc (T.map cat) ∧ w2.grownBy w' (some g) ∧ w1.grownBy w' (some g)))
      have kA : Cap (some ⟨b1, o1 + i, none⟩) p (mc - i) := ⟨by omega, by omega, fun e => by cases e⟩
      have kB : Cap (some ⟨b2, o2 + j, none⟩) q (kc - j) := ⟨by omega, by omega, fun e => by cases e⟩
      have LC := Lib.hid (fun (wx : World) (gb : Nat) (R : Row wx gb 24 #[.slice (some ⟨b1, o1 + i, none⟩) p (mc - i), .slice (some ⟨b2, o2 + j, none⟩) q (kc - j)]) (G : Gn wx g w.heap.size A n c sg (some ⟨b1, o1, none⟩) m mc a (i + p) (some ⟨b2, o2, none⟩) k kc b (j + q) D dn dc (T.map cat)) (B : w1.grownBy wx (some g)) =>
        (catTwo R (cutA.out wx _ G) (cutB.out wx _ G) kA kB (by omega) (by omega)).mono fun e w' (r : AnsList wx (u ++ v) e w') => (let ⟨O, on, oc, e1, e2, e3⟩ := r; ⟨O, on, oc, e1, e2, e3, G.next e3, grown_trans B (grown_below e3 _), B.size⟩ : ∃ O on oc, e = .returned (.slice O on oc) ∧ Own w' wx.heap.size (.slice O on oc) (u ++ v) ∧ Below wx.heap.size wx w' ∧ Gn w' g w.heap.size A n c sg (some ⟨b1, o1, none⟩) m mc a (i + p) (some ⟨b2, o2, none⟩) k kc b (j + q) D dn dc (T.map cat) ∧ w1.grownBy w' (some g) ∧ w1.heap.size ≤ wx.heap.size))
      clear kA kB cutA cutB hu1 hu2 hv1 hv2 hu hv
      go_cut [4] (fun p4 wx => PB w1 g w.heap.size A n c sg (some ⟨b1, o1, none⟩) m mc a (i + p) (some ⟨b2, o2, none⟩) k kc b (j + q) D dn dc (T.map cat) (u ++ v) p4 wx)
      case first =>
        clear GW BW1
        go_region_held3 (fun _ => True) (trivial)
          (first
            | (go_at_call 116; (with_reducible refine (LPA.out _ ?_).mono ?_); (focus (repeat (first | (with_reducible exact Below.refl _ _) | (with_reducible refine Below.drew ?_) | (with_reducible refine Below.alloc ?_ (by first | omega | (simp only [compImpl.sz_alloc, compImpl.sz_drew]; omega)) _)))); rintro e w3 ⟨rfl, hG3, g3, t3⟩; have s31 := g3.size; (try simp only [compImpl.sz_alloc, compImpl.sz_drew] at s31); (try (obtain ⟨q4, -⟩ : Row w3 w1.heap.size 24 #[.slice none 0 0] ∧ True; (focus ((refine ⟨Row.away ?_ g3 (fun e => by injection e; omega), trivial⟩); (repeat (first | ((with_reducible refine compImpl.row_top ?_); (simp only [compImpl.sz_alloc, compImpl.sz_drew]; done)) | (with_reducible refine compImpl.row_drew ?_) | (with_reducible refine compImpl.row_alloc ?_))); done)))))
            | (go_at_call 116; (with_reducible refine (LPB.out _ ?_ ?_).mono ?_); (focus (first | exact hG3 | exact hG3.alloc _)); (focus (first | exact t3 | exact grown_trans t3 (World.grownBy_alloc _ _ _))); rintro e w4 ⟨rfl, hG4, g4, t4⟩; have s3 := t3.size; have s41 := g4.size; (try simp only [compImpl.sz_alloc, compImpl.sz_drew] at s41); (try (have q4 := Row.away q4 g4 (fun e => by injection e; omega))); (try (obtain ⟨q4, -⟩ : Row w4 w3.heap.size 24 #[.slice none 0 0] ∧ True; (focus ((refine ⟨Row.away ?_ g4 (fun e => by injection e; omega), trivial⟩); (repeat (first | ((with_reducible refine compImpl.row_top ?_); (simp only [compImpl.sz_alloc, compImpl.sz_drew]; done)) | (with_reducible refine compImpl.row_drew ?_) | (with_reducible refine compImpl.row_alloc ?_))); done)))))
            | (go_at_call 115; (with_reducible refine (LC.out _ _ ?_ ?_ ?_).mono ?_); (focus ((repeat (first | ((with_reducible refine compImpl.row_top ?_); (simp only [compImpl.sz_alloc, compImpl.sz_drew]; done)) | (with_reducible refine compImpl.row_drew ?_) | (with_reducible refine compImpl.row_alloc ?_))); done)); (focus (first | exact hG4.alloc _ | exact (hG4.alloc _).alloc _)); (focus (first | exact grown_trans t4 (World.grownBy_alloc _ _ _) | exact grown_trans t4 (grown_trans (World.grownBy_alloc _ _ _) (World.grownBy_alloc _ _ _)))); rintro e w5 ⟨O, on, oc, rfl, ho, b5, hG5, t5, s5⟩; have s4 := t4.size; (try (have q4 := Go.Proofs.Ytkmhnkljigncmaa.base.Row.next (compImpl.row_alloc q4) b5)); (try (obtain ⟨q4, -⟩ : Row w5 w4.heap.size 24 #[.slice none 0 0] ∧ True; (focus ((refine ⟨Go.Proofs.Ytkmhnkljigncmaa.base.Row.next ?_ b5, trivial⟩); (repeat (first | ((with_reducible refine compImpl.row_top ?_); (simp only [compImpl.sz_alloc, compImpl.sz_drew]; done)) | (with_reducible refine compImpl.row_drew ?_) | (with_reducible refine compImpl.row_alloc ?_))); done)))); (try (obtain ⟨q4, -⟩ : Row w5 (w4.heap.size + 1) 24 #[.slice none 0 0] ∧ True; (focus ((refine ⟨Go.Proofs.Ytkmhnkljigncmaa.base.Row.next ?_ b5, trivial⟩); (repeat (first | ((with_reducible refine compImpl.row_top ?_); (simp only [compImpl.sz_alloc, compImpl.sz_drew]; done)) | (with_reducible refine compImpl.row_drew ?_) | (with_reducible refine compImpl.row_alloc ?_))); done)))); (try (have y3 : w5.cell? ⟨_, 0, none⟩ = some (.slice none 0 0) := q4.cell 0; have y4 : w5.frozen? ⟨_, 0, none⟩ = false := q4.free 0))))
        all_goals
          go_wp2_with fail
          go_meet
          first
            | exact pb_after ho s5 hG5 t5
            | exact pb_ahead q4 (by omega) (by simp only [compImpl.sz_alloc, compImpl.sz_drew]; omega) (by omega) (by omega) ho s5 hG5 t5
      case rest =>
        rename World => wc
        obtain ⟨bp, O, on, oc, rfl, rb, ho, hG, hwb, hg⟩ := hcut
        have hdl : dn = T.length := by have := hG.o.len; simpa using this.symm
        have hon : on ≤ 1048576 := by rw [Own.len ho, luv]; omega
        have hgw : w.grownBy wc (some g) := grown_trans (grown_below BW1 _) hg
        have LI := Lib.hid (indexAt 117 #[.pointer (some ⟨bp, 0, none⟩)] (enters_of Try.func117 (by kernel_rfl) rfl) (fun ys => decide (ys = u ++ v)) D dn dc (T.map cat) wc (testPair bp O on oc (u ++ v) wc rb (Own.seg ho) hon) hG.o.segs (by omega) (fun z => Nat.le_trans (HF.out.each z) (by omega)))
        have c6 : wc.cell? ⟨g, 6, none⟩ = some (.slice D dn dc) := hG.cell 6
        have HDL := Lib.hid hdl
        have hdn60 : dn ≤ 60 := by omega
        clear LPA LPB LC luv hdl
        go_wp2_with fail
        refine LI.out.mono ?_
        rintro e w2 ⟨bI, ⟨z, hz, rfl, hzz⟩ | ⟨rfl, hno⟩⟩
        · have hgw2 := grown_trans hgw (grown_below bI (some g))
          have G2 := hG.next bI
          have hT := nx_old (u := subL sg a i) (v := subL sg b j) (HDL.out ▸ hz) HF.out (genPos.sub_trm HP.out) ((of_decide_eq_true hzz).trans (by rw [HU1.out, HV1.out]))
          have F := Lib.hid (show AnsNx w g A n c sg (some ⟨b1, o1, none⟩) m mc a i (some ⟨b2, o2, none⟩) k kc b j D dn T (.returned (.int .i64 (-1 - (z : Int)))) w2 from
            ⟨_, i + p, j + q, D, dn, dc, T, rfl, ⟨G2.row, G2.s, G2.pa, G2.qb, G2.o.wider (Nat.le_refl _) G2.le, Nat.le_refl _, G2.li, G2.lj, G2.hn, G2.hm, G2.hk, G2.ars⟩, HF.out, Two.left hgw2, fun y hy _ => hy, fun Z _ hA => avoid_grown HOW.out hgw2 hA, .inr ⟨by rw [HU2.out], by rw [HV2.out], gp_old HP.out HQ.out HNS.out hT⟩⟩)
          have hz0 : (0 : Int) ≤ (z : Int) := by omega
          clear hG rb ho hg hgw hgw2 G2 hT bI LI c6 hzz HOW
          go_wp2
          go_ret
          exact F.out
        · have hnew := nx_new (u := subL sg a i) (v := subL sg b j) (T := T) (fun z hz => by have := hno z (by have := HDL.out; omega); rw [HU1.out, HV1.out]; exact this)
          have G2 := hG.next bI
          have r2 := rb.next bI
          have o2' := Own.next ho bI
          have hgw2 := grown_trans hgw (grown_below bI (some g))
          have c6 : w2.cell? ⟨g, 6, none⟩ = some (.slice D dn dc) := G2.cell 6
          have cp : w2.cell? ⟨bp, 0, none⟩ = some (.slice O on oc) := r2.cell 0
          obtain ⟨wa, hwa⟩ : ∃ wa, wa = (w2.alloc (.cells #[.slice O on oc] 24)).drew := ⟨_, rfl⟩
          have bA : Below w2.heap.size w2 wa := by rw [hwa]; exact ((Below.refl _ _).alloc (Nat.le_refl _) _).drew
          have GA := G2.next bA
          have oA := Own.next o2' bA
          have hgA := grown_trans hgw2 (grown_below bA (some g))
          have HOA := Lib.hid (show Owns (w2.alloc (.cells #[.slice O on oc] 24)).drew (g + 1) w.heap.size D dn dc (T.map cat) by rw [← hwa]; exact GA.o)
          have HIN := Lib.hid (show Inn (w2.alloc (.cells #[.slice O on oc] 24)).drew w.heap.size (w2.alloc (.cells #[.slice O on oc] 24)).drew.heap.size (.slice O on oc) (u ++ v) by rw [← hwa]; exact inn_own (Own.lower oA hsz))
          have hDg : ∀ y, blk D = some y → g + 1 ≤ y ∧ y < w.heap.size := fun y hy => by
            obtain ⟨_, h2, _⟩ := topRow HOW.out y hy
            exact ⟨h2, (topRow HOW.out y hy).2.2⟩
          have HRA := Lib.hid (fun (w8 : World) (hg8 : (w2.alloc (.cells #[.slice O on oc] 24)).drew.grownBy w8 (blk D)) => (show Row w8 g 85 (gcs A n c (some ⟨b1, o1, none⟩) m mc (i + p) (some ⟨b2, o2, none⟩) k kc (j + q) D dn dc) from Row.away (by rw [← hwa]; exact GA.row) hg8 (fun e => by have := (hDg g e).1; omega)))
          have HRP := Lib.hid (show Row (w2.alloc (.cells #[.slice O on oc] 24)).drew bp 24 #[.slice O on oc] by rw [← hwa]; exact r2.next bA)
          have HNP : Hid (blk D ≠ some bp) := Lib.hid (fun e => by have := (hDg bp e).2; omega)
          have HPU := Lib.hid (show AnsNx w g A n c sg (some ⟨b1, o1, none⟩) m mc a i (some ⟨b2, o2, none⟩) k kc b j D dn T = AnsNx w g A n c sg (some ⟨b1, o1, none⟩) m mc a i (some ⟨b2, o2, none⟩) k kc b j D dn T from rfl)
          have FIN := Lib.hid (fun (g' c' : Nat) (w8 : World) ho8 hg8 hat8 hb8 hc8 => nx_push (O := O) (on := on) (oc := oc) (c' := c') (w8 := w8) HOW.out GA hgA (hwa ▸ hgA.size) HF.out HP.out HQ.out HNS.out hnew (HU1.out) (HV1.out) HU2.out HV2.out HDL.out hip hjq hm60 hk60 (fun y hy => Nat.le_trans hsz (by have := (ownRow o2' y hy).2.1; omega)) hDg (g' := g') ho8 hg8 hat8 hb8 hc8)
          rw [hwa] at FIN
          have hs2 : w.heap.size ≤ w2.heap.size := hgw2.size
          clear hG rb ho hg hgw hgw2 G2 r2 o2' bI LI hno hnew bA GA oA hgA hwa HPU wa
          go_wp2_with fail
          refine AnyT.start (S := (fun w' => w'.cell? ⟨g, 6, none⟩ = some (.slice D dn dc) ∧ w'.cell? ⟨bp, 0, none⟩ = some (.slice O on oc))) (fun i => decide (8 ≤ i)) (by kernel_rfl) ⟨c6, cp⟩ (fun hHeld => ?_)
          refine AnyT.takeA (i := 0) (v := ?_) rfl (by kernel_rfl) (by kernel_rfl) (by kernel_rfl) (fun _ _ _ h => h) (Or.inl ⟨by rfl, ?_⟩) ?_
          rotate_left 1
          · (intro w0 _; go_simp; try with_reducible rfl)
          try simp only [Act.put, List.setIfInBounds_toArray, List.set_cons_zero, List.set_cons_succ, List.getElem_toArray, List.getElem_cons_zero, List.getElem_cons_succ]
          refine AnyT.takeA (i := 1) (v := ?_) rfl (by kernel_rfl) (by kernel_rfl) (by kernel_rfl) (fun _ _ _ h => h) (Or.inl ⟨by rfl, ?_⟩) ?_
          rotate_left 1
          · (intro w0 _; go_simp; try with_reducible rfl)
          try simp only [Act.put, List.setIfInBounds_toArray, List.set_cons_zero, List.set_cons_succ, List.getElem_toArray, List.getElem_cons_zero, List.getElem_cons_succ]
          refine AnyT.takeA (i := 2) (v := ?_) rfl (by kernel_rfl) (by kernel_rfl) (by kernel_rfl) (fun _ _ _ h => h) (Or.inl ⟨by rfl, ?_⟩) ?_
          rotate_left 1
          · (intro w0 _; go_simp; try with_reducible rfl)
          try simp only [Act.put, List.setIfInBounds_toArray, List.set_cons_zero, List.set_cons_succ, List.getElem_toArray, List.getElem_cons_zero, List.getElem_cons_succ]
          refine AnyT.takeA (i := 3) (v := ?_) rfl (by kernel_rfl) (by kernel_rfl) (by kernel_rfl) (fun _ _ _ h => h) (Or.inl ⟨by rfl, ?_⟩) ?_
          rotate_left 1
          · (intro w0 _; go_simp; try with_reducible rfl)
          try simp only [Act.put, List.setIfInBounds_toArray, List.set_cons_zero, List.set_cons_succ, List.getElem_toArray, List.getElem_cons_zero, List.getElem_cons_succ]
          refine AnyT.take (i := 4) (v := ?_) rfl (by kernel_rfl) (by kernel_rfl) (by kernel_rfl) (by kernel_rfl) (fun _ _ _ h => h) (Or.inl ⟨by rfl, ?_⟩) (by assumption) ?_
          rotate_left 1
          · (intro w0 hSw; (try dsimp only at hSw); go_simp; try with_reducible rfl)
          try simp only [Act.put, List.setIfInBounds_toArray, List.set_cons_zero, List.set_cons_succ, List.getElem_toArray, List.getElem_cons_zero, List.getElem_cons_succ]
          refine AnyT.take (i := 5) (v := ?_) rfl (by kernel_rfl) (by kernel_rfl) (by kernel_rfl) (by kernel_rfl) (fun _ _ _ h => h) (Or.inl ⟨by rfl, ?_⟩) (by assumption) ?_
          rotate_left 1
          · (intro w0 hSw; (try dsimp only at hSw); go_simp; try with_reducible rfl)
          try simp only [Act.put, List.setIfInBounds_toArray, List.set_cons_zero, List.set_cons_succ, List.getElem_toArray, List.getElem_cons_zero, List.getElem_cons_succ]
          refine AnyT.call (i := 6) (by kernel_rfl) rfl (fun K hK => ?_)
          try simp only [Act.put, List.setIfInBounds_toArray, List.set_cons_zero, List.set_cons_succ, List.getElem_toArray, List.getElem_cons_zero, List.getElem_cons_succ]
          rw [if_pos (by rfl)]
          go_simp
          refine hK.out _ _ (fun _ _ => ?_) (fun hKeep => ?_)
          · exact ⟨compImpl.keep_alloc hHeld.1, compImpl.keep_alloc hHeld.2⟩
          replace hHeld := hKeep (by rfl) hHeld
          clear hK K hKeep
          try simp only [Act.put, List.setIfInBounds_toArray, List.set_cons_zero, List.set_cons_succ, List.getElem_toArray, List.getElem_cons_zero, List.getElem_cons_succ]
          refine AnyT.call (i := 7) (by kernel_rfl) rfl (fun K hK => ?_)
          refine stepS1Z rfl _ _ rfl (g + 1) w.heap.size D dn dc (T.map cat) (by simp [Act.eval]) HOA.out w2.heap.size 1 (.slice O on oc) (u ++ v) (by simp [Act.eval]) (show (w2.alloc (.cells #[.slice O on oc] 24)).drew.cell? ⟨w2.heap.size, 0, none⟩ = _ from compImpl.cell_top rfl) HIN.out (by omega) (by omega) (by simp; omega) _ rfl ?_
          intro g' c' w8 ho8 hg8 hat8 hb8 hc8
          have r8 := HRA.out w8 hg8
          have e6 : w8.cell? ⟨g, 6, none⟩ = some (.slice D dn dc) := r8.cell 6
          have fr6 : w8.frozen? ⟨g, 6, none⟩ = false := r8.free 6
          refine hK.out _ _ (fun _ _ => ?_) (fun hKeep => ?_)
          · exact ⟨e6, Row.cell (Row.away HRP.out hg8 HNP.out) 0⟩
          clear hK K hKeep hHeld
          try simp only [Act.put, List.setIfInBounds_toArray, List.set_cons_zero, List.set_cons_succ, List.getElem_toArray, List.getElem_cons_zero, List.getElem_cons_succ]
          refine AnyT.call (i := 8) (by kernel_rfl) rfl (fun K hK => ?_)
          try simp only [Act.put, List.setIfInBounds_toArray, List.set_cons_zero, List.set_cons_succ, List.getElem_toArray, List.getElem_cons_zero, List.getElem_cons_succ]
          rw [if_pos (by rfl)]
          go_simp
          refine hK.out _ _ (fun h => by cases h) (fun _ => ?_)
          clear hK K
          try simp only [Act.put, List.setIfInBounds_toArray, List.set_cons_zero, List.set_cons_succ, List.getElem_toArray, List.getElem_cons_zero, List.getElem_cons_succ]
          refine AnyT.call (i := 9) (by kernel_rfl) rfl (fun K hK => ?_)
          try simp only [Act.put, List.setIfInBounds_toArray, List.set_cons_zero, List.set_cons_succ, List.getElem_toArray, List.getElem_cons_zero, List.getElem_cons_succ]
          rw [if_pos (by rfl)]
          go_simp
          refine hK.out _ _ (fun h => by cases h) (fun _ => ?_)
          clear hK K
          try simp only [Act.put, List.setIfInBounds_toArray, List.set_cons_zero, List.set_cons_succ, List.getElem_toArray, List.getElem_cons_zero, List.getElem_cons_succ]
          refine AnyT.call (i := 10) (by kernel_rfl) rfl (fun K hK => ?_)
          try simp only [Act.put, List.setIfInBounds_toArray, List.set_cons_zero, List.set_cons_succ, List.getElem_toArray, List.getElem_cons_zero, List.getElem_cons_succ]
          rw [if_pos (by rfl)]
          go_simp
          refine hK.out _ _ (fun h => by cases h) (fun _ => ?_)
          clear hK K
          try simp only [Act.put, List.setIfInBounds_toArray, List.set_cons_zero, List.set_cons_succ, List.getElem_toArray, List.getElem_cons_zero, List.getElem_cons_succ]
          refine AnyT.done (by kernel_rfl) ?_ _
          go_wp2
          go_ret
          exact FIN.out _ _ _ ho8 hg8 hat8 hb8 hc8
    · have d0 : decide (0 ≤ x) = false := decide_eq_false hx0
      clear hsym
      go_enter Try.func78, Try.ntmps78
      go_wp2
      go_quiet (fail)
      go_wp2_with fail
      go_quiet (fail)
      rw [World.drewN_drewN]
      go_wp2_with fail
      have G1 := Lib.hid (fun d => h.drewN d)
      have BW := Lib.hid (fun d => genNext.drew_below w d)
      have HOW := Lib.hid h.o
      obtain ⟨w1, hw1, GW, BW1, hs1⟩ : ∃ w1, w1 = w.drewN (_) ∧ Gn w1 g w.heap.size A n c sg (some ⟨b1, o1, none⟩) m mc a i (some ⟨b2, o2, none⟩) k kc b j D dn dc (T.map cat) ∧ Below w.heap.size w w1 ∧ w1.heap.size = w.heap.size := ⟨_, rfl, G1.out _, BW.out _, rfl⟩
      rw [← hw1]
      clear hw1 G1 BW c1 c2 c4 c5 hx hy d0 h
      have hgl1 : g < w1.heap.size := by omega
      have hsz : w.heap.size ≤ w1.heap.size := by omega
      clear hs1
      have hu1 : subL sg a i = (a.drop i).take p := by unfold subL; rw [len1_eq HP.out]
      have hu2 : (subL sg a i).length = p := by rw [hu1, List.length_take, List.length_drop, GW.pa.1]; omega
      have hv1 : subL sg b j = (b.drop j).take q := by unfold subL; rw [len1_eq HQ.out]
      have hv2 : (subL sg b j).length = q := by rw [hv1, List.length_take, List.length_drop, GW.qb.1]; omega
      have cutA := Lib.hid (fun (w2 : World) (i2 : Nat) (G : Gn w2 g w.heap.size A n c sg (some ⟨b1, o1, none⟩) m mc a i2 (some ⟨b2, o2, none⟩) k kc b (j + q) D dn dc (T.map cat)) => (Seg.cut (a := i) (j := p) G.pa hip).more (Nat.le_of_lt G.lt))
      have cutB := Lib.hid (fun (w2 : World) (i2 : Nat) (G : Gn w2 g w.heap.size A n c sg (some ⟨b1, o1, none⟩) m mc a i2 (some ⟨b2, o2, none⟩) k kc b (j + q) D dn dc (T.map cat)) => (Seg.cut (a := j) (j := q) G.qb hjq).more (Nat.le_of_lt G.lt))
      obtain ⟨u, hu⟩ : ∃ u, (a.drop i).take p = u := ⟨_, rfl⟩
      obtain ⟨v, hv⟩ : ∃ v, (b.drop j).take q = v := ⟨_, rfl⟩
      rw [hu] at cutA hu1
      rw [hv] at cutB hv1
      have HU1 := Lib.hid hu1
      have HU2 := Lib.hid hu2
      have HV1 := Lib.hid hv1
      have HV2 := Lib.hid hv2
      have luv : (u ++ v).length = p + q := by rw [List.length_append, ← hu1, ← hv1, hu2, hv2]
      have LPA := Lib.hid (fun (w2 : World) (B : Below w1.heap.size w1 w2) => (partA (GW.next B) HP.out hip hp1 hmc hmc2).mono fun e w' (r : _ ∧ _ ∧ _) => (⟨r.1, r.2.1, r.2.2, grown_trans (grown_below B _) r.2.2⟩ : e = .returned (.slice (some ⟨b1, o1 + i, none⟩) p (mc - i)) ∧ Gn w' g w.heap.size A n c sg (some ⟨b1, o1, none⟩) m mc a (i + p) (some ⟨b2, o2, none⟩) k kc b j D dn dc (T.map cat) ∧ w2.grownBy w' (some g) ∧ w1.grownBy w' (some g)))
      have LPB := Lib.hid (fun (w2 : World) (G : Gn w2 g w.heap.size A n c sg (some ⟨b1, o1, none⟩) m mc a (i + p) (some ⟨b2, o2, none⟩) k kc b j D dn dc (T.map cat)) (B : w1.grownBy w2 (some g)) => (partB G HQ.out hjq hq1 hkc hkc2).mono fun e w' (r : _ ∧ _ ∧ _) => (⟨r.1, r.2.1, r.2.2, grown_trans B r.2.2⟩ : e = .returned (.slice (some ⟨b2, o2 + j, none⟩) q (kc - j)) ∧ Gn w' g w.heap.size A n c sg (some ⟨b1, o1, none⟩) m mc a (i + p) (some ⟨b2, o2, none⟩) k kc b (j + q) D dn dc (T.map cat) ∧ w2.grownBy w' (some g) ∧ w1.grownBy w' (some g)))
      have kA : Cap (some ⟨b1, o1 + i, none⟩) p (mc - i) := ⟨by omega, by omega, fun e => by cases e⟩
      have kB : Cap (some ⟨b2, o2 + j, none⟩) q (kc - j) := ⟨by omega, by omega, fun e => by cases e⟩
      have LC := Lib.hid (fun (wx : World) (gb : Nat) (R : Row wx gb 24 #[.slice (some ⟨b1, o1 + i, none⟩) p (mc - i), .slice (some ⟨b2, o2 + j, none⟩) q (kc - j)]) (G : Gn wx g w.heap.size A n c sg (some ⟨b1, o1, none⟩) m mc a (i + p) (some ⟨b2, o2, none⟩) k kc b (j + q) D dn dc (T.map cat)) (B : w1.grownBy wx (some g)) =>
        (catTwo R (cutA.out wx _ G) (cutB.out wx _ G) kA kB (by omega) (by omega)).mono fun e w' (r : AnsList wx (u ++ v) e w') => (let ⟨O, on, oc, e1, e2, e3⟩ := r; ⟨O, on, oc, e1, e2, e3, G.next e3, grown_trans B (grown_below e3 _), B.size⟩ : ∃ O on oc, e = .returned (.slice O on oc) ∧ Own w' wx.heap.size (.slice O on oc) (u ++ v) ∧ Below wx.heap.size wx w' ∧ Gn w' g w.heap.size A n c sg (some ⟨b1, o1, none⟩) m mc a (i + p) (some ⟨b2, o2, none⟩) k kc b (j + q) D dn dc (T.map cat) ∧ w1.grownBy w' (some g) ∧ w1.heap.size ≤ wx.heap.size))
      clear kA kB cutA cutB hu1 hu2 hv1 hv2 hu hv
      go_cut [4] (fun p4 wx => PB w1 g w.heap.size A n c sg (some ⟨b1, o1, none⟩) m mc a (i + p) (some ⟨b2, o2, none⟩) k kc b (j + q) D dn dc (T.map cat) (u ++ v) p4 wx)
      case first =>
        clear GW BW1
        go_region_held3 (fun _ => True) (trivial)
          (first
            | (go_at_call 116; (with_reducible refine (LPA.out _ ?_).mono ?_); (focus (repeat (first | (with_reducible exact Below.refl _ _) | (with_reducible refine Below.drew ?_) | (with_reducible refine Below.alloc ?_ (by first | omega | (simp only [compImpl.sz_alloc, compImpl.sz_drew]; omega)) _)))); rintro e w3 ⟨rfl, hG3, g3, t3⟩; have s31 := g3.size; (try simp only [compImpl.sz_alloc, compImpl.sz_drew] at s31); (try (obtain ⟨q4, -⟩ : Row w3 w1.heap.size 24 #[.slice none 0 0] ∧ True; (focus ((refine ⟨Row.away ?_ g3 (fun e => by injection e; omega), trivial⟩); (repeat (first | ((with_reducible refine compImpl.row_top ?_); (simp only [compImpl.sz_alloc, compImpl.sz_drew]; done)) | (with_reducible refine compImpl.row_drew ?_) | (with_reducible refine compImpl.row_alloc ?_))); done)))))
            | (go_at_call 116; (with_reducible refine (LPB.out _ ?_ ?_).mono ?_); (focus (first | exact hG3 | exact hG3.alloc _)); (focus (first | exact t3 | exact grown_trans t3 (World.grownBy_alloc _ _ _))); rintro e w4 ⟨rfl, hG4, g4, t4⟩; have s3 := t3.size; have s41 := g4.size; (try simp only [compImpl.sz_alloc, compImpl.sz_drew] at s41); (try (have q4 := Row.away q4 g4 (fun e => by injection e; omega))); (try (obtain ⟨q4, -⟩ : Row w4 w3.heap.size 24 #[.slice none 0 0] ∧ True; (focus ((refine ⟨Row.away ?_ g4 (fun e => by injection e; omega), trivial⟩); (repeat (first | ((with_reducible refine compImpl.row_top ?_); (simp only [compImpl.sz_alloc, compImpl.sz_drew]; done)) | (with_reducible refine compImpl.row_drew ?_) | (with_reducible refine compImpl.row_alloc ?_))); done)))))
            | (go_at_call 115; (with_reducible refine (LC.out _ _ ?_ ?_ ?_).mono ?_); (focus ((repeat (first | ((with_reducible refine compImpl.row_top ?_); (simp only [compImpl.sz_alloc, compImpl.sz_drew]; done)) | (with_reducible refine compImpl.row_drew ?_) | (with_reducible refine compImpl.row_alloc ?_))); done)); (focus (first | exact hG4.alloc _ | exact (hG4.alloc _).alloc _)); (focus (first | exact grown_trans t4 (World.grownBy_alloc _ _ _) | exact grown_trans t4 (grown_trans (World.grownBy_alloc _ _ _) (World.grownBy_alloc _ _ _)))); rintro e w5 ⟨O, on, oc, rfl, ho, b5, hG5, t5, s5⟩; have s4 := t4.size; (try (have q4 := Go.Proofs.Ytkmhnkljigncmaa.base.Row.next (compImpl.row_alloc q4) b5)); (try (obtain ⟨q4, -⟩ : Row w5 w4.heap.size 24 #[.slice none 0 0] ∧ True; (focus ((refine ⟨Go.Proofs.Ytkmhnkljigncmaa.base.Row.next ?_ b5, trivial⟩); (repeat (first | ((with_reducible refine compImpl.row_top ?_); (simp only [compImpl.sz_alloc, compImpl.sz_drew]; done)) | (with_reducible refine compImpl.row_drew ?_) | (with_reducible refine compImpl.row_alloc ?_))); done)))); (try (obtain ⟨q4, -⟩ : Row w5 (w4.heap.size + 1) 24 #[.slice none 0 0] ∧ True; (focus ((refine ⟨Go.Proofs.Ytkmhnkljigncmaa.base.Row.next ?_ b5, trivial⟩); (repeat (first | ((with_reducible refine compImpl.row_top ?_); (simp only [compImpl.sz_alloc, compImpl.sz_drew]; done)) | (with_reducible refine compImpl.row_drew ?_) | (with_reducible refine compImpl.row_alloc ?_))); done)))); (try (have y3 : w5.cell? ⟨_, 0, none⟩ = some (.slice none 0 0) := q4.cell 0; have y4 : w5.frozen? ⟨_, 0, none⟩ = false := q4.free 0))))
        all_goals
          go_wp2_with fail
          go_meet
          first
            | exact pb_after ho s5 hG5 t5
            | exact pb_ahead q4 (by omega) (by simp only [compImpl.sz_alloc, compImpl.sz_drew]; omega) (by omega) (by omega) ho s5 hG5 t5
      case rest =>
        rename World => wc
        obtain ⟨bp, O, on, oc, rfl, rb, ho, hG, hwb, hg⟩ := hcut
        have hdl : dn = T.length := by have := hG.o.len; simpa using this.symm
        have hon : on ≤ 1048576 := by rw [Own.len ho, luv]; omega
        have hgw : w.grownBy wc (some g) := grown_trans (grown_below BW1 _) hg
        have LI := Lib.hid (indexAt 117 #[.pointer (some ⟨bp, 0, none⟩)] (enters_of Try.func117 (by kernel_rfl) rfl) (fun ys => decide (ys = u ++ v)) D dn dc (T.map cat) wc (testPair bp O on oc (u ++ v) wc rb (Own.seg ho) hon) hG.o.segs (by omega) (fun z => Nat.le_trans (HF.out.each z) (by omega)))
        have c6 : wc.cell? ⟨g, 6, none⟩ = some (.slice D dn dc) := hG.cell 6
        have HDL := Lib.hid hdl
        have hdn60 : dn ≤ 60 := by omega
        clear LPA LPB LC luv hdl
        go_wp2_with fail
        refine LI.out.mono ?_
        rintro e w2 ⟨bI, ⟨z, hz, rfl, hzz⟩ | ⟨rfl, hno⟩⟩
        · have hgw2 := grown_trans hgw (grown_below bI (some g))
          have G2 := hG.next bI
          have hT := nx_old (u := subL sg a i) (v := subL sg b j) (HDL.out ▸ hz) HF.out (genPos.sub_trm HP.out) ((of_decide_eq_true hzz).trans (by rw [HU1.out, HV1.out]))
          have F := Lib.hid (show AnsNx w g A n c sg (some ⟨b1, o1, none⟩) m mc a i (some ⟨b2, o2, none⟩) k kc b j D dn T (.returned (.int .i64 (-1 - (z : Int)))) w2 from
            ⟨_, i + p, j + q, D, dn, dc, T, rfl, ⟨G2.row, G2.s, G2.pa, G2.qb, G2.o.wider (Nat.le_refl _) G2.le, Nat.le_refl _, G2.li, G2.lj, G2.hn, G2.hm, G2.hk, G2.ars⟩, HF.out, Two.left hgw2, fun y hy _ => hy, fun Z _ hA => avoid_grown HOW.out hgw2 hA, .inr ⟨by rw [HU2.out], by rw [HV2.out], gp_old HP.out HQ.out HNS.out hT⟩⟩)
          have hz0 : (0 : Int) ≤ (z : Int) := by omega
          clear hG rb ho hg hgw hgw2 G2 hT bI LI c6 hzz HOW
          go_wp2
          go_ret
          exact F.out
        · have hnew := nx_new (u := subL sg a i) (v := subL sg b j) (T := T) (fun z hz => by have := hno z (by have := HDL.out; omega); rw [HU1.out, HV1.out]; exact this)
          have G2 := hG.next bI
          have r2 := rb.next bI
          have o2' := Own.next ho bI
          have hgw2 := grown_trans hgw (grown_below bI (some g))
          have c6 : w2.cell? ⟨g, 6, none⟩ = some (.slice D dn dc) := G2.cell 6
          have cp : w2.cell? ⟨bp, 0, none⟩ = some (.slice O on oc) := r2.cell 0
          obtain ⟨wa, hwa⟩ : ∃ wa, wa = (w2.alloc (.cells #[.slice O on oc] 24)).drew := ⟨_, rfl⟩
          have bA : Below w2.heap.size w2 wa := by rw [hwa]; exact ((Below.refl _ _).alloc (Nat.le_refl _) _).drew
          have GA := G2.next bA
          have oA := Own.next o2' bA
          have hgA := grown_trans hgw2 (grown_below bA (some g))
          have HOA := Lib.hid (show Owns (w2.alloc (.cells #[.slice O on oc] 24)).drew (g + 1) w.heap.size D dn dc (T.map cat) by rw [← hwa]; exact GA.o)
          have HIN := Lib.hid (show Inn (w2.alloc (.cells #[.slice O on oc] 24)).drew w.heap.size (w2.alloc (.cells #[.slice O on oc] 24)).drew.heap.size (.slice O on oc) (u ++ v) by rw [← hwa]; exact inn_own (Own.lower oA hsz))
          have hDg : ∀ y, blk D = some y → g + 1 ≤ y ∧ y < w.heap.size := fun y hy => by
            obtain ⟨_, h2, _⟩ := topRow HOW.out y hy
            exact ⟨h2, (topRow HOW.out y hy).2.2⟩
          have HRA := Lib.hid (fun (w8 : World) (hg8 : (w2.alloc (.cells #[.slice O on oc] 24)).drew.grownBy w8 (blk D)) => (show Row w8 g 85 (gcs A n c (some ⟨b1, o1, none⟩) m mc (i + p) (some ⟨b2, o2, none⟩) k kc (j + q) D dn dc) from Row.away (by rw [← hwa]; exact GA.row) hg8 (fun e => by have := (hDg g e).1; omega)))
          have HRP := Lib.hid (show Row (w2.alloc (.cells #[.slice O on oc] 24)).drew bp 24 #[.slice O on oc] by rw [← hwa]; exact r2.next bA)
          have HNP : Hid (blk D ≠ some bp) := Lib.hid (fun e => by have := (hDg bp e).2; omega)
          have HPU := Lib.hid (show AnsNx w g A n c sg (some ⟨b1, o1, none⟩) m mc a i (some ⟨b2, o2, none⟩) k kc b j D dn T = AnsNx w g A n c sg (some ⟨b1, o1, none⟩) m mc a i (some ⟨b2, o2, none⟩) k kc b j D dn T from rfl)
          have FIN := Lib.hid (fun (g' c' : Nat) (w8 : World) ho8 hg8 hat8 hb8 hc8 => nx_push (O := O) (on := on) (oc := oc) (c' := c') (w8 := w8) HOW.out GA hgA (hwa ▸ hgA.size) HF.out HP.out HQ.out HNS.out hnew (HU1.out) (HV1.out) HU2.out HV2.out HDL.out hip hjq hm60 hk60 (fun y hy => Nat.le_trans hsz (by have := (ownRow o2' y hy).2.1; omega)) hDg (g' := g') ho8 hg8 hat8 hb8 hc8)
          rw [hwa] at FIN
          have hs2 : w.heap.size ≤ w2.heap.size := hgw2.size
          clear hG rb ho hg hgw hgw2 G2 r2 o2' bI LI hno hnew bA GA oA hgA hwa HPU wa
          go_wp2_with fail
          refine AnyT.start (S := (fun w' => w'.cell? ⟨g, 6, none⟩ = some (.slice D dn dc) ∧ w'.cell? ⟨bp, 0, none⟩ = some (.slice O on oc))) (fun i => decide (8 ≤ i)) (by kernel_rfl) ⟨c6, cp⟩ (fun hHeld => ?_)
          refine AnyT.takeA (i := 0) (v := ?_) rfl (by kernel_rfl) (by kernel_rfl) (by kernel_rfl) (fun _ _ _ h => h) (Or.inl ⟨by rfl, ?_⟩) ?_
          rotate_left 1
          · (intro w0 _; go_simp; try with_reducible rfl)
          try simp only [Act.put, List.setIfInBounds_toArray, List.set_cons_zero, List.set_cons_succ, List.getElem_toArray, List.getElem_cons_zero, List.getElem_cons_succ]
          refine AnyT.takeA (i := 1) (v := ?_) rfl (by kernel_rfl) (by kernel_rfl) (by kernel_rfl) (fun _ _ _ h => h) (Or.inl ⟨by rfl, ?_⟩) ?_
          rotate_left 1
          · (intro w0 _; go_simp; try with_reducible rfl)
          try simp only [Act.put, List.setIfInBounds_toArray, List.set_cons_zero, List.set_cons_succ, List.getElem_toArray, List.getElem_cons_zero, List.getElem_cons_succ]
          refine AnyT.takeA (i := 2) (v := ?_) rfl (by kernel_rfl) (by kernel_rfl) (by kernel_rfl) (fun _ _ _ h => h) (Or.inl ⟨by rfl, ?_⟩) ?_
          rotate_left 1
          · (intro w0 _; go_simp; try with_reducible rfl)
          try simp only [Act.put, List.setIfInBounds_toArray, List.set_cons_zero, List.set_cons_succ, List.getElem_toArray, List.getElem_cons_zero, List.getElem_cons_succ]
          refine AnyT.takeA (i := 3) (v := ?_) rfl (by kernel_rfl) (by kernel_rfl) (by kernel_rfl) (fun _ _ _ h => h) (Or.inl ⟨by rfl, ?_⟩) ?_
          rotate_left 1
          · (intro w0 _; go_simp; try with_reducible rfl)
          try simp only [Act.put, List.setIfInBounds_toArray, List.set_cons_zero, List.set_cons_succ, List.getElem_toArray, List.getElem_cons_zero, List.getElem_cons_succ]
          refine AnyT.take (i := 4) (v := ?_) rfl (by kernel_rfl) (by kernel_rfl) (by kernel_rfl) (by kernel_rfl) (fun _ _ _ h => h) (Or.inl ⟨by rfl, ?_⟩) (by assumption) ?_
          rotate_left 1
          · (intro w0 hSw; (try dsimp only at hSw); go_simp; try with_reducible rfl)
          try simp only [Act.put, List.setIfInBounds_toArray, List.set_cons_zero, List.set_cons_succ, List.getElem_toArray, List.getElem_cons_zero, List.getElem_cons_succ]
          refine AnyT.take (i := 5) (v := ?_) rfl (by kernel_rfl) (by kernel_rfl) (by kernel_rfl) (by kernel_rfl) (fun _ _ _ h => h) (Or.inl ⟨by rfl, ?_⟩) (by assumption) ?_
          rotate_left 1
          · (intro w0 hSw; (try dsimp only at hSw); go_simp; try with_reducible rfl)
          try simp only [Act.put, List.setIfInBounds_toArray, List.set_cons_zero, List.set_cons_succ, List.getElem_toArray, List.getElem_cons_zero, List.getElem_cons_succ]
          refine AnyT.call (i := 6) (by kernel_rfl) rfl (fun K hK => ?_)
          try simp only [Act.put, List.setIfInBounds_toArray, List.set_cons_zero, List.set_cons_succ, List.getElem_toArray, List.getElem_cons_zero, List.getElem_cons_succ]
          rw [if_pos (by rfl)]
          go_simp
          refine hK.out _ _ (fun _ _ => ?_) (fun hKeep => ?_)
          · exact ⟨compImpl.keep_alloc hHeld.1, compImpl.keep_alloc hHeld.2⟩
          replace hHeld := hKeep (by rfl) hHeld
          clear hK K hKeep
          try simp only [Act.put, List.setIfInBounds_toArray, List.set_cons_zero, List.set_cons_succ, List.getElem_toArray, List.getElem_cons_zero, List.getElem_cons_succ]
          refine AnyT.call (i := 7) (by kernel_rfl) rfl (fun K hK => ?_)
          refine stepS1Z rfl _ _ rfl (g + 1) w.heap.size D dn dc (T.map cat) (by simp [Act.eval]) HOA.out w2.heap.size 1 (.slice O on oc) (u ++ v) (by simp [Act.eval]) (show (w2.alloc (.cells #[.slice O on oc] 24)).drew.cell? ⟨w2.heap.size, 0, none⟩ = _ from compImpl.cell_top rfl) HIN.out (by omega) (by omega) (by simp; omega) _ rfl ?_
          intro g' c' w8 ho8 hg8 hat8 hb8 hc8
          have r8 := HRA.out w8 hg8
          have e6 : w8.cell? ⟨g, 6, none⟩ = some (.slice D dn dc) := r8.cell 6
          have fr6 : w8.frozen? ⟨g, 6, none⟩ = false := r8.free 6
          refine hK.out _ _ (fun _ _ => ?_) (fun hKeep => ?_)
          · exact ⟨e6, Row.cell (Row.away HRP.out hg8 HNP.out) 0⟩
          clear hK K hKeep hHeld
          try simp only [Act.put, List.setIfInBounds_toArray, List.set_cons_zero, List.set_cons_succ, List.getElem_toArray, List.getElem_cons_zero, List.getElem_cons_succ]
          refine AnyT.call (i := 8) (by kernel_rfl) rfl (fun K hK => ?_)
          try simp only [Act.put, List.setIfInBounds_toArray, List.set_cons_zero, List.set_cons_succ, List.getElem_toArray, List.getElem_cons_zero, List.getElem_cons_succ]
          rw [if_pos (by rfl)]
          go_simp
          refine hK.out _ _ (fun h => by cases h) (fun _ => ?_)
          clear hK K
          try simp only [Act.put, List.setIfInBounds_toArray, List.set_cons_zero, List.set_cons_succ, List.getElem_toArray, List.getElem_cons_zero, List.getElem_cons_succ]
          refine AnyT.call (i := 9) (by kernel_rfl) rfl (fun K hK => ?_)
          try simp only [Act.put, List.setIfInBounds_toArray, List.set_cons_zero, List.set_cons_succ, List.getElem_toArray, List.getElem_cons_zero, List.getElem_cons_succ]
          rw [if_pos (by rfl)]
          go_simp
          refine hK.out _ _ (fun h => by cases h) (fun _ => ?_)
          clear hK K
          try simp only [Act.put, List.setIfInBounds_toArray, List.set_cons_zero, List.set_cons_succ, List.getElem_toArray, List.getElem_cons_zero, List.getElem_cons_succ]
          refine AnyT.call (i := 10) (by kernel_rfl) rfl (fun K hK => ?_)
          try simp only [Act.put, List.setIfInBounds_toArray, List.set_cons_zero, List.set_cons_succ, List.getElem_toArray, List.getElem_cons_zero, List.getElem_cons_succ]
          rw [if_pos (by rfl)]
          go_simp
          refine hK.out _ _ (fun h => by cases h) (fun _ => ?_)
          clear hK K
          try simp only [Act.put, List.setIfInBounds_toArray, List.set_cons_zero, List.set_cons_succ, List.getElem_toArray, List.getElem_cons_zero, List.getElem_cons_succ]
          refine AnyT.done (by kernel_rfl) ?_ _
          go_wp2
          go_ret
          exact FIN.out _ _ _ ho8 hg8 hat8 hb8 hc8
end Go.Proofs.Ytkmhnkljigncmaa.genNext
end

section
/-
  CONTRACT: spec.l5General, whole, by induction on the length of what is read. Conditions: the slices read as lists, the places begin subterms, the lists of the tables are at most 1048576 numbers long. By an AI agent.
-/
namespace Go.Proofs.Ytkmhnkljigncmaa.genMain
open Go.RowKit Go.Proofs.Ytkmhnkljigncmaa.base Go.Proofs.Ytkmhnkljigncmaa.ints Go.Proofs.Ytkmhnkljigncmaa.sig Go.Proofs.Ytkmhnkljigncmaa.cursor Go.Proofs.Ytkmhnkljigncmaa.marks Go.Proofs.Ytkmhnkljigncmaa.app Go.Proofs.Ytkmhnkljigncmaa.appAt Go.Proofs.Ytkmhnkljigncmaa.sym Go.Proofs.Ytkmhnkljigncmaa.segs Go.Proofs.Ytkmhnkljigncmaa.segsHelp Go.Proofs.Ytkmhnkljigncmaa.term Go.Proofs.Ytkmhnkljigncmaa.args Go.Proofs.Ytkmhnkljigncmaa.sub Go.Proofs.Ytkmhnkljigncmaa.look Go.Proofs.Ytkmhnkljigncmaa.plain Go.Proofs.Ytkmhnkljigncmaa.same Go.Proofs.Ytkmhnkljigncmaa.posMath Go.Proofs.Ytkmhnkljigncmaa.unifMath Go.Proofs.Ytkmhnkljigncmaa.genMath Go.Proofs.Ytkmhnkljigncmaa.genPos Go.Proofs.Ytkmhnkljigncmaa.genTab Go.Proofs.Ytkmhnkljigncmaa.appZ Go.Proofs.Ytkmhnkljigncmaa.genSpec Go.Proofs.Ytkmhnkljigncmaa.genRec
set_option maxRecDepth 100000

section
variable {w wr w5 : World} {lo : Nat} {A : Option Addr} {n c : Nat} {sg : List Int} {P : Option Addr} {m : Nat} {a : List Int} {Q : Option Addr} {k : Nat} {b : List Int} {L R : Option Addr} {ln p q : Nat} {T : Tb} {x : Int} {X : Option Addr} {xn xc : Nat} {Y : Option Addr} {yn yc i : Nat} {L' R' : Option Addr} {ln' lc' rc' : Nat} {O : Option Addr} {on oc : Nat} {g : List Int} {T' : Tb}
theorem two_drew (h : Two wr.drew w5 L' R') : Two wr w5 L' R' := ⟨h.os, h.tape, h.output, h.size, h.block⟩
theorem cells (h : Hr w wr lo A n c sg P m a Q k b L R ln p q T x X xn xc Y yn yc i L' R' ln' lc' rc' O on oc g T') (htwo : Two wr w5 L' R') : w5.cell? ⟨w.heap.size, 0, none⟩ = some (.slice A n c) ∧ (∀ b o j, X = some ⟨b, o, none⟩ → w5.cell? ⟨b, j, none⟩ = wr.cell? ⟨b, j, none⟩) ∧ (∀ b o j, Y = some ⟨b, o, none⟩ → w5.cell? ⟨b, j, none⟩ = wr.cell? ⟨b, j, none⟩) := by
  have key : ∀ z t cs, Row wr z t cs → t ≠ 24 → Row w5 z t cs := fun z t cs hr ht => htwo.row hr (fun e => by obtain ⟨cs2, h1⟩ := h.t.rowL _ e; exact Row.ne_ hr h1 ht rfl) (fun e => by obtain ⟨cs2, h1⟩ := h.t.rowR _ e; exact Row.ne_ hr h1 ht rfl)
  refine ⟨(key _ _ _ h.r0 (by decide)).cell 0, fun b o j e => ?_, fun b o j e => ?_⟩
  · obtain ⟨⟨cs, h1⟩, _⟩ := ownRow h.ox b (by rw [e]; rfl)
    rw [(key _ _ _ h1 (by decide)).cell j, h1.cell j]
  · obtain ⟨⟨cs, h1⟩, _⟩ := ownRow h.oy b (by rw [e]; rfl)
    rw [(key _ _ _ h1 (by decide)).cell j, h1.cell j]
theorem upto_len {sg t : List Int} {p k : Nat} : (upto sg t p k).length ≤ argP sg t k (p + 1) - (p + 1) ∧ (upto sg t p k).length ≤ t.length := by
  unfold upto
  rw [List.length_take, List.length_drop]
  omega
end
/-- what the loop's head says -/
def HeadR (w : World) (lo : Nat) (A : Option Addr) (n c : Nat) (sg : List Int) (P : Option Addr) (m : Nat) (a : List Int) (Q : Option Addr) (k : Nat) (b : List Int) (L R : Option Addr) (ln p q : Nat) (T : Tb) (x : Int) (X : Option Addr) (xn xc : Nat) (Y : Option Addr) (yn yc : Nat) (l r o iv : Value) (wr : World) : Prop :=
  ∃ (i : Nat) (L' R' : Option Addr) (ln' lc' rc' : Nat) (O : Option Addr) (on oc : Nat) (g : List Int) (T' : Tb), i ≤ xn ∧ l = .slice L' ln' lc' ∧ r = .slice R' ln' rc' ∧ o = .slice O on oc ∧ iv = .int .i64 i ∧ Hr w wr lo A n c sg P m a Q k b L R ln p q T x X xn xc Y yn yc i L' R' ln' lc' rc' O on oc g T'

set_option maxHeartbeats 4000000 in
theorem l5General (A P Q : Option Addr) (n c m mc k kc lo : Nat) (sg a b : List Int) (hn : n ≤ 1048576) (hm : m ≤ 1048576) (hk : k ≤ 1048576) (hcm : m ≤ mc ∧ mc ≤ 9223372036854775807) (hck : k ≤ kc ∧ kc ≤ 9223372036854775807) (hs : Arities sg) :
    ∀ (N : Nat) (L R : Option Addr) (ln lc rc p q j j' : Nat) (T : Tb) (w : World), Seg w lo A n sg → Seg w lo P m a → Seg w lo Q k b → Tabs w lo L ln lc R rc T → lo ≤ w.heap.size → (∀ x ∈ T, x.1.length ≤ 1048576 ∧ x.2.length ≤ 1048576) → T.length + j ≤ 1048576 → scan sg 1 (a.drop p) = some j → scan sg 1 (b.drop q) = some j' → j ≤ N →
    Calls Try.prog 118 #[.agg #[.slice A n c], .slice P m mc, .int .i64 (p : Int), .slice Q k kc, .int .i64 (q : Int), .slice L ln lc, .slice R ln rc] w (AnsGen sg w lo L R ln T (subL sg a p) (subL sg b q)) := by
  intro N
  induction N with
  | zero =>
    intro L R ln lc rc p q j j' T w h hp hq ht hlo hT hTj hj hj' hN
    obtain ⟨_, e, _⟩ := scan_args hj
    omega
  | succ N IH =>
  intro L R ln lc rc p q j j' T w h hp hq ht hlo hT hTj hj hj' hN
  by_cases hsame : 0 ≤ a.getD p 0 ∧ a.getD p 0 = b.getD q 0
  case neg =>
    have hl := ht.len
    exact apart A P Q L R n c m mc k kc ln lc rc lo p q j j' sg a b T w h hp hq ht hlo hn hm hk hcm hck (by omega) hs hj hj' hT hsame
  obtain ⟨h0, hxy⟩ := hsame
  have la := hp.1
  have lb := hq.1
  obtain ⟨ja, ea, hpm, _, _⟩ := scan_args hj
  obtain ⟨jb, eb, hqk, _, _⟩ := scan_args hj'
  have s2 := scan_le hj
  have s3 := scan_le hj'
  rw [List.length_drop] at s2 s3
  rw [la] at hpm s2
  rw [lb] at hqk s3
  have eN : arN sg b q = arN sg a p := by unfold arN; rw [hxy]
  have GD := Lib.hid (fun g T' (e : Ga sg a b p q T (arN sg a p) g T') => ga_done hj hj' h0 hxy e)
  obtain ⟨W, hW⟩ : ∃ W, W = w.alloc (.cells #[.slice A n c] 26) := ⟨_, rfl⟩
  have G0 : Gw w W lo A n c sg P m a Q k b L ln lc R rc T := by rw [hW]; exact Gw.start h hp hq ht hlo
  have T0 := Lib.hid ht
  have LP := Lib.hid (fun w' (G : Gw w w' lo A n c sg P m a Q k b L ln lc R rc T) => l1Args A P n c m mc sg a p _ w' (G.s.more G.low) (G.pa.more G.low) hn hm hs hpm hj (by omega))
  have LQ := Lib.hid (fun w' (G : Gw w w' lo A n c sg P m a Q k b L ln lc R rc T) => l1Args A Q n c k kc sg b q _ w' (G.s.more G.low) (G.qb.more G.low) hn hk hs hqk hj' (by omega))
  obtain ⟨b1, o1, x, hPe, hb1, hx, ex⟩ := G0.pa.spot hpm
  obtain ⟨b2, o2, y, hQe, hb2, hy, ey⟩ := G0.qb.spot hqk
  have hxy2 : x = y := by rw [← ex.out, ← ey.out]; exact hxy
  rw [ex.out] at h0
  have EX := Lib.hid ex.out
  subst hxy2
  have hlx : (argsL sg a p).length = arN sg a p := by unfold argsL arN; rw [places_len]
  have hly : (argsL sg b q).length = arN sg a p := by rw [← eN]; unfold argsL arN; rw [places_len]
  have h3 := argsL_len (t := a) hs p
  have HC := Lib.hid (fun (X Y : Option Addr) (xn xc yn yc i : Nat) (L' R' : Option Addr) (ln' lc' rc' : Nat) (O : Option Addr) (on oc : Nat) (g : List Int) (T' : Tb) wr (H : Hr w wr lo A n c sg P m a Q k b L R ln p q T x X xn xc Y yn yc i L' R' ln' lc' rc' O on oc g T') (hi : i < arN sg a p) => by
    obtain ⟨j1, q1, q2, q3⟩ := arg_sub hj hi
    obtain ⟨j2, q4, q5, q6⟩ := arg_sub hj' (by rw [eN]; exact hi)
    have u1 := upto_len (sg := sg) (t := a) (p := p) (k := i)
    have u2 := upto_len (sg := sg) (t := b) (p := q) (k := i)
    have u3 := gs_len H.ga
    have u4 := argP_ge (sg := sg) (t := a) i (p + 1)
    exact IH L' R' ln' lc' rc' (argP sg a i (p + 1)) (argP sg b i (q + 1)) j1 j2 T' wr.drew H.s.drew H.pa.drew H.qb.drew (H.t.next (drewN_below wr 1)) (Nat.le_trans H.le H.two.size) (gs_bnd H.ga hT (by omega) (by omega)) (by omega) q1 q4 (by omega))
  have HPX := Lib.hid (fun i (hi : i < arN sg a p) => (show (argsL sg a p).getD i 0 = (argP sg a i (p + 1) : Int) from places_get hi))
  have HPY := Lib.hid (fun i (hi : i < arN sg a p) => (show (argsL sg b q).getD i 0 = (argP sg b i (q + 1) : Int) from places_get (by rw [← eN] at hi; exact hi)))
  have HPB := Lib.hid (fun i (hi : i < arN sg a p) => (show argP sg a i (p + 1) ≤ 1048576 ∧ argP sg b i (q + 1) ≤ 1048576 from by
    obtain ⟨j1, q1, q2, q3⟩ := arg_sub hj hi
    obtain ⟨j2, q4, q5, q6⟩ := arg_sub hj' (by rw [eN]; exact hi)
    exact ⟨by omega, by omega⟩))
  subst hPe hQe
  have i0 : (0 : Int) ≤ (p : Int) := by omega
  have i1 : (p : Int) < (m : Int) := by omega
  have j0 : (0 : Int) ≤ (q : Int) := by omega
  have j1 : (q : Int) < (k : Int) := by omega
  have HW := Lib.hid hW
  have HTM := Lib.hid (show T.length ≤ 1048576 by omega)
  have har : arN sg a p ≤ 3 := by omega
  generalize hu : subL sg a p = u at *
  generalize hv : subL sg b q = v at *
  have HLA := Lib.hid la
  have HLU : Hid (∀ i, (subL sg a i).length ≤ a.length) := Lib.hid (fun i => by unfold subL; rw [List.length_take, List.length_drop]; omega)
  clear hW h hp hq ht ex ey hT hj hj' s2 s3 hu hv la lb hs IH hxy ea eb hTj hN h3
  have HLX := Lib.hid hlx
  have HLY := Lib.hid hly
  clear hlx hly eN
  generalize arN sg a p = aN at *
  go_enter Try.func118, Try.ntmps118
  go_wp2_with fail
  rw [← HW.out]
  go_quiet (fail)
  have bd := drewN_below W nq
  have G1 := G0.next bd
  have hx1 : (W.drewN nq).cell? ⟨b1, o1 + p, none⟩ = some (.int .i64 x) := hx
  clear G0 hx hy HW bd
  generalize W.drewN nq = w1 at *
  have G1z := Lib.hid G1.bel.size
  have B2 : Below w1.heap.size w1 (w1.alloc (.cells #[.int .i64 x] 2)) := (Below.refl _ _).alloc (Nat.le_refl _) _
  have G2 := G1.next B2
  have O2 := one_own w1 w.heap.size x G1.bel.size
  have c2 : (w1.alloc (.cells #[.int .i64 x] 2)).cell? ⟨w.heap.size, 0, none⟩ = some (.slice A n c) := G2.c0
  have z2 : (w1.alloc (.cells #[.int .i64 x] 2)).heap.size = w1.heap.size + 1 := by simp
  have L2 := Lib.hid (LP.out _ G2)
  clear LP
  go_wp2_with fail
  refine L2.out.mono ?_
  rintro e w3 ⟨X, xn, xc, rfl, ox, bb⟩
  have G3 := G2.next bb
  have O3 := Own.next O2 bb
  have z3 := bb.size
  clear G1 G2 O2 c2 bb L2 hx1 B2
  have c3 := G3.c0
  go_wp2_with fail
  refine (LQ.out w3 G3).mono ?_
  rintro e w4 ⟨Y, yn, yc, rfl, oy, bb⟩
  have G4 := G3.next bb
  have O4 := Own.next O3 bb
  have ox4 := Own.next ox bb
  have hxn : xn = aN := by rw [Own.len ox, HLX.out]
  have hyn : yn = aN := by rw [Own.len oy, HLY.out]
  have gx := (ownRow ox)
  have gy := (ownRow oy)
  have zw := G1z.out
  have z4 := bb.size
  have H0 : Hr w w4 lo A n c sg (some ⟨b1, o1, none⟩) m a (some ⟨b2, o2, none⟩) k b L R ln p q T x X xn xc Y yn yc 0 L R ln lc rc (some ⟨w1.heap.size, 0, none⟩) 1 1 [] T := by
    refine ⟨G4.r0, G4.s, G4.pa, G4.qb, G4.t, G4.le, Two.of_below G4.bel, fun k h _ => h, fun k h _ => h, Own.lower ox4 (by omega), Own.lower oy (by omega), O4, fun z hz e => ?_, fun z hz e => ?_, ga_zero, fun Z hZ a1 a2 => ⟨avSame G4.bel T0.out.l.top a1, avSame G4.bel T0.out.r.top a2⟩, Avoid.fresh (T0.out.l.next G4.bel) (fun z hz => ?_), Avoid.fresh (T0.out.r.next G4.bel) (fun z hz => ?_)⟩
    · have hz : w1.heap.size = z := Option.some.inj hz
      have := (gx z e).2.1
      omega
    · have hz : w1.heap.size = z := Option.some.inj hz
      have := (gy z e).2.1
      omega
    · have hz : w1.heap.size = z := Option.some.inj hz
      omega
    · have hz : w1.heap.size = z := Option.some.inj hz
      omega
  have HS := Lib.hid (show HeadR w lo A n c sg (some ⟨b1, o1, none⟩) m a (some ⟨b2, o2, none⟩) k b L R ln p q T x X xn xc Y yn yc (.slice L ln lc) (.slice R ln rc) (.slice (some ⟨w1.heap.size, 0, none⟩) 1 1) (.int .i64 0) w4 from ⟨0, L, R, ln, lc, rc, _, 1, 1, [], T, Nat.zero_le _, rfl, rfl, rfl, rfl, H0⟩)
  clear H0 G3 G4 O3 O4 ox ox4 oy gx gy bb c3 z2 z3 z4 zw LQ T0 G1z
  go_wp2_with fail
  go_loopw [5, 6, 17, 20] (fun l r o i wr => HeadR w lo A n c sg (some ⟨b1, o1, none⟩) m a (some ⟨b2, o2, none⟩) k b L R ln p q T x X xn xc Y yn yc l r o i wr) (fun _ _ _ i _ => xn - (intOf i).toNat)
  case atStart => exact HS.out
  case round =>
    obtain ⟨i, L', R', ln', lc', rc', O, on, oc, g, T', hi, rfl, rfl, rfl, rfl, H⟩ := hrel
    clear HS
    by_cases hlt : i < xn
    · have i3 : (0 : Int) ≤ (i : Int) := by omega
      have i4 : (i : Int) < (xn : Int) := by omega
      have i5 : (i : Int) < (yn : Int) := by omega
      obtain ⟨bX, oX, vX, hXe, hbX, cX, eX⟩ := (Own.seg H.ox).spot hlt
      obtain ⟨bY, oY, vY, hYe, hbY, cY, eY⟩ := (Own.seg H.oy).spot (k := i) (by omega)
      rw [show vX = (argP sg a i (p + 1) : Int) by rw [← eX.out]; exact HPX.out i (by omega)] at cX
      rw [show vY = (argP sg b i (q + 1) : Int) by rw [← eY.out]; exact HPY.out i (by omega)] at cY
      have CL := Lib.hid (HC.out X Y xn xc yn yc i L' R' ln' lc' rc' O on oc g T' wr H (by omega))
      have c0 : wr.cell? ⟨w.heap.size, 0, none⟩ = some (.slice A n c) := H.r0.cell 0
      have hon : on ≤ 1048577 := by
        have e1 := Own.len H.oo
        have e2 := gs_glen H.ga
        have e3 := (upto_len (sg := sg) (t := a) (p := p) (k := i)).2
        have e4 := HLA.out
        simp only [List.length_cons] at e1
        omega
      have KC := Lib.hid (fun w5 (h : Two wr.drew w5 L' R') => cells H (two_drew h))
      have KO := Lib.hid (fun w5 (h : Two wr.drew w5 L' R') => (two_drew h).own H.oo H.t.rowL H.t.rowR)
      have hzz := H.two.size
      have HH := Lib.hid H
      have hb := HPB.out i (by omega)
      subst hXe hYe
      clear H eX eY
      generalize hpx : argP sg a i (p + 1) = px at *
      generalize hpy : argP sg b i (q + 1) = py at *
      have HPX' := Lib.hid hpx
      have HPY' := Lib.hid hpy
      clear hpx hpy
      go_wp2_with fail
      go_region_held3 (fun w' => w'.cell? ⟨w.heap.size, 0, none⟩ = some (.slice A n c) ∧ w'.cell? ⟨bX, oX + i, none⟩ = some (.int .i64 (px : Int)) ∧ w'.cell? ⟨bY, oY + i, none⟩ = some (.int .i64 (py : Int)))
        (go_keep)
        (first
          | (go_at_call 118; refine CL.out.mono ?_; rintro e w5 ⟨g', T2, O2, L2, R2, on2, oc2, n2, lc2, rc2, rfl, ho2, hgs2, ht2, htwo, hl2, hr2, hav2⟩; have c0' : w5.cell? ⟨w.heap.size, 0, none⟩ = some (.slice A n c) := (KC.out _ htwo).1; have cX' : w5.cell? ⟨bX, oX + i, none⟩ = some (.int .i64 (px : Int)) := ((KC.out _ htwo).2.1 _ _ _ rfl).trans cX; have cY' : w5.cell? ⟨bY, oY + i, none⟩ = some (.int .i64 (py : Int)) := ((KC.out _ htwo).2.2 _ _ _ rfl).trans cY))
      have hgp := gs_pos hgs2
      have hgl := gs_glen hgs2
      have hul := HLU.out px
      have hla := HLA.out
      have e2 := Own.len ho2
      have oo5 := KO.out _ htwo
      have z5 := htwo.size
      have hbase : w.heap.size ≤ w5.heap.size := by
        have e5 : wr.heap.size ≤ w5.heap.size := z5
        omega
      have STEP := Lib.hid (fun (O' : Option Addr) (on' oc' : Nat) w6 (ho6 : Own w6 w.heap.size (.slice O' on' oc') ((x :: g) ++ g')) (hg6 : w5.grownBy w6 (blk O)) (hat6 : blk O' = blk O ∨ blk O' = some w5.heap.size) => HH.out.step (by rw [HPX'.out, HPY'.out]; exact hgs2) ht2 (two_drew htwo) hl2 hr2 hav2 ho6 hg6 hat6)
      clear hgs2 hl2 hr2 hav2 ht2 htwo KC KO HH CL HC c0 c0' cX cX' cY cY'
      go_wp2_with (at_builtin; go_must (refine appAllAt rfl _ _ rfl w.heap.size O on oc (x :: g) rfl oo5 O2 on2 oc2 w5.heap.size g' rfl (Own.seg ho2) (by omega) (by omega) (by omega) hbase ?_; intro O' oc' w6 ho6 hg6 hat6))
      have S := Lib.hid (show HeadR w lo A n c sg (some ⟨b1, o1, none⟩) m a (some ⟨b2, o2, none⟩) k b L R ln p q T x (some ⟨bX, oX, none⟩) xn xc (some ⟨bY, oY, none⟩) yn yc (.slice L2 n2 lc2) (.slice R2 n2 rc2) (.slice O' (on + on2) oc') (.int .i64 ((i : Int) + 1)) w6 from ⟨i + 1, L2, R2, n2, lc2, rc2, O', on + on2, oc', g ++ g', T2, hlt, rfl, rfl, rfl, by simp, STEP.out _ _ _ _ ho6 hg6 hat6⟩)
      clear STEP ho6 hg6 hat6 oo5 ho2
      go_wp2
      go_roundw
      case rel => rw [← e2]; exact S.out
      case measure => simp [intOf]; omega
    · obtain rfl : i = xn := by omega
      have hga := H.ga
      rw [hxn] at hga
      have hgs := GD.out g T' hga
      rw [EX.out] at hgs
      have F := Lib.hid (show AnsGen sg w lo L R ln T u v (.returned (.tuple #[.slice O on oc, .slice L' ln' lc', .slice R' ln' rc'])) wr from ⟨x :: g, T', O, L', R', on, oc, ln', lc', rc', rfl, H.oo, hgs, H.t, H.two, H.hl, H.hr, H.av⟩)
      clear hga hgs H GD HC
      go_wp2
      go_ret3
      exact F.out
end Go.Proofs.Ytkmhnkljigncmaa.genMain
end
