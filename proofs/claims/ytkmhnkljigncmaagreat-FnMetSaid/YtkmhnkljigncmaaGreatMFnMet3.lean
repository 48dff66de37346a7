/-
  MERGED: my texts Shifted, DrawVar, AnsB, SubstOk, Gives, PlainOf, DrawSS, Filled, DrawMatch, EndOf, Inside, Concat, Sym, CurO, Sub, one behind the other, as they are. By an AI agent.
-/
import Derived.Test.YtkmhnkljigncmaaGreatMFnMet2
import Derived.Deep.RegionHeld3
import Derived.Deep.QuietTactic
import Derived.BigQuiet
import Derived.Deep.DeepMust
import Derived.Deep.AppendLies
import Derived.Lib.AppendZeros
import Derived.Deep.LoopGhost
import Derived.WalkSpells
section
/-
  CONTRACTS: spec.Shifted, impl.Shifted and its closure. Conditions: the slices read as lists ('Seg'), at most 1048576 numbers. By an AI agent.
-/
namespace Go.Proofs.YtkmhnkljigncmaaGreat.shifted
open Go.RowKit Go.Proofs.YtkmhnkljigncmaaGreat.base Go.Proofs.YtkmhnkljigncmaaGreat.ints Go.Proofs.YtkmhnkljigncmaaGreat.sig Go.Proofs.YtkmhnkljigncmaaGreat.term Go.Proofs.YtkmhnkljigncmaaGreat.termOk Go.Proofs.YtkmhnkljigncmaaGreat.marks Go.Proofs.YtkmhnkljigncmaaGreat.app Go.Proofs.YtkmhnkljigncmaaGreat.sym Go.Proofs.YtkmhnkljigncmaaGreat.segs Go.Proofs.YtkmhnkljigncmaaGreat.termFacts Go.Proofs.YtkmhnkljigncmaaGreat.varsMath Go.Proofs.YtkmhnkljigncmaaGreat.fillMath Go.Proofs.YtkmhnkljigncmaaGreat.look
set_option maxRecDepth 100000

/-- a list and a bool: the list reads as ys -/
def AnsPairS (w : World) (ys : List Int) (b : Bool) (e : Ending) (w' : World) : Prop := ∃ A n c, e = .returned (.tuple #[.slice A n c, .bool b]) ∧ Seg w' w'.heap.size A n ys ∧ Below w.heap.size w w'
/-- a list and a bool: the list is new -/
def AnsPairO (w : World) (ys : List Int) (b : Bool) (e : Ending) (w' : World) : Prop := ∃ A n c, e = .returned (.tuple #[.slice A n c, .bool b]) ∧ Own w' w.heap.size (.slice A n c) ys ∧ Below w.heap.size w w'

theorem shifted_no {sg t : List Int} {k : Int} (h : termOkB sg t = false ∨ ¬ (0 ≤ k ∧ k ≤ 24) ∨ shiftB k t = false) : shiftedB sg t k = false := by
  unfold shiftedB
  rcases h with h | h | h
  · rw [h]; rfl
  · rw [decide_eq_false h, Bool.and_false, Bool.false_and]
  · rw [h, Bool.and_false]
theorem shifted_yes {sg t : List Int} {k : Int} (h1 : termOkB sg t = true) (h2 : 0 ≤ k ∧ k ≤ 24) (h3 : shiftB k t = true) : shiftedB sg t k = true := by unfold shiftedB; rw [h1, h3, decide_eq_true h2]; rfl
theorem pairS_no {w w' : World} {sg t : List Int} {k : Int} {A : Option Addr} {c : Nat} (h : shiftedB sg t k = false) (hb : Below w.heap.size w w') : AnsPairS w (shiftedL sg t k) (shiftedB sg t k) (.returned (.tuple #[.slice A 0 c, .bool false])) w' :=
  ⟨A, 0, c, by rw [h], by unfold shiftedL; rw [if_neg (by rw [h]; simp)]; exact Seg.empty, hb⟩

/-- the head of the loop of spec.Shifted -/
def HeadSh (w : World) (m : Nat) (t : List Int) (k : Int) (out i : Value) (wr : World) : Prop :=
  ∃ (j : Nat) (O : Option Addr) (on oc : Nat), j ≤ m ∧ i = .int .i64 j ∧ out = .slice O on oc ∧ Own wr w.heap.size (.slice O on oc) (shiftL k (t.take j)) ∧ (∀ q, q < j → -24 ≤ sh k (t.getD q 0)) ∧ Below w.heap.size w wr

set_option maxHeartbeats 4000000 in
theorem specShifted (A A' : Option Addr) (n c m c' : Nat) (sg t : List Int) (k : Int) (w : World) (h : Seg w w.heap.size A n sg) (h' : Seg w w.heap.size A' m t) (hn : n ≤ 1048576) (hm : m ≤ 1048576) (_ : -9223372036854775808 ≤ k) (_ : k ≤ 9223372036854775807) :
    Calls Tryz.prog 42 #[.agg #[.slice A n c], .slice A' m c', .int .i64 k] w (AnsPairS w (shiftedL sg t k) (shiftedB sg t k)) := by
  obtain ⟨W, hW⟩ : ∃ W, W = w.alloc (.cells #[.slice A n c] 26) := ⟨_, rfl⟩
  have bel : Below w.heap.size w W := by rw [hW]; exact (Below.refl _ _).alloc (Nat.le_refl _) _
  have s := (h.below bel).more bel.size
  have s' := (h'.below bel).more bel.size
  have HW := Lib.hid hW
  have HL := Lib.hid h'.1
  have L := Lib.hid (specTermOk A A' n c m c' sg t W s s' hn hm)
  clear hW h s
  cases hok : termOkB sg t with
  | false =>
    have HS := Lib.hid hok
    clear hok s' h'
    go_enter Tryz.func42, Tryz.ntmps42
    go_wp2_with fail
    rw [← HW.out]
    refine L.out.mono ?_
    rintro e w1 ⟨he, bb⟩
    rw [HS.out] at he
    subst he
    have F := Lib.hid (pairS_no (A := some ⟨w1.heap.size, 0, none⟩) (c := 0) (shifted_no (k := k) (.inl HS.out)) ((next_trans bel bb).alloc (next_trans bel bb).size (.cells #[] 2)))
    clear bb bel
    go_wp2
    go_ret2
    exact F.out
  | true =>
    have HS := Lib.hid hok
    have HV := Lib.hid (fun x hx => term_mem (x := x) hok hx)
    clear hok s'
    by_cases hk : 0 ≤ k ∧ k ≤ 24
    · go_enter Tryz.func42, Tryz.ntmps42
      go_wp2_with fail
      rw [← HW.out]
      refine L.out.mono ?_
      rintro e w1 ⟨he, bb⟩
      rw [HS.out] at he
      subst he
      replace bel := next_trans bel bb
      clear bb L
      go_wp2_with fail
      refine (inYes _ _ _ _ hk).mono ?_
      rintro e w' ⟨rfl, rfl⟩
      obtain ⟨hk0, hk1⟩ := hk
      have S0 : HeadSh w m t k (.slice (some ⟨w1.heap.size, 0, none⟩) 0 0) (.int .i64 0) (w1.alloc (.cells #[] 2)) := ⟨0, _, 0, 0, Nat.zero_le _, rfl, rfl, by simpa [shiftL] using own_empty w1 w.heap.size bel.size, fun q hq => absurd hq (Nat.not_lt_zero _), bel.alloc bel.size _⟩
      have HS0 := Lib.hid S0
      clear S0 bel
      go_wp2_with fail
      go_loopw [8, 9] (fun out i wr => HeadSh w m t k out i wr) (fun _ i _ => m - (intOf i).toNat)
      case atStart => exact HS0.out
      case round =>
        obtain ⟨j, O, on, oc, hj, rfl, rfl, ho, hlow, hb⟩ := hrel
        have HLOW := Lib.hid hlow
        clear HS0 hlow
        have hon : on ≤ m := by rw [Own.len ho, shift_len]; simp; omega
        by_cases hlt : j < m
        · obtain ⟨b, off, x, rfl, hbb, hx, ex⟩ := h'.spot hlt
          have hx1 : wr.cell? ⟨b, off + j, none⟩ = some (.int .i64 x) := (hb.cell (p := ⟨b, off + j, none⟩) hbb).trans hx
          have hmem : x ∈ t := by
            have hkl : j < t.length := by rw [HL.out]; exact hlt
            have := ex.out
            rw [← this]
            simp [List.getD, hkl]
          have hx24 := HV.out x hmem
          obtain ⟨hxa, hxb⟩ := hx24
          have hsz := hb.size
          have E := Lib.hid (shift_take (k := k) (t := t) (j := j) (by rw [HL.out]; exact hlt) ex.out)
          clear hx h'
          by_cases hneg : x < 0
          · have R : sh k x = x - k := by unfold sh; rw [if_pos hneg]
            by_cases hlo : x - k < -24
            · have F := Lib.hid (pairS_no (A := some ⟨wr.heap.size, 0, none⟩) (c := 0) (shifted_no (sg := sg) (k := k) (.inr (.inr (shiftB_no hmem (by rw [R]; exact hlo))))) (hb.alloc hb.size (.cells #[] 2)))
              clear ho hb ex hmem E R
              go_wp2
              go_ret2
              exact F.out
            · have RH := Lib.hid R
              clear R
              go_wp2_with (at_builtin; refine app1 rfl _ _ rfl w.heap.size O on oc (shiftL k (t.take j)) rfl (Own.alloc ho _) wr.heap.size 1 (x - k) rfl ((Row.new _ _ _).cell 0) (by omega) (by simp; omega) ?_; intro O' oc' w2 ho2 b2)
              have S : HeadSh w m t k (.slice O' (on + 1) oc') (.int .i64 ((j : Int) + 1)) w2 := ⟨j + 1, O', on + 1, oc', hlt, by simp, rfl, by rw [E.out, RH.out]; exact ho2, fun q hq => by
                by_cases e : q = j
                · subst e; rw [ex.out, RH.out]; omega
                · exact HLOW.out q (by omega), (hb.alloc hsz _).trans b2⟩
              replace S := Lib.hid S
              clear ho2 b2 ho hb E ex hmem
              go_wp2
              go_roundw
              case rel => exact S.out
              case measure => simp [intOf]; omega
          · have RH := Lib.hid (show sh k x = x by unfold sh; rw [if_neg hneg])
            have d1 : decide (x < 0) = false := by simp; omega
            have d2 : decide (x < -24) = false := by simp; omega
            go_wp2_with (at_builtin; refine app1 rfl _ _ rfl w.heap.size O on oc (shiftL k (t.take j)) rfl (Own.alloc ho _) wr.heap.size 1 x rfl ((Row.new _ _ _).cell 0) (by omega) (by simp; omega) ?_; intro O' oc' w2 ho2 b2)
            have S : HeadSh w m t k (.slice O' (on + 1) oc') (.int .i64 ((j : Int) + 1)) w2 := ⟨j + 1, O', on + 1, oc', hlt, by simp, rfl, by rw [E.out, RH.out]; exact ho2, fun q hq => by
              by_cases e : q = j
              · subst e; rw [ex.out, RH.out]; omega
              · exact HLOW.out q (by omega), (hb.alloc hsz _).trans b2⟩
            replace S := Lib.hid S
            clear ho2 b2 ho hb E ex hmem
            go_wp2
            go_roundw
            case rel => exact S.out
            case measure => simp [intOf]; omega
        · have hB : shiftedB sg t k = true := shifted_yes HS.out ⟨hk0, hk1⟩ (shiftB_yes (fun q hq => HLOW.out q (by rw [HL.out] at hq; omega)))
          have F : AnsPairS w (shiftedL sg t k) (shiftedB sg t k) (.returned (.tuple #[.slice O on oc, .bool true])) wr := by
            rw [List.take_of_length_le (by rw [HL.out]; omega)] at ho
            exact ⟨O, on, oc, by rw [hB], by unfold shiftedL; rw [if_pos hB]; exact Own.seg ho, hb⟩
          have HF := Lib.hid F
          clear F ho hb h' hB
          go_wp2
          go_ret2
          exact HF.out
    · go_enter Tryz.func42, Tryz.ntmps42
      go_wp2_with fail
      rw [← HW.out]
      refine L.out.mono ?_
      rintro e w1 ⟨he, bb⟩
      rw [HS.out] at he
      subst he
      replace bel := next_trans bel bb
      clear bb L
      go_wp2_with fail
      refine (inNo _ _ _ _ hk).mono ?_
      rintro e w' ⟨rfl, rfl⟩
      have F := Lib.hid (pairS_no (A := some ⟨w1.heap.size, 0, none⟩) (c := 0) (shifted_no (sg := sg) (t := t) (k := k) (.inr (.inl hk))) (bel.alloc bel.size (.cells #[] 2)))
      clear bel hk
      go_wp2
      go_ret2
      exact F.out

/-- the closure of impl.Shifted -/
theorem lookShift (B : Nat) (k : Int) (w : World) (hr : Row w B 2 #[.int .i64 k]) (h0 : 0 ≤ k) (h1 : k ≤ 24) :
    Looks 55 #[.pointer (some ⟨B, 0, none⟩)] w (fun i => vt (i + k.toNat)) 24 := by
  intro W i hb hi
  have cB : W.cell? ⟨B, 0, none⟩ = some (.int .i64 k) := (hr.next hb).cell 0
  have L := Lib.hid (varTerm ((i : Int) + k) W (by omega) (by omega))
  have E := Lib.hid (show [-1 - ((i : Int) + k)] = vt (i + k.toNat) by unfold vt; rw [show (((i + k.toNat : Nat)) : Int) = (i : Int) + k by omega])
  clear hr hb
  show Calls Tryz.prog 55 #[.int .i64 (i : Int), .pointer (some ⟨B, 0, none⟩)] W _
  go_enter Tryz.func55, Tryz.ntmps55
  go_wp2_with fail
  refine L.out.mono ?_
  rintro e w1 ⟨A, n, c, rfl, ho, bb⟩
  rw [E.out] at ho
  have F : AnsLook w.heap.size W (vt (i + k.toNat)) (.returned (.slice A n c)) w1 := look_new ho bb
  have HF := Lib.hid F
  clear F ho bb L cB
  go_wp2
  go_ret
  exact HF.out

theorem pairO_no {w w' : World} {sg t : List Int} {k : Int} (h : shiftedB sg t k = false) (hb : Below w.heap.size w w') : AnsPairO w (shiftedL sg t k) (shiftedB sg t k) (.returned (.tuple #[.slice none 0 0, .bool false])) w' :=
  ⟨none, 0, 0, by rw [h], by unfold shiftedL; rw [if_neg (by rw [h]; simp)]; exact Own.nil _ _, hb⟩
theorem vt_len (i : Nat) : (vt i).length = 1 := rfl

set_option maxHeartbeats 4000000 in
theorem implShifted (A A' : Option Addr) (n c m c' : Nat) (sg t : List Int) (k : Int) (w : World) (h : Seg w w.heap.size A n sg) (h' : Seg w w.heap.size A' m t) (hn : n ≤ 1048576) (hm : m ≤ 1048576) (_ : -9223372036854775808 ≤ k) (_ : k ≤ 9223372036854775807) :
    Calls Tryz.prog 25 #[.agg #[.slice A n c], .slice A' m c', .int .i64 k] w (AnsPairO w (shiftedL sg t k) (shiftedB sg t k)) := by
  obtain ⟨W, hW⟩ : ∃ W, W = (w.alloc (.cells #[.slice A n c] 26)).alloc (.cells #[.int .i64 k] 2) := ⟨_, rfl⟩
  have rA : Row W w.heap.size 26 #[.slice A n c] := by rw [hW]; have := (Row.new w 26 #[.slice A n c]).alloc (.cells #[.int .i64 k] 2); simpa using this
  have rK : Row W (w.heap.size + 1) 2 #[.int .i64 k] := by rw [hW]; have := Row.new (w.alloc (.cells #[.slice A n c] 26)) 2 #[.int .i64 k]; simpa using this
  have bel : Below w.heap.size w W := by rw [hW]; exact ((Below.refl _ _).alloc (Nat.le_refl _) _).alloc (by simp) _
  have s := (h.below bel).more bel.size
  have s' := (h'.below bel).more bel.size
  have HW := Lib.hid hW
  have HL := Lib.hid h'.1
  have L := Lib.hid (implTermOk A A' n c m c' sg t W s s' hn hm)
  clear hW h h'
  cases hok : termOkB sg t with
  | false =>
    have HS := Lib.hid hok
    clear hok s' s
    go_enter Tryz.func25, Tryz.ntmps25
    go_wp2_with fail
    rw [← HW.out]
    refine L.out.mono ?_
    rintro e w1 ⟨he, bb⟩
    rw [HS.out] at he
    subst he
    have F := Lib.hid (pairO_no (shifted_no (k := k) (.inl HS.out)) (next_trans bel bb))
    clear bb bel rA rK
    go_wp2
    go_ret2
    exact F.out
  | true =>
    have HS := Lib.hid hok
    have HV := Lib.hid (fun x hx => (term_mem (x := x) hok hx).1)
    have H60 : m ≤ 60 := by rw [← HL.out]; exact (term_len hok).2
    clear hok
    by_cases hk : 0 ≤ k ∧ k ≤ 24
    · obtain ⟨hk0, hk1⟩ := hk
      have hmf : ∀ (fn : Fn) (first cap : Array Value) (w : World), (Instr.makeFunc fn first cap).run Tryz.prog w = .ok (.func fn first cap) w := fun _ _ _ _ => rfl
      go_enter Tryz.func25, Tryz.ntmps25
      go_wp2_with fail
      rw [← HW.out]
      refine L.out.mono ?_
      rintro e w1 ⟨he, bb⟩
      rw [HS.out] at he
      subst he
      replace bel := next_trans bel bb
      replace rA := rA.next bb
      replace rK := rK.next bb
      replace s := s.next bb
      replace s' := s'.next bb
      have cK : w1.cell? ⟨w.heap.size + 1, 0, none⟩ = some (.int .i64 k) := rK.cell 0
      have L2 := Lib.hid (fill 55 #[.pointer (some ⟨w.heap.size + 1, 0, none⟩)] (enters_of Tryz.func55 (by kernel_rfl) rfl) A' m c' t _ w1 (lookShift (w.heap.size + 1) k w1 rK hk0 hk1) s' H60 HV.out (fun i => by simp [vt_len]))
      clear bb L s'
      go_wp2_with fail
      refine L2.out.mono ?_
      rintro e w2 ⟨O, on, oc, rfl, ho, bb⟩
      have hsh : fillL (fun i => vt (i + k.toNat)) t = shiftL k t := by rw [shift_fill, show ((k.toNat : Nat) : Int) = k by omega]
      rw [hsh] at ho
      have hon : on ≤ 60 := by rw [Own.len ho, shift_len, HL.out]; exact H60
      replace rA := rA.next bb
      have cA : w2.cell? ⟨w.heap.size, 0, none⟩ = some (.slice A n c) := rA.cell 0
      have L3 := Lib.hid (implTermOk A O n c on oc sg (shiftL k t) w2 (s.next bb) (Own.seg ho) hn (by omega))
      have EO := Lib.hid (show termOkB sg (shiftL k t) = shiftB k t by have := shift_ok (k := k.toNat) HS.out; rw [show ((k.toNat : Nat) : Int) = k by omega] at this; exact this)
      have bel2 := next_trans bel bb
      have ho2 := Own.lower ho (show w.heap.size ≤ w1.heap.size from bel.size)
      clear bb L2 hsh ho rK cK s
      cases hsb : shiftB k t with
      | false =>
        have HB := Lib.hid hsb
        clear hsb
        go_wp2_with fail
        refine L3.out.mono ?_
        rintro e w3 ⟨he, bb⟩
        rw [EO.out, HB.out] at he
        subst he
        have F := Lib.hid (pairO_no (shifted_no (sg := sg) (k := k) (.inr (.inr HB.out))) (next_trans bel2 bb))
        clear bb bel2 bel rA cA ho2 hmf L3
        go_wp2
        go_ret2
        exact F.out
      | true =>
        have HB := Lib.hid hsb
        clear hsb
        go_wp2_with fail
        refine L3.out.mono ?_
        rintro e w3 ⟨he, bb⟩
        rw [EO.out, HB.out] at he
        subst he
        have hB : shiftedB sg t k = true := shifted_yes HS.out ⟨hk0, hk1⟩ HB.out
        have F : AnsPairO w (shiftedL sg t k) (shiftedB sg t k) (.returned (.tuple #[.slice O on oc, .bool true])) w3 := ⟨O, on, oc, by rw [hB], by unfold shiftedL; rw [if_pos hB]; exact ho2.next bb, next_trans bel2 bb⟩
        have HF := Lib.hid F
        clear F bb bel2 bel rA cA ho2 hmf L3 hB
        go_wp2
        go_ret2
        exact HF.out
    · by_cases hk0 : k < 0
      · go_enter Tryz.func25, Tryz.ntmps25
        go_wp2_with fail
        rw [← HW.out]
        refine L.out.mono ?_
        rintro e w1 ⟨he, bb⟩
        rw [HS.out] at he
        subst he
        have cK : w1.cell? ⟨w.heap.size + 1, 0, none⟩ = some (.int .i64 k) := (rK.next bb).cell 0
        have F := Lib.hid (pairO_no (shifted_no (sg := sg) (t := t) (k := k) (.inr (.inl hk))) (next_trans bel bb))
        clear bb bel rA rK hk
        go_wp2
        go_ret2
        exact F.out
      · have hk1 : 24 < k := by omega
        go_enter Tryz.func25, Tryz.ntmps25
        go_wp2_with fail
        rw [← HW.out]
        refine L.out.mono ?_
        rintro e w1 ⟨he, bb⟩
        rw [HS.out] at he
        subst he
        have cK : w1.cell? ⟨w.heap.size + 1, 0, none⟩ = some (.int .i64 k) := (rK.next bb).cell 0
        have F := Lib.hid (pairO_no (shifted_no (sg := sg) (t := t) (k := k) (.inr (.inl hk))) (next_trans bel bb))
        clear bb bel rA rK hk
        go_wp2
        go_ret2
        exact F.out
end Go.Proofs.YtkmhnkljigncmaaGreat.shifted
end

section
/-
  CONTRACT: spec.DrawVariantIn: a drawn signature and two drawn lists. Conditions: at most 4096 bytes. By an AI agent.
-/
namespace Go.Proofs.YtkmhnkljigncmaaGreat.drawVar
open Go.RowKit Go.Proofs.YtkmhnkljigncmaaGreat.base Go.Proofs.YtkmhnkljigncmaaGreat.ints Go.Proofs.YtkmhnkljigncmaaGreat.sig Go.Proofs.YtkmhnkljigncmaaGreat.term Go.Proofs.YtkmhnkljigncmaaGreat.cursor Go.Proofs.YtkmhnkljigncmaaGreat.termOk Go.Proofs.YtkmhnkljigncmaaGreat.marks Go.Proofs.YtkmhnkljigncmaaGreat.app Go.Proofs.YtkmhnkljigncmaaGreat.sym Go.Proofs.YtkmhnkljigncmaaGreat.dice Go.Proofs.YtkmhnkljigncmaaGreat.drawSig Go.Proofs.YtkmhnkljigncmaaGreat.drawTerm Go.Proofs.YtkmhnkljigncmaaGreat.drawAny Go.Proofs.YtkmhnkljigncmaaGreat.drawTwo Go.Proofs.YtkmhnkljigncmaaGreat.drawPair Go.Proofs.YtkmhnkljigncmaaGreat.drawOne Go.Proofs.YtkmhnkljigncmaaGreat.fillMath Go.Proofs.YtkmhnkljigncmaaGreat.shifted

theorem Seg.other {w : World} {B N : Nat} {O : Option Addr} {on : Nat} {xs : List Int} {a : Option Addr} {l k : Nat} (h : Seg w B O on xs) (hN : w.cell? ⟨N, 0, none⟩ = some (.slice a l k)) (u : Value) : Seg (w.setCell ⟨N, 0, none⟩ u) B O on xs :=
  ⟨h.1, fun hn => by
    obtain ⟨b, off, e, hb, hc⟩ := h.2 hn
    refine ⟨b, off, e, hb, fun j hj => ?_⟩
    rw [World.cell?_setCell_other w _ _ _ (fun e => by have := hc j hj; rw [← e, hN] at this; cases this)]
    exact hc j hj⟩

/-- what is known in the course of the draw: the result's box at w.heap.size, the signature's variable at v -/
structure V3 (w : World) (p : Nat) (A : Option Addr) (n c v : Nat) (S : Option Addr) (sn sc : Nat) (sg : List Int) (O : Option Addr) (on : Nat) (xs : List Int) (wr : World) : Prop where
  d : Dice wr p A n c
  rN : Row wr w.heap.size 26 #[.slice none 0 0]
  rV : Row wr v 26 #[.slice S sn sc]
  s : Rd wr p wr.heap.size S sn sg
  o : Rd wr p wr.heap.size O on xs
  b : Below w.heap.size w wr
  hp : w.heap.size < p
  pv : p < v
section
variable {w : World} {p : Nat} {A : Option Addr} {n c v : Nat} {S : Option Addr} {sn sc : Nat} {sg : List Int} {O : Option Addr} {on : Nat} {xs : List Int} {wr w' : World}
theorem V3.dice (t : V3 w p A n c v S sn sc sg O on xs wr) (d : Dice w' p A n c) (hg : wr.grownBy w' (some p)) : V3 w p A n c v S sn sc sg O on xs w' :=
  ⟨d, Row.away t.rN hg (fun e => by injection e; have := t.hp; omega), Row.away t.rV hg (fun e => by injection e; have := t.pv; omega), (t.s.grown hg (Nat.le_refl _)).more hg.size, (t.o.grown hg (Nat.le_refl _)).more hg.size, t.b.grown hg t.b.size (fun k hk => by injection hk; have := t.hp; omega), t.hp, t.pv⟩
theorem V3.next (t : V3 w p A n c v S sn sc sg O on xs wr) (hb : Below wr.heap.size wr w') : V3 w p A n c v S sn sc sg O on xs w' :=
  ⟨t.d.next hb, t.rN.next hb, t.rV.next hb, (t.s.below hb (Nat.le_refl _)).more hb.size, (t.o.below hb (Nat.le_refl _)).more hb.size, next_trans t.b hb, t.hp, t.pv⟩
theorem V3.drew (t : V3 w p A n c v S sn sc sg O on xs wr) : V3 w p A n c v S sn sc sg O on xs wr.drew := t.next ⟨rfl, rfl, rfl, Nat.le_refl _, fun _ _ => rfl⟩
end

/-- a drawn signature and two drawn lists -/
def AnsTri (w : World) (e : Ending) (w' : World) : Prop :=
  ∃ S sn sc sg O on oc xs Q qn qc ys, e = .returned (.tuple #[.agg #[.slice S sn sc], .slice O on oc, .slice Q qn qc]) ∧ Seg w' w'.heap.size S sn sg ∧ Seg w' w'.heap.size O on xs ∧ Seg w' w'.heap.size Q qn ys ∧ sn ≤ 9 ∧ on ≤ 65 ∧ qn ≤ 65 ∧ Below w.heap.size w w'
theorem tri_of {w u : World} {p : Nat} {A : Option Addr} {n c v : Nat} {S : Option Addr} {sn sc : Nat} {sg : List Int} {O : Option Addr} {on oc : Nat} {xs : List Int} {Q : Option Addr} {qn qc : Nat} {ys : List Int} (t : V3 w p A n c v S sn sc sg O on xs u) (hq : Seg u u.heap.size Q qn ys)
    (h1 : sn ≤ 9) (h2 : on ≤ 65) (h3 : qn ≤ 65) : AnsTri w (.returned (.tuple #[.agg #[.slice S sn sc], .slice O on oc, .slice Q qn qc])) (u.setCell ⟨w.heap.size, 0, none⟩ (.slice S sn sc)) :=
  ⟨S, sn, sc, sg, O, on, oc, xs, Q, qn, qc, ys, rfl, (Seg.other t.s.seg (t.rN.cell 0) _).more (by simp), (Seg.other t.o.seg (t.rN.cell 0) _).more (by simp), (Seg.other hq (t.rN.cell 0) _).more (by simp), h1, h2, h3, t.b.setCell (Nat.le_refl _) _⟩

theorem segB_below {w w' : World} {A : Option Addr} {n : Nat} (h : SegB w w.heap.size A n) (hb : Below w.heap.size w w') : SegB w' w'.heap.size A n := fun hp => by
  obtain ⟨b, off, e, hbb, hc⟩ := h hp
  refine ⟨b, off, e, Nat.lt_of_lt_of_le hbb hb.size, fun j hj => ?_⟩
  obtain ⟨x, x0, x1, hx⟩ := hc j hj
  exact ⟨x, x0, x1, (hb.cell (p := ⟨b, off + j, none⟩) hbb).trans hx⟩

end Go.Proofs.YtkmhnkljigncmaaGreat.drawVar
end

section
/-
  WORD: what a contract of a test says: a bool, and that below the call's own blocks nothing has turned. Conditions: none. By an AI agent.
-/
namespace Go.Proofs.YtkmhnkljigncmaaGreat.varsOf
open Go.RowKit Go.Proofs.YtkmhnkljigncmaaGreat.base

def AnsB (w : World) (b : Bool) (e : Ending) (w' : World) : Prop := e = .returned (.bool b) ∧ Below w.heap.size w w'
theorem ansB {w w' : World} {a b : Bool} (h : a = b) (hb : Below w.heap.size w w') : AnsB w b (.returned (.bool a)) w' := ⟨by rw [h], hb⟩
end Go.Proofs.YtkmhnkljigncmaaGreat.varsOf
end

section
/-
  CONTRACTS: spec.SubstOk, impl.SubstOk, spec.l2Gives, impl.lookupIn and what it returns. Conditions: the slices read as lists ('Seg', 'Segs'), at most 1048576 values. By an AI agent.
-/
namespace Go.Proofs.YtkmhnkljigncmaaGreat.substOk
open Go.RowKit Go.Proofs.YtkmhnkljigncmaaGreat.base Go.Proofs.YtkmhnkljigncmaaGreat.ints Go.Proofs.YtkmhnkljigncmaaGreat.sig Go.Proofs.YtkmhnkljigncmaaGreat.term Go.Proofs.YtkmhnkljigncmaaGreat.termOk Go.Proofs.YtkmhnkljigncmaaGreat.marks Go.Proofs.YtkmhnkljigncmaaGreat.app Go.Proofs.YtkmhnkljigncmaaGreat.sym Go.Proofs.YtkmhnkljigncmaaGreat.sub Go.Proofs.YtkmhnkljigncmaaGreat.segs Go.Proofs.YtkmhnkljigncmaaGreat.segsHelp Go.Proofs.YtkmhnkljigncmaaGreat.termFacts Go.Proofs.YtkmhnkljigncmaaGreat.varsMath Go.Proofs.YtkmhnkljigncmaaGreat.varsOf Go.Proofs.YtkmhnkljigncmaaGreat.fillMath Go.Proofs.YtkmhnkljigncmaaGreat.look
set_option maxRecDepth 100000

/-- nothing, or a term -/
def goodB (sg t : List Int) : Bool := decide (t.length = 0) || termOkB sg t
/-- a valid substitution -/
def substOkB (sg : List Int) (ss : List (List Int)) : Bool := sigOkB sg && (decide (ss.length ≤ 24) && ss.all (goodB sg))
theorem substOk_parts {sg : List Int} {ss : List (List Int)} (h : substOkB sg ss = true) : sigOkB sg = true ∧ ss.length ≤ 24 ∧ ∀ j, j < ss.length → goodB sg (ss.getD j []) = true := by
  unfold substOkB at h
  simp only [Bool.and_eq_true, decide_eq_true_eq, List.all_eq_true] at h
  refine ⟨h.1, h.2.1, fun j hj => ?_⟩
  have := h.2.2 (ss[j]) (List.getElem_mem hj)
  simpa [List.getD, hj] using this
theorem subst_sig {sg : List Int} {ss : List (List Int)} (h : sigOkB sg = false) : substOkB sg ss = false := by unfold substOkB; rw [h, Bool.false_and]
theorem subst_long {sg : List Int} {ss : List (List Int)} (h : ¬ ss.length ≤ 24) : substOkB sg ss = false := by unfold substOkB; rw [decide_eq_false h, Bool.false_and, Bool.and_false]
theorem subst_bad {sg : List Int} {ss : List (List Int)} {k : Nat} (hk : k < ss.length) (h : goodB sg (ss.getD k []) = false) : substOkB sg ss = false := by
  have : ss.all (goodB sg) = false := by
    rw [List.all_eq_false]
    refine ⟨ss[k], List.getElem_mem hk, ?_⟩
    have e : ss.getD k [] = ss[k] := by simp [List.getD, hk]
    rw [e] at h
    simp [h]
  unfold substOkB
  rw [this, Bool.and_false, Bool.and_false]
theorem subst_good {sg : List Int} {ss : List (List Int)} (h : sigOkB sg = true) (hl : ss.length ≤ 24) (hg : ∀ j, j < ss.length → goodB sg (ss.getD j []) = true) : substOkB sg ss = true := by
  have : ss.all (goodB sg) = true := by
    rw [List.all_eq_true]
    intro x hx
    obtain ⟨j, hj, rfl⟩ := List.getElem_of_mem hx
    have := hg j hj
    simpa [List.getD, hj] using this
  unfold substOkB
  rw [this, h, decide_eq_true hl]
  rfl

/-- the first k elements are good -/
def HeadSO (w : World) (A : Option Addr) (n c : Nat) (S : Option Addr) (m c' : Nat) (sg : List Int) (ss : List (List Int)) (i : Value) (wr : World) : Prop :=
  ∃ k : Nat, k ≤ m ∧ i = .int .i64 k ∧ (∀ j, j < k → goodB sg (ss.getD j []) = true) ∧ Row wr w.heap.size 26 #[.slice A n c] ∧ Row wr (w.heap.size + 1) 35 #[.slice S m c'] ∧ Below w.heap.size w wr
theorem headSO_step {w wr : World} {A : Option Addr} {n c : Nat} {S : Option Addr} {m c' : Nat} {sg : List Int} {ss : List (List Int)} {k : Nat} (hk : k < m) (hlow : ∀ j, j < k → goodB sg (ss.getD j []) = true) (hg : goodB sg (ss.getD k []) = true)
    (r1 : Row wr w.heap.size 26 #[.slice A n c]) (r2 : Row wr (w.heap.size + 1) 35 #[.slice S m c']) (hb : Below w.heap.size w wr) : HeadSO w A n c S m c' sg ss (.int .i64 ((k : Int) + 1)) wr :=
  ⟨k + 1, hk, by simp, fun j hj => by
    by_cases e : j = k
    · subst e; exact hg
    · exact hlow j (by omega), r1, r2, hb⟩

/-- the two boxes of the parameters -/
theorem boxes2 (w : World) (A : Option Addr) (n c : Nat) (S : Option Addr) (m c' : Nat) : ∃ W, W = (w.alloc (.cells #[.slice A n c] 26)).alloc (.cells #[.slice S m c'] 35) ∧
    Row W w.heap.size 26 #[.slice A n c] ∧ Row W (w.heap.size + 1) 35 #[.slice S m c'] ∧ Below w.heap.size w W := by
  refine ⟨_, rfl, ?_, ?_, ?_⟩
  · have := (Row.new w 26 #[.slice A n c]).alloc (.cells #[.slice S m c'] 35)
    simpa using this
  · have := Row.new (w.alloc (.cells #[.slice A n c] 26)) 35 #[.slice S m c']
    simpa using this
  · exact ((Below.refl _ _).alloc (Nat.le_refl _) _).alloc (by simp) _

set_option maxHeartbeats 4000000 in
theorem specSubstOk (A S : Option Addr) (n c m c' : Nat) (sg : List Int) (ss : List (List Int)) (w : World) (h : Seg w w.heap.size A n sg) (h' : Segs w w.heap.size S m ss) (hn : n ≤ 1048576) (ht : tot ss ≤ 1048576) :
    Calls Tryz.prog 65 #[.agg #[.slice A n c], .agg #[.slice S m c']] w (AnsB w (substOkB sg ss)) := by
  obtain ⟨W, hW, rA, rS, bel⟩ := boxes2 w A n c S m c'
  have HW := Lib.hid hW
  have HL := Lib.hid h'.1
  have hm : m ≤ 1048576 := tot_len h'.1 ht
  have HT := Lib.hid (tot_each ht)
  have L := Lib.hid (specSigOk A n c sg W (h.next bel) hn)
  have cS : W.cell? ⟨w.heap.size + 1, 0, none⟩ = some (.slice S m c') := rS.cell 0
  clear hW ht
  cases hsig : sigOkB sg with
  | false =>
    have HS := Lib.hid hsig
    clear hsig h h'
    go_enter Tryz.func65, Tryz.ntmps65
    go_wp2_with fail
    rw [← HW.out]
    refine L.out.mono ?_
    rintro e w1 ⟨he, bb⟩
    rw [HS.out] at he
    subst he
    have F := Lib.hid (ansB (b := substOkB sg ss) (a := false) (by rw [subst_sig HS.out]) (next_trans bel bb))
    clear bb bel rA rS cS
    go_wp2
    go_ret
    exact F.out
  | true =>
    have HS := Lib.hid hsig
    clear hsig
    by_cases h24 : m ≤ 24
    · go_enter Tryz.func65, Tryz.ntmps65
      go_wp2_with fail
      rw [← HW.out]
      refine L.out.mono ?_
      rintro e w1 ⟨he, bb⟩
      rw [HS.out] at he
      subst he
      have H0 : HeadSO w A n c S m c' sg ss (.int .i64 0) w1 := ⟨0, Nat.zero_le _, rfl, fun j hj => absurd hj (Nat.not_lt_zero _), rA.next bb, rS.next bb, next_trans bel bb⟩
      have HH := Lib.hid H0
      have cS1 : w1.cell? ⟨w.heap.size + 1, 0, none⟩ = some (.slice S m c') := (rS.next bb).cell 0
      clear H0 bb bel rA rS cS L
      go_wp2_with fail
      go_loopw [5] (fun i wr => HeadSO w A n c S m c' sg ss i wr) (fun i _ => m - (intOf i).toNat)
      case atStart => exact HH.out
      case round =>
        obtain ⟨k, hk, rfl, hlow, r1, r2, hb⟩ := hrel
        have HLOW := Lib.hid hlow
        clear hlow HH cS1
        have cS : wr.cell? ⟨w.heap.size + 1, 0, none⟩ = some (.slice S m c') := r2.cell 0
        have cA : wr.cell? ⟨w.heap.size, 0, none⟩ = some (.slice A n c) := r1.cell 0
        by_cases hlt : k < m
        · obtain ⟨b, off, A', n', cc, rfl, hbB, hx, hseg, hcap⟩ := h'.spot hlt
          have hx1 : wr.cell? ⟨b, off + k, none⟩ = some (.slice A' n' cc) := (hb.cell (p := ⟨b, off + k, none⟩) hbB).trans hx
          have hn' : n' ≤ 1048576 := by rw [← hseg.1]; exact HT.out k
          have HG := Lib.hid hseg.1
          have i0 : (0 : Int) ≤ (k : Int) := by omega
          have i1 : (k : Int) < (m : Int) := by omega
          have hbr : b < wr.heap.size := Nat.lt_of_lt_of_le hbB hb.size
          have r1d := r1.drew
          have r2d := r2.drew
          have hbd := hb.drew
          by_cases hz : n' = 0
          · subst hz
            have S1 : ∀ d : Nat, HeadSO w A n c (some ⟨b, off, none⟩) m c' sg ss (.int .i64 ((k : Int) + 1)) (wr.drewN d) := fun d => headSO_step hlt HLOW.out (by unfold goodB; rw [HG.out]; rfl) (r1.drewN d) (r2.drewN d) (below_drewN hb d)
            have HS1 := Lib.hid S1
            clear S1 r1 r2 hb hx hseg hcap r1d r2d hbd h h'
            go_wp2_with fail
            go_quiet (fail)
            go_wp2
            go_roundw
            case rel => exact HS1.out _
            case measure => simp [intOf]; omega
          · have hpos : 0 < n' := by omega
            have i2 : (0 : Int) < (n' : Int) := by omega
            have LT := Lib.hid (specTermOk A A' n c n' cc sg (ss.getD k []) wr.drew ((h.next hb).drew) (((hseg.below hb).more hb.size).drew) hn hn')
            have hne1 := World.new_ne wr _ cS
            cases hok : termOkB sg (ss.getD k []) with
            | false =>
              have HO := Lib.hid hok
              clear hok hx hseg hcap h h' r1 r2 hb
              go_wp2_with fail
              go_region_held3 (fun w' => w'.cell? ⟨w.heap.size + 1, 0, none⟩ = some (.slice (some ⟨b, off, none⟩) m c') ∧ w'.cell? ⟨w.heap.size, 0, none⟩ = some (.slice A n c) ∧ w'.cell? ⟨b, off + k, none⟩ = some (.slice A' n' cc))
                (go_keep)
                (first
                  | (go_at_call 23; refine LT.out.mono ?_; rintro e w2 ⟨he, bb⟩; rw [HO.out] at he; subst he; have cA2 : w2.cell? ⟨w.heap.size, 0, none⟩ = some (.slice A n c) := (r1d.next bb).cell 0; have cS2 : w2.cell? ⟨w.heap.size + 1, 0, none⟩ = some (.slice (some ⟨b, off, none⟩) m c') := (r2d.next bb).cell 0; have cX2 : w2.cell? ⟨b, off + k, none⟩ = some (.slice A' n' cc) := (bb.cell (p := ⟨b, off + k, none⟩) hbr).trans hx1; have F := Lib.hid (ansB (b := substOkB sg ss) (a := false) (by rw [subst_bad (k := k) (by rw [HL.out]; exact hlt) (by unfold goodB; rw [HO.out, HG.out]; simp; omega)]) (next_trans hbd bb))))
              clear r1d r2d hbd LT cA2 cS2 cX2 hx1 cA cS
              go_wp2
              go_ret
              exact F.out
            | true =>
              have HO := Lib.hid hok
              clear hok hx hseg hcap h h' r1 r2 hb
              go_wp2_with fail
              go_region_held3 (fun w' => w'.cell? ⟨w.heap.size + 1, 0, none⟩ = some (.slice (some ⟨b, off, none⟩) m c') ∧ w'.cell? ⟨w.heap.size, 0, none⟩ = some (.slice A n c) ∧ w'.cell? ⟨b, off + k, none⟩ = some (.slice A' n' cc))
                (go_keep)
                (first
                  | (go_at_call 23; refine LT.out.mono ?_; rintro e w2 ⟨he, bb⟩; rw [HO.out] at he; subst he; have cA2 : w2.cell? ⟨w.heap.size, 0, none⟩ = some (.slice A n c) := (r1d.next bb).cell 0; have cS2 : w2.cell? ⟨w.heap.size + 1, 0, none⟩ = some (.slice (some ⟨b, off, none⟩) m c') := (r2d.next bb).cell 0; have cX2 : w2.cell? ⟨b, off + k, none⟩ = some (.slice A' n' cc) := (bb.cell (p := ⟨b, off + k, none⟩) hbr).trans hx1; have F := Lib.hid (headSO_step (sg := sg) (ss := ss) hlt HLOW.out (by unfold goodB; rw [HO.out, Bool.or_true]) (r1d.next bb) (r2d.next bb) (next_trans hbd bb))))
              clear r1d r2d hbd LT cA2 cS2 cX2 hx1 cA cS
              go_wp2
              go_roundw
              case rel => exact F.out
              case measure => simp [intOf]; omega
        · have F := Lib.hid (ansB (b := substOkB sg ss) (a := true) (by rw [subst_good HS.out (by rw [HL.out]; exact h24) (fun j hj => HLOW.out j (by rw [HL.out] at hj; omega))]) hb)
          clear r1 r2 hb h h'
          go_wp2
          go_ret
          exact F.out
    · have i1 : (24 : Int) < (m : Int) := by omega
      go_enter Tryz.func65, Tryz.ntmps65
      go_wp2_with fail
      rw [← HW.out]
      refine L.out.mono ?_
      rintro e w1 ⟨he, bb⟩
      rw [HS.out] at he
      subst he
      have cS1 : w1.cell? ⟨w.heap.size + 1, 0, none⟩ = some (.slice S m c') := (rS.next bb).cell 0
      have F := Lib.hid (ansB (b := substOkB sg ss) (a := false) (by rw [subst_long (by rw [HL.out]; exact h24)]) (next_trans bel bb))
      clear bb bel rA rS cS h h' L
      go_wp2
      go_ret
      exact F.out
end Go.Proofs.YtkmhnkljigncmaaGreat.substOk
end

section
/-
  CONTRACTS: impl.SubstOk, spec.l2Gives, impl.lookupIn and what it returns, impl.tooLong. Conditions: the slices read as lists ('Seg', 'Segs'), at most 1048576 values. By an AI agent.
-/
namespace Go.Proofs.YtkmhnkljigncmaaGreat.gives
open Go.RowKit Go.Proofs.YtkmhnkljigncmaaGreat.base Go.Proofs.YtkmhnkljigncmaaGreat.ints Go.Proofs.YtkmhnkljigncmaaGreat.sig Go.Proofs.YtkmhnkljigncmaaGreat.term Go.Proofs.YtkmhnkljigncmaaGreat.termOk Go.Proofs.YtkmhnkljigncmaaGreat.marks Go.Proofs.YtkmhnkljigncmaaGreat.app Go.Proofs.YtkmhnkljigncmaaGreat.sym Go.Proofs.YtkmhnkljigncmaaGreat.sub Go.Proofs.YtkmhnkljigncmaaGreat.segs Go.Proofs.YtkmhnkljigncmaaGreat.segsHelp Go.Proofs.YtkmhnkljigncmaaGreat.termFacts Go.Proofs.YtkmhnkljigncmaaGreat.varsMath Go.Proofs.YtkmhnkljigncmaaGreat.varsOf Go.Proofs.YtkmhnkljigncmaaGreat.fillMath Go.Proofs.YtkmhnkljigncmaaGreat.look Go.Proofs.YtkmhnkljigncmaaGreat.substOk
set_option maxRecDepth 100000

set_option maxHeartbeats 4000000 in
theorem implSubstOk (A S : Option Addr) (n c m c' : Nat) (sg : List Int) (ss : List (List Int)) (w : World) (h : Seg w w.heap.size A n sg) (h' : Segs w w.heap.size S m ss) (hn : n ≤ 1048576) (ht : tot ss ≤ 1048576) :
    Calls Tryz.prog 39 #[.agg #[.slice A n c], .agg #[.slice S m c']] w (AnsB w (substOkB sg ss)) := by
  obtain ⟨W, hW, rA, rS, bel⟩ := boxes2 w A n c S m c'
  have HW := Lib.hid hW
  have HL := Lib.hid h'.1
  have hm : m ≤ 1048576 := tot_len h'.1 ht
  have HT := Lib.hid (tot_each ht)
  have L := Lib.hid (implSigOk A n c sg W (h.next bel) hn)
  have cS : W.cell? ⟨w.heap.size + 1, 0, none⟩ = some (.slice S m c') := rS.cell 0
  clear hW ht
  cases hsig : sigOkB sg with
  | false =>
    have HS := Lib.hid hsig
    clear hsig h h'
    go_enter Tryz.func39, Tryz.ntmps39
    go_wp2_with fail
    rw [← HW.out]
    refine L.out.mono ?_
    rintro e w1 ⟨he, bb⟩
    rw [HS.out] at he
    subst he
    have F := Lib.hid (ansB (b := substOkB sg ss) (a := false) (by rw [subst_sig HS.out]) (next_trans bel bb))
    clear bb bel rA rS cS
    go_wp2
    go_ret
    exact F.out
  | true =>
    have HS := Lib.hid hsig
    clear hsig
    by_cases h24 : m ≤ 24
    · go_enter Tryz.func39, Tryz.ntmps39
      go_wp2_with fail
      rw [← HW.out]
      refine L.out.mono ?_
      rintro e w1 ⟨he, bb⟩
      rw [HS.out] at he
      subst he
      have H0 : HeadSO w A n c S m c' sg ss (.int .i64 0) w1 := ⟨0, Nat.zero_le _, rfl, fun j hj => absurd hj (Nat.not_lt_zero _), rA.next bb, rS.next bb, next_trans bel bb⟩
      have HH := Lib.hid H0
      have cS1 : w1.cell? ⟨w.heap.size + 1, 0, none⟩ = some (.slice S m c') := (rS.next bb).cell 0
      clear H0 bb bel rA rS cS L
      go_wp2_with fail
      go_loopw [19] (fun i wr => HeadSO w A n c S m c' sg ss i wr) (fun i _ => m - (intOf i).toNat)
      case atStart => exact HH.out
      case round =>
        obtain ⟨k, hk, rfl, hlow, r1, r2, hb⟩ := hrel
        have HLOW := Lib.hid hlow
        clear hlow HH cS1
        have cA : wr.cell? ⟨w.heap.size, 0, none⟩ = some (.slice A n c) := r1.cell 0
        by_cases hlt : k < m
        · obtain ⟨b, off, A', n', cc, rfl, hbB, hx, hseg, hcap⟩ := h'.spot hlt
          have hx1 : wr.cell? ⟨b, off + k, none⟩ = some (.slice A' n' cc) := (hb.cell (p := ⟨b, off + k, none⟩) hbB).trans hx
          have hn' : n' ≤ 1048576 := by rw [← hseg.1]; exact HT.out k
          have HG := Lib.hid hseg.1
          by_cases hz : n' = 0
          · subst hz
            have S1 : HeadSO w A n c (some ⟨b, off, none⟩) m c' sg ss (.int .i64 ((k : Int) + 1)) wr := headSO_step hlt HLOW.out (by unfold goodB; rw [HG.out]; rfl) r1 r2 hb
            have HS1 := Lib.hid S1
            clear S1 r1 r2 hb hx hseg hcap h h'
            go_wp2
            go_roundw
            case rel => exact HS1.out
            case measure => simp [intOf]; omega
          · have hpos : 0 < n' := by omega
            have LT := Lib.hid (implTermOk A A' n c n' cc sg (ss.getD k []) wr (h.next hb) ((hseg.below hb).more hb.size) hn hn')
            cases hok : termOkB sg (ss.getD k []) with
            | false =>
              have HO := Lib.hid hok
              clear hok hx hseg hcap h h'
              go_wp2_with fail
              refine LT.out.mono ?_
              rintro e w2 ⟨he, bb⟩
              rw [HO.out] at he
              subst he
              have F := Lib.hid (ansB (b := substOkB sg ss) (a := false) (by rw [subst_bad (k := k) (by rw [HL.out]; exact hlt) (by unfold goodB; rw [HO.out, HG.out]; simp; omega)]) (next_trans hb bb))
              clear r1 r2 hb LT hx1 cA bb
              go_wp2
              go_ret
              exact F.out
            | true =>
              have HO := Lib.hid hok
              clear hok hx hseg hcap h h'
              go_wp2_with fail
              refine LT.out.mono ?_
              rintro e w2 ⟨he, bb⟩
              rw [HO.out] at he
              subst he
              have F := Lib.hid (headSO_step (sg := sg) (ss := ss) hlt HLOW.out (by unfold goodB; rw [HO.out, Bool.or_true]) (r1.next bb) (r2.next bb) (next_trans hb bb))
              clear r1 r2 hb LT hx1 cA bb
              go_wp2
              go_roundw
              case rel => exact F.out
              case measure => simp [intOf]; omega
        · have F := Lib.hid (ansB (b := substOkB sg ss) (a := true) (by rw [subst_good HS.out (by rw [HL.out]; exact h24) (fun j hj => HLOW.out j (by rw [HL.out] at hj; omega))]) hb)
          clear r1 r2 hb h h'
          go_wp2
          go_ret
          exact F.out
    · have i1 : (24 : Int) < (m : Int) := by omega
      go_enter Tryz.func39, Tryz.ntmps39
      go_wp2_with fail
      rw [← HW.out]
      refine L.out.mono ?_
      rintro e w1 ⟨he, bb⟩
      rw [HS.out] at he
      subst he
      have cS1 : w1.cell? ⟨w.heap.size + 1, 0, none⟩ = some (.slice S m c') := (rS.next bb).cell 0
      have F := Lib.hid (ansB (b := substOkB sg ss) (a := false) (by rw [subst_long (by rw [HL.out]; exact h24)]) (next_trans bel bb))
      clear bb bel rA rS cS h h' L
      go_wp2
      go_ret
      exact F.out

/-! ### what a substitution gives for a variable -/
def givesL (ss : List (List Int)) (i : Nat) : List Int := if (ss.getD i []).length = 0 then vt i else ss.getD i []
theorem gives_var {ss : List (List Int)} {i : Nat} (h : (ss.getD i []).length = 0) : givesL ss i = vt i := by unfold givesL; rw [if_pos h]
theorem gives_term {ss : List (List Int)} {i : Nat} (h : ¬ (ss.getD i []).length = 0) : givesL ss i = ss.getD i [] := by unfold givesL; rw [if_neg h]
theorem gives_out {ss : List (List Int)} {i : Nat} (h : ¬ i < ss.length) : givesL ss i = vt i := gives_var (by simp [List.getD, h])
theorem gives_ok {sg : List Int} {ss : List (List Int)} (h : substOkB sg ss = true) {i : Nat} (hi : i < 24) : termOkB sg (givesL ss i) = true := by
  obtain ⟨h1, h2, h3⟩ := substOk_parts h
  by_cases hl : i < ss.length
  · have h4 := h3 i hl
    by_cases hz : (ss.getD i []).length = 0
    · rw [gives_var hz]; exact var_term h1 hi
    · rw [gives_term hz]
      unfold goodB at h4
      rw [decide_eq_false hz, Bool.false_or] at h4
      exact h4
  · rw [gives_out hl]; exact var_term h1 hi
theorem gives_len {sg : List Int} {ss : List (List Int)} (h : substOkB sg ss = true) (i : Nat) : (givesL ss i).length ≤ 60 := by
  by_cases hi : i < ss.length
  · have h2 := (substOk_parts h).2.1
    exact (term_len (gives_ok h (show i < 24 by omega))).2
  · rw [gives_out hi]; simp [vt]
theorem gives_pos (ss : List (List Int)) (i : Nat) : 1 ≤ (givesL ss i).length := by
  unfold givesL
  split
  · simp [vt]
  · omega

set_option maxHeartbeats 2000000 in
theorem l2Gives (S : Option Addr) (m c : Nat) (ss : List (List Int)) (i : Nat) (w : World) (h : Segs w w.heap.size S m ss) (ht : tot ss ≤ 1048576) (hi : i ≤ 1048576) :
    Calls Tryz.prog 44 #[.agg #[.slice S m c], .int .i64 (i : Int)] w (AnsList w (givesL ss i)) := by
  have hm : m ≤ 1048576 := tot_len h.1 ht
  have HT := Lib.hid (tot_each ht)
  have HL := Lib.hid h.1
  clear ht
  have bel : Below w.heap.size w (w.alloc (.cells #[.slice S m c] 35)) := (Below.refl _ _).alloc (Nat.le_refl _) _
  have i0 : (0 : Int) ≤ (i : Int) := by omega
  have var : ∀ (hv : givesL ss i = vt i), AnsList w (givesL ss i) (.returned (.slice (some ⟨w.heap.size + 1, 0, none⟩) 1 1)) ((w.alloc (.cells #[.slice S m c] 35)).alloc (.cells #[.int .i64 (-1 - (i : Int))] 2)) := fun hv => by
    refine ⟨_, 1, 1, rfl, ?_, bel.alloc (by simp) _⟩
    rw [hv]
    have := Own.of_row (base := w.heap.size) (n := 1) (c := 1) (xs := vt i) (Row.new (w.alloc (.cells #[.slice S m c] 35)) 2 #[.int .i64 (-1 - (i : Int))]) rfl rfl (Nat.le_refl _) (by omega) (by simp) (fun j hj => by
      have e : j = 0 := by omega
      subst e
      rfl)
    simpa using this
  have VAR := Lib.hid var
  clear var
  by_cases hlt : i < m
  · obtain ⟨b, off, A', n', cc, rfl, hbB, hx, hseg, hcap⟩ := h.spot hlt
    have hx1 : (w.alloc (.cells #[.slice (some ⟨b, off, none⟩) m c] 35)).cell? ⟨b, off + i, none⟩ = some (.slice A' n' cc) := (bel.cell (p := ⟨b, off + i, none⟩) hbB).trans hx
    by_cases hz : n' = 0
    · subst hz
      have F := Lib.hid (VAR.out (gives_var hseg.1))
      clear h hseg hcap hx bel VAR
      go_enter Tryz.func44, Tryz.ntmps44
      go_wp2
      go_ret
      exact F.out
    · have hpos : 0 < n' := by omega
      have E := Lib.hid (gives_term (ss := ss) (i := i) (by rw [hseg.1]; exact hz))
      have L := Lib.hid (copyInts A' n' cc _ _ ((hseg.below bel).more bel.size) hcap.2.2 (by rw [← hseg.1]; exact HT.out i))
      clear h hseg hcap hx VAR
      go_enter Tryz.func44, Tryz.ntmps44
      go_wp2_with fail
      refine L.out.mono ?_
      rintro e w1 ⟨D, dn, dc, rfl, o1, b1⟩
      have F : AnsList w (givesL ss i) (.returned (.slice D dn dc)) w1 := ⟨D, dn, dc, rfl, by rw [E.out]; exact Own.lower o1 bel.size, next_trans bel b1⟩
      have HF := Lib.hid F
      clear F o1 b1 bel L
      go_wp2
      go_ret
      exact HF.out
  · have hge : ¬ (i : Int) < (m : Int) := by omega
    have F := Lib.hid (VAR.out (gives_out (by rw [HL.out]; exact hlt)))
    clear h bel VAR
    go_enter Tryz.func44, Tryz.ntmps44
    go_wp2
    go_ret
    exact F.out

/-! ### impl's look-up in a substitution -/
theorem lookupIn (S : Option Addr) (m c : Nat) (w : World) :
    Calls Tryz.prog 40 #[.agg #[.slice S m c]] w fun e w' => e = .returned (.func (.func 70) #[] #[.pointer (some ⟨w.heap.size, 0, none⟩)]) ∧ w' = w.alloc (.cells #[.slice S m c] 35) := by
  have hmf : ∀ (fn : Fn) (first cap : Array Value) (w : World), (Instr.makeFunc fn first cap).run Tryz.prog w = .ok (.func fn first cap) w := fun _ _ _ _ => rfl
  go_enter Tryz.func40, Tryz.ntmps40
  go_wp2
  go_ret
  exact ⟨rfl, rfl⟩

set_option maxHeartbeats 2000000 in
theorem lookSubstC (B : Nat) (S : Option Addr) (m c : Nat) (ss : List (List Int)) (w : World) (hB : B < w.heap.size) (hc : w.cell? ⟨B, 0, none⟩ = some (.slice S m c)) (h : Segs w w.heap.size S m ss) (hm : m ≤ 1048576) :
    Looks 70 #[.pointer (some ⟨B, 0, none⟩)] w (givesL ss) 24 := by
  intro W i hb hi
  have cB : W.cell? ⟨B, 0, none⟩ = some (.slice S m c) := (hb.cell (p := ⟨B, 0, none⟩) hB).trans hc
  have h1 := h.below hb
  have HL := Lib.hid h.1
  have i0 : (0 : Int) ≤ (i : Int) := by omega
  have LV := Lib.hid (varTerm (i : Int) W (by omega) (by omega))
  have hws := hb.size
  clear hB hc h hb
  show Calls Tryz.prog 70 #[.int .i64 (i : Int), .pointer (some ⟨B, 0, none⟩)] W _
  by_cases hlt : i < m
  · obtain ⟨b, off, A', n', cc, rfl, hbB, hx, hseg0, hcap⟩ := h1.spot hlt
    have hseg := hseg0.more hws
    by_cases hz : n' = 0
    · subst hz
      have E := Lib.hid (gives_var (ss := ss) (i := i) hseg.1)
      clear h1 hseg hseg0 hcap
      go_enter Tryz.func70, Tryz.ntmps70
      go_wp2_with fail
      refine LV.out.mono ?_
      rintro e w1 ⟨D, dn, dc, rfl, o1, b1⟩
      have F : AnsLook w.heap.size W (givesL ss i) (.returned (.slice D dn dc)) w1 := by rw [E.out]; exact look_new o1 b1
      have HF := Lib.hid F
      clear F o1 b1 LV
      go_wp2
      go_ret
      exact HF.out
    · have hpos : 0 < n' := by omega
      have F : AnsLook w.heap.size W (givesL ss i) (.returned (.slice A' n' cc)) W := ⟨A', n', cc, rfl, by rw [gives_term (by rw [hseg.1]; exact hz)]; exact hseg, hcap, fun k hk => .inl (by obtain ⟨b2, off2, e2, hb2, _⟩ := hseg0.2 hpos; rw [e2] at hk; have : b2 = k := Option.some.inj hk; omega), Below.refl _ _⟩
      have HF := Lib.hid F
      clear F h1 hseg hseg0 hcap LV
      go_enter Tryz.func70, Tryz.ntmps70
      go_wp2
      go_ret
      exact HF.out
  · have hge : ¬ (i : Int) < (m : Int) := by omega
    have E := Lib.hid (gives_out (ss := ss) (i := i) (by rw [HL.out]; exact hlt))
    clear h1
    go_enter Tryz.func70, Tryz.ntmps70
    go_wp2_with fail
    refine LV.out.mono ?_
    rintro e w1 ⟨D, dn, dc, rfl, o1, b1⟩
    have F : AnsLook w.heap.size W (givesL ss i) (.returned (.slice D dn dc)) w1 := by rw [E.out]; exact look_new o1 b1
    have HF := Lib.hid F
    clear F o1 b1 LV
    go_wp2
    go_ret
    exact HF.out

theorem lookSubst (B : Nat) (S : Option Addr) (m c : Nat) (ss : List (List Int)) (w : World) (hr : Row w B 35 #[.slice S m c]) (h : Segs w w.heap.size S m ss) (hm : m ≤ 1048576) :
    Looks 70 #[.pointer (some ⟨B, 0, none⟩)] w (givesL ss) 24 := lookSubstC B S m c ss w hr.lt (hr.cell 0) h hm

theorem tooLong (A : Option Addr) (n c : Nat) (w : World) (hn : n ≤ 9223372036854775807) :
    Calls Tryz.prog 41 #[.slice A n c] w fun e w' => w = w' ∧ e = .returned (.bool (decide (60 < n))) := by
  have E : decide ((60 : Int) < (n : Int)) = decide (60 < n) := decide_eq_decide.2 (by omega)
  rw [← E]
  have HE := Lib.hid E
  clear E
  generalize hz : decide ((60 : Int) < (n : Int)) = z
  have HZ := Lib.hid hz
  clear hz
  go_enter Tryz.func41, Tryz.ntmps41
  go_wp2
  go_ret
  exact ⟨rfl, by rw [← HZ.out]; rfl⟩
end Go.Proofs.YtkmhnkljigncmaaGreat.gives
end

section
/-
  CONTRACTS: spec.l2Plain, spec.PlainOf, impl.PlainOf. Conditions: the slices read as lists ('Seg', 'Segs'), at most 1048576 values. By an AI agent.
-/
namespace Go.Proofs.YtkmhnkljigncmaaGreat.plainOf
open Go.RowKit Go.Proofs.YtkmhnkljigncmaaGreat.base Go.Proofs.YtkmhnkljigncmaaGreat.ints Go.Proofs.YtkmhnkljigncmaaGreat.sig Go.Proofs.YtkmhnkljigncmaaGreat.cursor Go.Proofs.YtkmhnkljigncmaaGreat.marks Go.Proofs.YtkmhnkljigncmaaGreat.app Go.Proofs.YtkmhnkljigncmaaGreat.appAt Go.Proofs.YtkmhnkljigncmaaGreat.sym Go.Proofs.YtkmhnkljigncmaaGreat.sub Go.Proofs.YtkmhnkljigncmaaGreat.segs Go.Proofs.YtkmhnkljigncmaaGreat.segsHelp Go.Proofs.YtkmhnkljigncmaaGreat.kinds Go.Proofs.YtkmhnkljigncmaaGreat.varsOf Go.Proofs.YtkmhnkljigncmaaGreat.fillMath Go.Proofs.YtkmhnkljigncmaaGreat.look Go.Proofs.YtkmhnkljigncmaaGreat.substOk Go.Proofs.YtkmhnkljigncmaaGreat.gives Go.Proofs.YtkmhnkljigncmaaGreat.plainMath Go.Proofs.YtkmhnkljigncmaaGreat.plain
set_option maxRecDepth 100000

theorem own_one {w : World} {base : Nat} {D : Option Addr} {c : Nat} {x : Int} (h : Own w base (.slice D 1 c) [x]) : ∃ g, D = some ⟨g, 0, none⟩ ∧ w.cell? ⟨g, 0, none⟩ = some (.int .i64 x) := by
  rcases own_form (n := 1) (vs := [x].map (Value.int .i64)) h with ⟨_, h1, _⟩ | ⟨g, cur, e, _, hr, _, _, _, _, hc⟩
  · omega
  · refine ⟨g, e, ?_⟩
    rw [hr.cell 0, hc 0 (by omega)]
    rfl
theorem Owns.shrink {w : World} {lo hi m n c : Nat} {A : Option Addr} {xss : List (List Int)} (h : Owns w lo hi A m c xss) (hn : n ≤ m) : Owns w lo hi A n c (xss.take n) := by
  obtain ⟨h1, ⟨vs, hr, hin, hap⟩, h3⟩ := h
  rcases own_form hr with ⟨rfl, h0, rfl, rfl⟩ | ⟨g, cur, rfl, hlo, hrow, hmc, hsz, hmax, hlen, hc⟩
  · obtain rfl : n = 0 := by omega
    simpa using Owns.nil w lo hi
  · have e1 : ∀ j, j < n → (cur.toList.take n).getD j undef = vs.getD j undef := fun j hj => by
      have := hc j (by omega)
      simp [List.getD, List.getElem?_take, hj, this]
    have e2 : ∀ j, j < n → (xss.take n).getD j [] = xss.getD j [] := fun j hj => by simp [List.getD, List.getElem?_take, hj]
    refine ⟨by rw [List.length_take, h1]; omega, ⟨_, rowsOf hrow hsz (by omega) hmax hlo, fun j hj => ?_, fun i j k hij hj a b => ?_⟩, h3⟩
    · rw [e1 j hj, e2 j hj]
      exact hin j (by omega)
    · rw [e1 i (by omega)] at a
      rw [e1 j hj] at b
      exact hap i j k hij (by omega) a b

/-- the head of l2Plain's first loop -/
def HeadL1 (w : World) (S : Option Addr) (m c : Nat) (ss : List (List Int)) (i : Value) (wr : World) : Prop :=
  ∃ (k : Nat) (A : Option Addr) (cA : Nat), k ≤ m ∧ i = .int .i64 k ∧ Owns wr (w.heap.size + 3) wr.heap.size A k cA (rowsL (givesL ss) k) ∧ Row wr w.heap.size 35 #[.slice S m c] ∧ Row wr (w.heap.size + 1) 35 #[.slice none 0 0] ∧
    Row wr (w.heap.size + 2) 35 #[.slice A k cA] ∧ Below w.heap.size w wr
theorem headL1_step {w wr w1 w5 w6 : World} {S A A' : Option Addr} {m c k cA c' : Nat} {ss : List (List Int)} (hk : k < m) (ho : Owns w6 (w.heap.size + 3) w6.heap.size A' (k + 1) c' (rowsL (givesL ss) (k + 1)))
    (r0 : Row wr w.heap.size 35 #[.slice S m c]) (r1 : Row wr (w.heap.size + 1) 35 #[.slice none 0 0]) (r2 : Row wr (w.heap.size + 2) 35 #[.slice A k cA]) (hb : Below w.heap.size w wr)
    (b1 : Below wr.heap.size wr w1) (b5 : Below w1.heap.size w1 w5) (hg : w5.grownBy w6 (blk A)) (hA : ∀ z, blk A = some z → w.heap.size + 3 ≤ z) :
    HeadL1 w S m c ss (.int .i64 ((k : Int) + 1)) (w6.setCell ⟨w.heap.size + 2, 0, none⟩ (.slice A' (k + 1) c')) := by
  have bb := next_trans b1 b5
  have q0 := Row.away (r0.next bb) hg (fun e => by have := hA _ e; omega)
  have q1 := Row.away (r1.next bb) hg (fun e => by have := hA _ e; omega)
  have q2 := Row.away (r2.next bb) hg (fun e => by have := hA _ e; omega)
  have hbb : Below w.heap.size w w6 := (hb.trans (bb.mono hb.size)).grown hg (by have := hb.size; have := bb.size; omega) (fun z hz => by have := hA z hz; omega)
  refine ⟨k + 1, A', c', hk, by simp, ?_, q0.far (by simp) _, q1.far (by simp) _, ?_, hbb.setCell (by simp) _⟩
  · have := owns_put ho q2 (by omega) 0 (.slice A' (k + 1) c')
    simpa using this
  · have := q2.put 0 (.slice A' (k + 1) c')
    simpa using this

/-- the head of the loop that shortens -/
def HeadL2 (w : World) (L : Nat → List Int) (m : Nat) (A : Option Addr) (cA : Nat) (p : Value) (wr : World) : Prop :=
  ∃ n : Nat, n ≤ m ∧ p = .pointer (some ⟨w.heap.size + 2, 0, none⟩) ∧ strip ((rowsL L m).take n) = plainL L m ∧ Owns wr (w.heap.size + 3) wr.heap.size A m cA (rowsL L m) ∧ Row wr (w.heap.size + 1) 35 #[.slice none 0 0] ∧
    Row wr (w.heap.size + 2) 35 #[.slice A n cA] ∧ Below w.heap.size w wr
def lenAt (w : World) (p : Addr) : Nat := match w.cell? p with
  | some (.slice _ n _) => n
  | _ => 0
theorem headL2_end {w wr : World} {L : Nat → List Int} {m n cA : Nat} {A : Option Addr} (hn : n ≤ m) (hs : strip ((rowsL L m).take n) = plainL L m) (ho : Owns wr (w.heap.size + 3) wr.heap.size A m cA (rowsL L m))
    (r1 : Row wr (w.heap.size + 1) 35 #[.slice none 0 0]) (hb : Below w.heap.size w wr) (hend : n = 0 ∨ (rowsL L m).getD (n - 1) [] ≠ []) :
    AnsSubst w (plainL L m) (.returned (.agg #[.slice A n cA])) (wr.setCell ⟨w.heap.size + 1, 0, none⟩ (.slice A n cA)) := by
  have e : (rowsL L m).take n = plainL L m := by
    rw [← hs]
    rcases hend with rfl | h
    · simp [strip]
    · by_cases h0 : n = 0
      · subst h0; simp [strip]
      · have := strip_last (l := rowsL L m) (q := n - 1) (by rw [rows_len]; omega) h
        rw [show n - 1 + 1 = n by omega] at this
        exact this.symm
  have h1 := Owns.shrink (owns_put ho r1 (by omega) 0 (.slice A n cA)) hn
  rw [e] at h1
  exact ⟨A, n, cA, rfl, h1.wider (by omega) (by simp), hb.setCell (by simp) _⟩

set_option maxHeartbeats 8000000 in
theorem l2Plain (S : Option Addr) (m c : Nat) (ss : List (List Int)) (w : World) (h : Segs w w.heap.size S m ss) (ht : tot ss ≤ 1048576) :
    Calls Tryz.prog 72 #[.agg #[.slice S m c]] w (AnsSubst w (plainL (givesL ss) m)) := by
  have HT := Lib.hid ht
  have hm : m ≤ 1048576 := tot_len h.1 ht
  have HE := Lib.hid (tot_each ht)
  clear ht
  go_enter Tryz.func72, Tryz.ntmps72
  go_wp2_with fail
  go_loopw [4] (fun i wr => HeadL1 w S m c ss i wr) (fun i _ => m - (intOf i).toNat)
  case atStart =>
    have b0 : Below w.heap.size w (((w.alloc (.cells #[.slice S m c] 35)).alloc (.cells #[.slice none 0 0] 35)).alloc (.cells #[.slice none 0 0] 35)) := (((Below.refl _ _).alloc (Nat.le_refl _) _).alloc (by simp) _).alloc (by simp; omega) _
    have q1 := Row.new (w.alloc (.cells #[.slice S m c] 35)) 35 #[.slice none 0 0]
    have q2 := Row.new ((w.alloc (.cells #[.slice S m c] 35)).alloc (.cells #[.slice none 0 0] 35)) 35 #[.slice none 0 0]
    refine ⟨0, none, 0, Nat.zero_le _, rfl, by simpa [rowsL] using Owns.nil _ _ _, ((Row.new w 35 #[.slice S m c]).alloc _).alloc _, ?_, ?_, b0⟩
    · have := q1.alloc (.cells #[.slice none 0 0] 35); simpa using this
    · simpa using q2
  case round =>
    obtain ⟨k, A, cA, hk, rfl, ho, r0, r1, r2, hb⟩ := hrel
    have c0 : wr.cell? ⟨w.heap.size, 0, none⟩ = some (.slice S m c) := r0.cell 0
    have cO : wr.cell? ⟨w.heap.size + 2, 0, none⟩ = some (.slice A k cA) := r2.cell 0
    have i0 : (0 : Int) ≤ (k : Int) := by omega
    by_cases hlt : k < m
    · have i1 : (k : Int) < (m : Int) := by omega
      have LG := Lib.hid (l2Gives S m c ss k wr ((h.below hb).more hb.size) HT.out (by omega))
      have HA : Hid (∀ z, blk A = some z → w.heap.size + 3 ≤ z) := Lib.hid (fun z hz => by
        obtain ⟨vs, hown, _⟩ := ho.row
        exact (World.ownsRow.lt hown z (by rw [blk_own]; exact hz)).1)
      have hw1 : IntKind.i64.wrap (-1 - (k : Int)) = -1 - (k : Int) := by rw [IntKind.wrap_i64]; omega
      have hrl := r2.lt
      obtain ⟨ys, hys⟩ : ∃ ys, givesL ss k = ys := ⟨_, rfl⟩
      rw [hys] at LG
      have hlen : ys.length ≤ 1048576 := by
        rw [← hys]
        unfold givesL
        split
        · simp [vt]
        · exact HE.out k
      have RS := Lib.hid (rows_succ (givesL ss) k)
      by_cases h1 : ys.length = 1
      · obtain ⟨x, rfl⟩ : ∃ x, ys = [x] := by
          match ys, h1 with
          | [x], _ => exact ⟨x, rfl⟩
        by_cases hx : x = -1 - (k : Int)
        · have RB := Lib.hid (show bare (givesL ss) k = [] by unfold bare; rw [if_pos (by rw [hys, hx]; rfl)])
          have DX : (x == -1 - (k : Int)) = true := by simp [hx]
          clear hx hys
          go_wp2_with (first
            | (go_at_call 44; go_must (refine LG.out.mono ?_; rintro e w1 ⟨D, dn, dc, rfl, od, bb⟩; obtain rfl : dn = 1 := Own.len od; obtain ⟨gD, rfl, cD⟩ := own_one od; have cO1 : w1.cell? ⟨w.heap.size + 2, 0, none⟩ = some (.slice A k cA) := (r2.next bb).cell 0; have e5 : ((w1.alloc (.cells #[] 2)).alloc (.cells #[.slice (some ⟨w1.heap.size, 0, none⟩) 0 0] 24)).cell? ⟨w1.heap.size + 1, 0, none⟩ = some (.slice (some ⟨w1.heap.size, 0, none⟩) 0 0) := (by simp); have c15 : (w1.alloc (.cells #[] 2)).cell? ⟨w.heap.size + 2, 0, none⟩ = some (.slice A k cA) := ((r2.next bb).alloc (.cells #[] 2)).cell 0; have B5 : Below w1.heap.size w1 ((w1.alloc (.cells #[] 2)).alloc (.cells #[.slice (some ⟨w1.heap.size, 0, none⟩) 0 0] 24)) := ((Below.refl _ _).alloc (Nat.le_refl _) _).alloc (by simp) _; have hz5 := B5.size; have hz1 := bb.size; have ho5 := (ho.next bb).next B5; have i5 : Inn ((w1.alloc (.cells #[] 2)).alloc (.cells #[.slice (some ⟨w1.heap.size, 0, none⟩) 0 0] 24)) wr.heap.size ((w1.alloc (.cells #[] 2)).alloc (.cells #[.slice (some ⟨w1.heap.size, 0, none⟩) 0 0] 24)).heap.size (.slice (some ⟨w1.heap.size, 0, none⟩) 0 0) [] := Inn.wider ((inn_own (own_empty w1 wr.heap.size bb.size)).next ((Below.refl _ _).alloc (Nat.le_refl _) _)) (Nat.le_refl _) (by simp); have r25 := (r2.next bb).next B5; have c25 : ((w1.alloc (.cells #[] 2)).alloc (.cells #[.slice (some ⟨w1.heap.size, 0, none⟩) 0 0] 24)).cell? ⟨w.heap.size + 2, 0, none⟩ = some (.slice A k cA) := r25.cell 0))
            | (at_builtin; go_must (refine appS1 rfl _ _ rfl (w.heap.size + 3) wr.heap.size A k cA (rowsL (givesL ss) k) rfl ho5 _ 1 (.slice (some ⟨w1.heap.size, 0, none⟩) 0 0) [] rfl e5 i5 (by omega) (by omega) (by omega) ?_; intro A' c' w6 ho6 hg6 hat6 b6; have q2 := Row.away r25 hg6 (fun e => by have := HA.out _ e; omega); have c26 : w6.cell? ⟨w.heap.size + 2, 0, none⟩ = some (.slice A k cA) := q2.cell 0; have f26 : w6.frozen? ⟨w.heap.size + 2, 0, none⟩ = false := q2.free 0)))
          have S := Lib.hid (headL1_step (ss := ss) hlt (by rw [RS.out, RB.out]; exact ho6) r0 r1 r2 hb bb B5 hg6 HA.out)
          clear ho6 hg6 hat6 b6 ho5 i5 r25 c25 c15 q2 od bb B5 r0 r1 r2 hb ho RS RB LG cO1
          go_wp2
          go_roundw
          case rel => exact S.out
          case measure => simp [intOf]; omega
        · have RB := Lib.hid (show bare (givesL ss) k = [x] by unfold bare; rw [if_neg (by rw [hys]; unfold vt; intro e; injection e with e; exact hx e), hys])
          have DX : (x == -1 - (k : Int)) = false := by simp [hx]
          clear hx hys
          go_wp2_with (first
            | (go_at_call 44; refine LG.out.mono ?_; rintro e w1 ⟨D, dn, dc, rfl, od, bb⟩; obtain rfl : dn = 1 := Own.len od; obtain ⟨gD, rfl, cD⟩ := own_one od; have cO1 : w1.cell? ⟨w.heap.size + 2, 0, none⟩ = some (.slice A k cA) := (r2.next bb).cell 0; have B5 : Below w1.heap.size w1 (w1.alloc (.cells #[.slice (some ⟨gD, 0, none⟩) 1 dc] 24)) := (Below.refl _ _).alloc (Nat.le_refl _) _; have hz5 := B5.size; have hz1 := bb.size; have ho5 := (ho.next bb).next B5; have i5 : Inn (w1.alloc (.cells #[.slice (some ⟨gD, 0, none⟩) 1 dc] 24)) wr.heap.size (w1.alloc (.cells #[.slice (some ⟨gD, 0, none⟩) 1 dc] 24)).heap.size (.slice (some ⟨gD, 0, none⟩) 1 dc) [x] := Inn.wider ((inn_own od).next ((Below.refl _ _).alloc (Nat.le_refl _) _)) (Nat.le_refl _) (by simp); have r25 := (r2.next bb).next B5; have c25 : (w1.alloc (.cells #[.slice (some ⟨gD, 0, none⟩) 1 dc] 24)).cell? ⟨w.heap.size + 2, 0, none⟩ = some (.slice A k cA) := r25.cell 0)
            | (at_builtin; refine appS1 rfl _ _ rfl (w.heap.size + 3) wr.heap.size A k cA (rowsL (givesL ss) k) rfl ho5 _ 1 (.slice (some ⟨gD, 0, none⟩) 1 dc) [x] rfl ((Row.new _ _ _).cell 0) i5 (by omega) (by omega) (by omega) ?_; intro A' c' w6 ho6 hg6 hat6 b6; have q2 := Row.away r25 hg6 (fun e => by have := HA.out _ e; omega); have c26 : w6.cell? ⟨w.heap.size + 2, 0, none⟩ = some (.slice A k cA) := q2.cell 0; have f26 : w6.frozen? ⟨w.heap.size + 2, 0, none⟩ = false := q2.free 0))
          have S := Lib.hid (headL1_step (ss := ss) hlt (by rw [RS.out, RB.out]; exact ho6) r0 r1 r2 hb bb B5 hg6 HA.out)
          clear ho6 hg6 hat6 b6 ho5 i5 r25 c25 q2 od bb B5 r0 r1 r2 hb ho RS RB LG cO1
          go_wp2
          go_roundw
          case rel => exact S.out
          case measure => simp [intOf]; omega
      · have RB := Lib.hid (show bare (givesL ss) k = ys by unfold bare; rw [if_neg (by rw [hys]; unfold vt; intro e; rw [e] at h1; exact h1 rfl), hys])
        clear hys
        go_wp2_with (first
          | (go_at_call 44; refine LG.out.mono ?_; rintro e w1 ⟨D, dn, dc, rfl, od, bb⟩; have hdn : ¬ dn = 1 := (by rw [Own.len od]; exact h1); have hdz : ¬ (dn : Int) = 1 := (by omega); have hdb : (((dn : Nat) : Int) == 1) = false := (by simp; omega); have cO1 : w1.cell? ⟨w.heap.size + 2, 0, none⟩ = some (.slice A k cA) := (r2.next bb).cell 0; have B5 : Below w1.heap.size w1 (w1.alloc (.cells #[.slice D dn dc] 24)) := (Below.refl _ _).alloc (Nat.le_refl _) _; have hz5 := B5.size; have hz1 := bb.size; have ho5 := (ho.next bb).next B5; have i5 : Inn (w1.alloc (.cells #[.slice D dn dc] 24)) wr.heap.size (w1.alloc (.cells #[.slice D dn dc] 24)).heap.size (.slice D dn dc) ys := Inn.wider ((inn_own od).next ((Below.refl _ _).alloc (Nat.le_refl _) _)) (Nat.le_refl _) (by simp); have r25 := (r2.next bb).next B5; have c25 : (w1.alloc (.cells #[.slice D dn dc] 24)).cell? ⟨w.heap.size + 2, 0, none⟩ = some (.slice A k cA) := r25.cell 0)
          | (at_builtin; refine appS1 rfl _ _ rfl (w.heap.size + 3) wr.heap.size A k cA (rowsL (givesL ss) k) rfl ho5 _ 1 (.slice D dn dc) ys rfl ((Row.new _ _ _).cell 0) i5 (by omega) (by omega) (by omega) ?_; intro A' c' w6 ho6 hg6 hat6 b6; have q2 := Row.away r25 hg6 (fun e => by have := HA.out _ e; omega); have c26 : w6.cell? ⟨w.heap.size + 2, 0, none⟩ = some (.slice A k cA) := q2.cell 0; have f26 : w6.frozen? ⟨w.heap.size + 2, 0, none⟩ = false := q2.free 0))
        have S := Lib.hid (headL1_step (ss := ss) hlt (by rw [RS.out, RB.out]; exact ho6) r0 r1 r2 hb bb B5 hg6 HA.out)
        clear ho6 hg6 hat6 b6 ho5 i5 r25 c25 q2 od bb B5 r0 r1 r2 hb ho RS RB LG cO1
        go_wp2
        go_roundw
        case rel => exact S.out
        case measure => simp [intOf]; omega
    · obtain rfl : k = m := by omega
      have HC := Lib.hid ho.cap
      have H2 : HeadL2 w (givesL ss) k A cA (.pointer (some ⟨w.heap.size + 2, 0, none⟩)) wr := ⟨k, Nat.le_refl _, rfl, by rw [List.take_of_length_le (by rw [rows_len]; exact Nat.le_refl _)]; rfl, ho, r1, r2, hb⟩
      have HH2 := Lib.hid H2
      have hc1 : cA ≤ 9223372036854775807 := ho.cap.2.1
      have hc0 : k ≤ cA := ho.cap.1
      clear H2 ho r0 r1 r2 hb cO h
      go_wp2_with fail
      go_loopw [] (fun wr => HeadL2 w (givesL ss) k A cA (.pointer (some ⟨w.heap.size + 2, 0, none⟩)) wr) (fun wr => lenAt wr ⟨w.heap.size + 2, 0, none⟩)
      case atStart => exact HH2.out
      case round =>
        obtain ⟨n, hn, -, hs, ho, r1, r2, hb⟩ := hrel
        clear HH2
        have cO : wr.cell? ⟨w.heap.size + 2, 0, none⟩ = some (.slice A n cA) := r2.cell 0
        have fO : wr.frozen? ⟨w.heap.size + 2, 0, none⟩ = false := r2.free 0
        have cR : wr.cell? ⟨w.heap.size + 1, 0, none⟩ = some (.slice none 0 0) := r1.cell 0
        have fR : wr.frozen? ⟨w.heap.size + 1, 0, none⟩ = false := r1.free 0
        by_cases h0 : n = 0
        · subst h0
          have F := Lib.hid (headL2_end hn hs ho r1 hb (.inl rfl))
          clear hs ho r1 r2 hb
          go_wp2
          exact bodyPost_ret (v := .agg #[.slice A 0 cA]) (by simp [results, Tryz.results72, go_sem, cR]) rfl F.out
        · obtain ⟨p, rfl⟩ : ∃ p, n = p + 1 := ⟨n - 1, by omega⟩
          obtain ⟨b, off, A', q, cq, rfl, hbb, hx, hseg, hcap⟩ := ho.segs.spot (k := p) (by omega)
          have p0 : (0 : Int) ≤ (p : Int) := by omega
          have p1 : ((p + 1 : Nat) : Int) - 1 = (p : Int) := by omega
          have p2 : (p : Int) ≤ (cA : Int) := by omega
          have p3 : (p : Int) < ((p + 1 : Nat) : Int) := by omega
          have p4 : (0 : Int) < ((p + 1 : Nat) : Int) := by omega
          have hw2 : IntKind.i64.wrap (p : Int) = (p : Int) := by rw [IntKind.wrap_i64]; omega
          by_cases hq : q = 0
          · subst hq
            have hnil : (rowsL (givesL ss) k).getD p [] = [] := List.eq_nil_of_length_eq_zero hseg.1
            have S1 : HeadL2 w (givesL ss) k (some ⟨b, off, none⟩) cA (.pointer (some ⟨w.heap.size + 2, 0, none⟩)) (wr.setCell ⟨w.heap.size + 2, 0, none⟩ (.slice (some ⟨b, off, none⟩) p cA)) := by
              refine ⟨p, by omega, rfl, by rw [← strip_drop (by rw [rows_len]; omega) hnil]; exact hs, ?_, r1.far (by simp) _, ?_, hb.setCell (by simp) _⟩
              · have := owns_put ho r2 (by omega) 0 (.slice (some ⟨b, off, none⟩) p cA)
                simpa using this
              · have := r2.put 0 (.slice (some ⟨b, off, none⟩) p cA)
                simpa using this
            have HS1 := Lib.hid S1
            have E1 : (wr.setCell ⟨w.heap.size + 2, 0, none⟩ (.slice (some ⟨b, off, none⟩) p cA)).cell? ⟨w.heap.size + 2, 0, none⟩ = some (.slice (some ⟨b, off, none⟩) p cA) := by have := (r2.put 0 (.slice (some ⟨b, off, none⟩) p cA)).cell 0; simpa using this
            have HLT := Lib.hid (show lenAt (wr.setCell ⟨w.heap.size + 2, 0, none⟩ (.slice (some ⟨b, off, none⟩) p cA)) ⟨w.heap.size + 2, 0, none⟩ < lenAt wr ⟨w.heap.size + 2, 0, none⟩ by simp only [lenAt, E1, cO]; omega)
            clear S1 E1 hs ho r1 r2 hb hseg hcap hnil
            go_wp2
            go_roundw
            case rel => exact HS1.out
            case measure => exact HLT.out
          · have hq1 : (0 : Int) < (q : Int) := by omega
            have F := Lib.hid (headL2_end hn hs ho r1 hb (.inr (fun e => by rw [show p + 1 - 1 = p by omega] at e; rw [e] at hseg; exact hq hseg.1.symm)))
            clear hs ho r1 r2 hb hseg hcap
            go_wp2
            exact bodyPost_ret (v := .agg #[.slice (some ⟨b, off, none⟩) (p + 1) cA]) (by simp [results, Tryz.results72, go_sem, cR]) rfl F.out

/-- what PlainOf answers -/
def plainI (sg : List Int) (ss : List (List Int)) : List (List Int) := if substOkB sg ss = true then plainL (givesL ss) ss.length else []
theorem plain_yes {sg : List Int} {ss : List (List Int)} (h : substOkB sg ss = true) : plainI sg ss = plainL (givesL ss) ss.length := by unfold plainI; rw [if_pos h]
theorem plain_no {sg : List Int} {ss : List (List Int)} (h : substOkB sg ss = false) : plainI sg ss = [] := by unfold plainI; rw [if_neg (by rw [h]; simp)]
theorem tot_le {xss : List (List Int)} {M : Nat} (h : ∀ j, (xss.getD j []).length ≤ M) : tot xss ≤ xss.length + xss.length * M := by
  have : ∀ k, k ≤ xss.length → sumL xss k ≤ k * M := fun k => by
    induction k with
    | zero => intro _; simp [sumL]
    | succ k ih =>
      intro hk
      rw [sumL_succ (by omega)]
      have h1 := ih (by omega)
      have h2 := h k
      rw [Nat.succ_mul]
      omega
  unfold tot
  have := this xss.length (Nat.le_refl _)
  omega
theorem plainI_tot {sg : List Int} {ss : List (List Int)} : tot (plainI sg ss) ≤ 1048576 := by
  cases h : substOkB sg ss with
  | false => rw [plain_no h]; simp [tot, sumL]
  | true =>
    rw [plain_yes h]
    have h1 := tot_le (plain_each (L := givesL ss) (m := ss.length) (gives_len h))
    have h2 := plain_len (givesL ss) ss.length
    have h3 := (substOk_parts h).2.1
    have h4 : (plainL (givesL ss) ss.length).length * 60 ≤ 24 * 60 := Nat.mul_le_mul_right _ (by omega)
    omega
/-- three boxes: two parameters and the result -/
theorem boxes3 (w : World) (A : Option Addr) (n c : Nat) (S : Option Addr) (m c' : Nat) : ∃ W, W = ((w.alloc (.cells #[.slice A n c] 26)).alloc (.cells #[.slice S m c'] 35)).alloc (.cells #[.slice none 0 0] 35) ∧
    Row W w.heap.size 26 #[.slice A n c] ∧ Row W (w.heap.size + 1) 35 #[.slice S m c'] ∧ Row W (w.heap.size + 2) 35 #[.slice none 0 0] ∧ Below w.heap.size w W ∧ w.heap.size + 2 < W.heap.size := by
  obtain ⟨W, hW, r1, r2, b⟩ := boxes2 w A n c S m c'
  have hz : W.heap.size = w.heap.size + 2 := by rw [hW]; simp
  refine ⟨_, rfl, ?_, ?_, ?_, ?_, ?_⟩
  · rw [← hW]; exact r1.alloc _
  · rw [← hW]; exact r2.alloc _
  · rw [← hW, ← hz]; exact Row.new _ _ _
  · rw [← hW]; exact b.alloc b.size _
  · rw [← hW]; simp; omega

end Go.Proofs.YtkmhnkljigncmaaGreat.plainOf
end

section
/-
  CONTRACTS: spec.DrawSameSubst, DrawComposed, DrawFilled. Conditions: at most 4096 bytes. By an AI agent.
-/
namespace Go.Proofs.YtkmhnkljigncmaaGreat.drawSS
open Go.RowKit Go.Proofs.YtkmhnkljigncmaaGreat.base Go.Proofs.YtkmhnkljigncmaaGreat.ints Go.Proofs.YtkmhnkljigncmaaGreat.sig Go.Proofs.YtkmhnkljigncmaaGreat.term Go.Proofs.YtkmhnkljigncmaaGreat.cursor Go.Proofs.YtkmhnkljigncmaaGreat.termOk Go.Proofs.YtkmhnkljigncmaaGreat.marks Go.Proofs.YtkmhnkljigncmaaGreat.app Go.Proofs.YtkmhnkljigncmaaGreat.appAt Go.Proofs.YtkmhnkljigncmaaGreat.sym Go.Proofs.YtkmhnkljigncmaaGreat.segs Go.Proofs.YtkmhnkljigncmaaGreat.segsHelp Go.Proofs.YtkmhnkljigncmaaGreat.dice Go.Proofs.YtkmhnkljigncmaaGreat.drawSig Go.Proofs.YtkmhnkljigncmaaGreat.drawTerm Go.Proofs.YtkmhnkljigncmaaGreat.drawAny Go.Proofs.YtkmhnkljigncmaaGreat.drawTwo Go.Proofs.YtkmhnkljigncmaaGreat.drawPair Go.Proofs.YtkmhnkljigncmaaGreat.drawOne Go.Proofs.YtkmhnkljigncmaaGreat.drawSub Go.Proofs.YtkmhnkljigncmaaGreat.drawS Go.Proofs.YtkmhnkljigncmaaGreat.drawSA Go.Proofs.YtkmhnkljigncmaaGreat.drawVar Go.Proofs.YtkmhnkljigncmaaGreat.plain Go.Proofs.YtkmhnkljigncmaaGreat.plainOf
set_option maxRecDepth 100000

theorem OwnR.segs {w : World} {p lo n c : Nat} {A : Option Addr} {xss : List (List Int)} (h : OwnR w p lo A n c xss) : Segs w w.heap.size A n xss := by
  obtain ⟨h1, vs, hr, h3⟩ := h
  refine ⟨h1, fun hn => ?_⟩
  rcases own_form hr with ⟨_, e, _⟩ | ⟨g, cur, rfl, _, hrow, _, _, _, _, hc⟩
  · omega
  · refine ⟨g, 0, rfl, hrow.lt, fun j hj => ?_⟩
    obtain ⟨A', n', c', e, hrd, hcap, _⟩ := h3 j hj
    refine ⟨A', n', c', ?_, hrd.seg, hcap⟩
    rw [Nat.zero_add, hrow.cell j, hc j hj, e]
theorem ownR_owns {w : World} {p lo hi n c : Nat} {A : Option Addr} {xss : List (List Int)} (h : Owns w lo hi A n c xss) (hp : p < lo) : OwnR w p lo A n c xss := by
  obtain ⟨vs, hr, hin, _⟩ := h.row
  refine ⟨h.len, vs, hr, fun j hj => ?_⟩
  obtain ⟨A', c', e, ho, hcap⟩ := (hin j hj).cap
  refine ⟨A', _, c', e, Rd.of_own (by rw [← e]; exact ho) hp, hcap, fun hn e2 => ?_⟩
  rcases own_form hr with ⟨rfl, h1, _⟩ | ⟨g, cur, rfl, _, hrow, _⟩
  · omega
  · have h2 := (hin j hj).ne hrow
    rw [e, blk_own] at h2
    exact h2 e2

/-- what is known behind the first two draws: two result boxes at w.heap.size, the variables at v6 and v7 -/
structure V4 (w : World) (p : Nat) (A : Option Addr) (n c v6 v7 : Nat) (S : Option Addr) (sn sc : Nat) (sg : List Int) (B : Option Addr) (m cB : Nat) (xss : List (List Int)) (wr : World) : Prop where
  d : Dice wr p A n c
  rN : Row wr w.heap.size 26 #[.slice none 0 0]
  rP : Row wr (w.heap.size + 1) 35 #[.slice none 0 0]
  r6 : Row wr v6 26 #[.slice S sn sc]
  r7 : Row wr v7 35 #[.slice B m cB]
  s : Rd wr p wr.heap.size S sn sg
  own : OwnR wr p (p + 1) B m cB xss
  b : Below w.heap.size w wr
  hp : w.heap.size + 1 < p
  p6 : p < v6
  p7 : p < v7
section
variable {w : World} {p : Nat} {A : Option Addr} {n c v6 v7 : Nat} {S : Option Addr} {sn sc : Nat} {sg : List Int} {B : Option Addr} {m cB : Nat} {xss : List (List Int)} {wr w' : World}
theorem V4.dice (t : V4 w p A n c v6 v7 S sn sc sg B m cB xss wr) (d : Dice w' p A n c) (hg : wr.grownBy w' (some p)) : V4 w p A n c v6 v7 S sn sc sg B m cB xss w' :=
  ⟨d, Row.away t.rN hg (fun e => by injection e; have := t.hp; omega), Row.away t.rP hg (fun e => by injection e; have := t.hp; omega), Row.away t.r6 hg (fun e => by injection e; have := t.p6; omega), Row.away t.r7 hg (fun e => by injection e; have := t.p7; omega), (t.s.grown hg (Nat.le_refl _)).more hg.size, t.own.dice hg (Nat.lt_succ_self _), t.b.grown hg t.b.size (fun k hk => by injection hk; have := t.hp; omega), t.hp, t.p6, t.p7⟩
theorem V4.next (t : V4 w p A n c v6 v7 S sn sc sg B m cB xss wr) (hb : Below wr.heap.size wr w') : V4 w p A n c v6 v7 S sn sc sg B m cB xss w' :=
  ⟨t.d.next hb, t.rN.next hb, t.rP.next hb, t.r6.next hb, t.r7.next hb, (t.s.below hb (Nat.le_refl _)).more hb.size, t.own.below hb, next_trans t.b hb, t.hp, t.p6, t.p7⟩
theorem V4.drew (t : V4 w p A n c v6 v7 S sn sc sg B m cB xss wr) : V4 w p A n c v6 v7 S sn sc sg B m cB xss wr.drew := t.next ⟨rfl, rfl, rfl, Nat.le_refl _, fun _ _ => rfl⟩
end

/-- a drawn signature and two drawn substitutions -/
def AnsSS (w : World) (e : Ending) (w' : World) : Prop :=
  ∃ S sn sc sg B m cB xss C q cC yss, e = .returned (.tuple #[.agg #[.slice S sn sc], .agg #[.slice B m cB], .agg #[.slice C q cC]]) ∧ Seg w' w'.heap.size S sn sg ∧ Segs w' w'.heap.size B m xss ∧ Segs w' w'.heap.size C q yss ∧ sn ≤ 9 ∧ tot xss ≤ 1048576 ∧ tot yss ≤ 1048576 ∧ Below w.heap.size w w'
theorem ss_of {w u : World} {p : Nat} {A : Option Addr} {n c v6 v7 : Nat} {S : Option Addr} {sn sc : Nat} {sg : List Int} {B : Option Addr} {m cB : Nat} {xss : List (List Int)} {C : Option Addr} {q cC lo : Nat} {yss : List (List Int)} (t : V4 w p A n c v6 v7 S sn sc sg B m cB xss u) (rQ : Row u (w.heap.size + 2) 35 #[.slice none 0 0]) (hp : w.heap.size + 2 < p) (hc : OwnR u p lo C q cC yss) (hlo : p < lo)
    (h1 : sn ≤ 9) (h2 : tot xss ≤ 1048576) (h3 : tot yss ≤ 1048576) :
    AnsSS w (.returned (.tuple #[.agg #[.slice S sn sc], .agg #[.slice B m cB], .agg #[.slice C q cC]])) (((u.setCell ⟨w.heap.size, 0, none⟩ (.slice S sn sc)).setCell ⟨w.heap.size + 1, 0, none⟩ (.slice B m cB)).setCell ⟨w.heap.size + 2, 0, none⟩ (.slice C q cC)) := by
  have neB : ∀ N, N < p → blk B ≠ some N := fun N hN e => by have := (t.own.ge N e).1; omega
  have neC : ∀ N, N < p → blk C ≠ some N := fun N hN e => by have := (hc.ge N e).1; omega
  have s1 := Rd.other t.s (t.rN.cell 0) (.slice S sn sc)
  have o1 := OwnR.setNe t.own (neB w.heap.size (by omega)) (t.rN.cell 0) (.slice S sn sc)
  have c1 := OwnR.setNe hc (neC w.heap.size (by omega)) (t.rN.cell 0) (.slice S sn sc)
  have rP1 := t.rP.far (p := ⟨w.heap.size, 0, none⟩) (show w.heap.size + 1 ≠ w.heap.size by omega) (.slice S sn sc)
  have rQ1 := rQ.far (p := ⟨w.heap.size, 0, none⟩) (show w.heap.size + 2 ≠ w.heap.size by omega) (.slice S sn sc)
  have b1 := t.b.setCell (p := ⟨w.heap.size, 0, none⟩) (Nat.le_refl _) (.slice S sn sc)
  have s2 := Rd.other s1 (rP1.cell 0) (.slice B m cB)
  have o2 := OwnR.setNe o1 (neB (w.heap.size + 1) (by omega)) (rP1.cell 0) (.slice B m cB)
  have c2 := OwnR.setNe c1 (neC (w.heap.size + 1) (by omega)) (rP1.cell 0) (.slice B m cB)
  have rQ2 := rQ1.far (p := ⟨w.heap.size + 1, 0, none⟩) (show w.heap.size + 2 ≠ w.heap.size + 1 by omega) (.slice B m cB)
  have b2 := b1.setCell (p := ⟨w.heap.size + 1, 0, none⟩) (Nat.le_succ _) (.slice B m cB)
  have s3 := Rd.other s2 (rQ2.cell 0) (.slice C q cC)
  have o3 := OwnR.setNe o2 (neB (w.heap.size + 2) (by omega)) (rQ2.cell 0) (.slice C q cC)
  have c3 := OwnR.setNe c2 (neC (w.heap.size + 2) (by omega)) (rQ2.cell 0) (.slice C q cC)
  have b3 := b2.setCell (p := ⟨w.heap.size + 2, 0, none⟩) (by simp) (.slice C q cC)
  exact ⟨S, sn, sc, sg, B, m, cB, xss, C, q, cC, yss, rfl, s3.seg.more (by simp), OwnR.segs o3, OwnR.segs c3, h1, h2, h3, b3⟩

/-- a drawn signature, a drawn substitution, a drawn list -/
def AnsST (w : World) (e : Ending) (w' : World) : Prop :=
  ∃ S sn sc sg B m cB xss O on oc ys, e = .returned (.tuple #[.agg #[.slice S sn sc], .agg #[.slice B m cB], .slice O on oc]) ∧ Seg w' w'.heap.size S sn sg ∧ Segs w' w'.heap.size B m xss ∧ Seg w' w'.heap.size O on ys ∧ sn ≤ 9 ∧ tot xss ≤ 1048576 ∧ on ≤ 65 ∧ Below w.heap.size w w'
theorem st_of {w u : World} {p : Nat} {A : Option Addr} {n c v6 v7 : Nat} {S : Option Addr} {sn sc : Nat} {sg : List Int} {B : Option Addr} {m cB : Nat} {xss : List (List Int)} {O : Option Addr} {on oc : Nat} {ys : List Int} (t : V4 w p A n c v6 v7 S sn sc sg B m cB xss u) (hc : Rd u p u.heap.size O on ys)
    (h1 : sn ≤ 9) (h2 : tot xss ≤ 1048576) (h3 : on ≤ 65) :
    AnsST w (.returned (.tuple #[.agg #[.slice S sn sc], .agg #[.slice B m cB], .slice O on oc])) ((u.setCell ⟨w.heap.size, 0, none⟩ (.slice S sn sc)).setCell ⟨w.heap.size + 1, 0, none⟩ (.slice B m cB)) := by
  have hp := t.hp
  have neB : ∀ N, N < p → blk B ≠ some N := fun N hN e => by have := (t.own.ge N e).1; omega
  have s1 := Rd.other t.s (t.rN.cell 0) (.slice S sn sc)
  have o1 := OwnR.setNe t.own (neB w.heap.size (by omega)) (t.rN.cell 0) (.slice S sn sc)
  have c1 := Rd.other hc (t.rN.cell 0) (.slice S sn sc)
  have rP1 := t.rP.far (p := ⟨w.heap.size, 0, none⟩) (show w.heap.size + 1 ≠ w.heap.size by omega) (.slice S sn sc)
  have b1 := t.b.setCell (p := ⟨w.heap.size, 0, none⟩) (Nat.le_refl _) (.slice S sn sc)
  have s2 := Rd.other s1 (rP1.cell 0) (.slice B m cB)
  have o2 := OwnR.setNe o1 (neB (w.heap.size + 1) (by omega)) (rP1.cell 0) (.slice B m cB)
  have c2 := Rd.other c1 (rP1.cell 0) (.slice B m cB)
  have b2 := b1.setCell (p := ⟨w.heap.size + 1, 0, none⟩) (Nat.le_succ _) (.slice B m cB)
  exact ⟨S, sn, sc, sg, B, m, cB, xss, O, on, oc, ys, rfl, s2.seg.more (by simp), OwnR.segs o2, c2.seg.more (by simp), h1, h2, h3, b2⟩

/-- behind the first two draws -/
theorem v4_mk {w w2 w4 W W2 : World} {p : Nat} {A : Option Addr} {n c : Nat} {S : Option Addr} {sn sc : Nat} {sg : List Int} {B : Option Addr} {m cB : Nat} {xss : List (List Int)}
    (hp : w.heap.size + 1 < p) (rN : Row W w.heap.size 26 #[.slice none 0 0]) (rP : Row W (w.heap.size + 1) 35 #[.slice none 0 0]) (b : Below w.heap.size w W) (s : Rd W p W.heap.size S sn sg) (hW : W = w2.alloc (.cells #[.slice S sn sc] 26)) (hp2 : p < w2.heap.size)
    (own : OwnR w4 p W.heap.size B m cB xss) (d : Dice w4 p A n c) (g : W.grownBy w4 (some p)) (hW2 : W2 = w4.alloc (.cells #[.slice B m cB] 35)) : V4 w p A n c w2.heap.size w4.heap.size S sn sc sg B m cB xss W2 := by
  have r6 : Row W w2.heap.size 26 #[.slice S sn sc] := by rw [hW]; exact Row.new _ _ _
  have hz := r6.lt
  have hzg := g.size
  have bb : Below w4.heap.size w4 W2 := by rw [hW2]; exact (Below.refl _ _).alloc (Nat.le_refl _) _
  exact ⟨d.next bb, (Row.away rN g (fun e => by injection e; omega)).next bb, (Row.away rP g (fun e => by injection e; omega)).next bb, (Row.away r6 g (fun e => by injection e; omega)).next bb, by rw [hW2]; exact Row.new _ _ _, (((s.grown g (Nat.le_refl _)).more g.size).below bb (Nat.le_refl _)).more bb.size, (own.below bb).lower (by omega), next_trans (b.grown g b.size (fun k hk => by injection hk; omega)) bb, hp, hp2, by omega⟩

end Go.Proofs.YtkmhnkljigncmaaGreat.drawSS
end

section
/-
  CONTRACTS: spec.l2Filled, spec.Filled, impl.Filled. Conditions: the slices read as lists ('Seg', 'Segs'), at most 1048576 values. By an AI agent.
-/
namespace Go.Proofs.YtkmhnkljigncmaaGreat.filled
open Go.RowKit Go.Proofs.YtkmhnkljigncmaaGreat.base Go.Proofs.YtkmhnkljigncmaaGreat.ints Go.Proofs.YtkmhnkljigncmaaGreat.sig Go.Proofs.YtkmhnkljigncmaaGreat.cursor Go.Proofs.YtkmhnkljigncmaaGreat.term Go.Proofs.YtkmhnkljigncmaaGreat.termOk Go.Proofs.YtkmhnkljigncmaaGreat.marks Go.Proofs.YtkmhnkljigncmaaGreat.app Go.Proofs.YtkmhnkljigncmaaGreat.appAt Go.Proofs.YtkmhnkljigncmaaGreat.sym Go.Proofs.YtkmhnkljigncmaaGreat.sub Go.Proofs.YtkmhnkljigncmaaGreat.segs Go.Proofs.YtkmhnkljigncmaaGreat.segsHelp Go.Proofs.YtkmhnkljigncmaaGreat.termFacts Go.Proofs.YtkmhnkljigncmaaGreat.varsMath Go.Proofs.YtkmhnkljigncmaaGreat.varsOf Go.Proofs.YtkmhnkljigncmaaGreat.fillMath Go.Proofs.YtkmhnkljigncmaaGreat.look Go.Proofs.YtkmhnkljigncmaaGreat.shifted Go.Proofs.YtkmhnkljigncmaaGreat.substOk Go.Proofs.YtkmhnkljigncmaaGreat.gives
set_option maxRecDepth 100000

/-- a whole slice appended, at a step of a region that draws -/
theorem stepAppAll {w : World} {ops : Array Oper} {o : Oper} {a : Act} {K : Act → World → Prop} {Q : Exit → Act → World → Prop} {E : Prop} (hgd : o.guard = none) (s x : Operand)
    (ho : o.op = .call { callee := .builtin .append, args := #[s, x], argTypes := #[24, 24] })
    (base : Nat) (A : Option Addr) (n c : Nat) (xs : List Int) (hs : a.eval s = .slice A n c) (hown : Own w base (.slice A n c) xs)
    (S : Option Addr) (m c2 B : Nat) (ys : List Int) (hx : a.eval x = .slice S m c2) (hseg : Seg w B S m ys) (hm1 : 1 ≤ m) (hn : n ≤ 2097152) (hm : m ≤ 2097152) (hbase : base ≤ w.heap.size)
    (h : ∀ g' c' w', Own w' base (.slice (some ⟨g', 0, none⟩) (n + m) c') (xs ++ ys) → w.grownBy w' (blk A) → (blk A = some g' ∨ g' = w.heap.size) → g' < w'.heap.size → K (a.put o.dst (.slice (some ⟨g', 0, none⟩) (n + m) c')) w') :
    if Region.wanted o (yielded ops a.tmps) = true then Oper.wp Tryz.prog o a w K Q else E := by
  obtain ⟨i0, hi, hz0, hz1, hz2⟩ := info_parts info_i64
  have hl : xs.length = n := by
    obtain ⟨A', c', e⟩ := hown.slice
    exact (Value.slice.inj e).2.1.symm
  have hob : (Value.slice A n c).ownBlock = blk A := by cases A <;> rfl
  obtain ⟨b, off, e, _, hc⟩ := hseg.2 (by omega)
  subst e
  refine step_append_lies w hgd s x 24 ho base 2 i0 (.int .i64 0) 1 8 Tryz.underlying24 hi hz0 hz1 hz2 rfl (by decide) (.slice A n c) n (xs.map (Value.int .i64)) hs (by rw [← hl]; rw [← hl] at hown; exact hown)
    ⟨b, off, none⟩ m c2 (ys.map (Value.int .i64)) hx (by simp [hseg.1]) (fun j u hj => ?_) (fun u hu => ?_) (by omega) (by unfold maxLen; omega) (by omega) hbase w.heap.size rfl ?_
  · have hjl : j < m := by
      have := (List.getElem?_eq_some_iff.1 hj).1
      simp at this
      have := hseg.1
      omega
    have hcj := hc j hjl
    have e2 : (⟨b, off, none⟩ : Addr).add j = ⟨b, off + j, none⟩ := by unfold Addr.add; split <;> simp_all
    rw [e2, hcj, ← hj]
    have := hseg.1
    simp [List.getD, show j < ys.length by omega]
  · obtain ⟨y, _, rfl⟩ := List.mem_map.1 hu
    rfl
  · intro g' c' w' hown' hg hat hlt
    rw [← List.map_append] at hown'
    rw [hob] at hg hat
    refine h g' c' w' ?_ hg hat hlt
    have hl2 : (xs ++ ys).length = n + m := by simp [hl, hseg.1]
    unfold Own
    rw [hl2]
    exact hown'

/-- what filling answers -/
def fitsB (ss : List (List Int)) (t : List Int) : Bool := decide ((fillL (givesL ss) t).length ≤ 60)
def fitL (ss : List (List Int)) (t : List Int) : List Int := if fitsB ss t = true then fillL (givesL ss) t else []
theorem fits_no {ss : List (List Int)} {t : List Int} {k : Nat} (h : 60 < (fillL (givesL ss) (t.take k)).length) : fitsB ss t = false := by
  have e : fillL (givesL ss) t = fillL (givesL ss) (t.take k) ++ fillL (givesL ss) (t.drop k) := by rw [← fill_append, List.take_append_drop]
  unfold fitsB
  rw [e, List.length_append]
  simp
  omega

/-- the head of l2Filled's loop -/
def HeadF (w : World) (S : Option Addr) (m c mt : Nat) (ss : List (List Int)) (t : List Int) (out i : Value) (wr : World) : Prop :=
  ∃ (k : Nat) (O : Option Addr) (on oc : Nat), k ≤ mt ∧ i = .int .i64 k ∧ out = .slice O on oc ∧ on ≤ 60 ∧ Own wr (w.heap.size + 1) (.slice O on oc) (fillL (givesL ss) (t.take k)) ∧ Row wr w.heap.size 35 #[.slice S m c] ∧ Below w.heap.size w wr
theorem pairF_no {w wr : World} {ss : List (List Int)} {t : List Int} (h : fitsB ss t = false) (hb : Below w.heap.size w wr) : AnsPairO w (fitL ss t) (fitsB ss t) (.returned (.tuple #[.slice (some ⟨wr.heap.size, 0, none⟩) 0 0, .bool false])) (wr.alloc (.cells #[] 2)) :=
  ⟨_, 0, 0, by rw [h], by unfold fitL; rw [if_neg (by rw [h]; simp)]; exact own_empty wr w.heap.size hb.size, hb.alloc hb.size _⟩

set_option maxHeartbeats 8000000 in
theorem l2Filled (S A : Option Addr) (m c mt ct : Nat) (ss : List (List Int)) (t : List Int) (w : World) (h : Segs w w.heap.size S m ss) (h' : Seg w w.heap.size A mt t) (ht : tot ss ≤ 1048576) (hmt : mt ≤ 60) (hv : ∀ x ∈ t, -24 ≤ x) (hM : ∀ i, (givesL ss i).length ≤ 60) :
    Calls Tryz.prog 18 #[.agg #[.slice S m c], .slice A mt ct] w (AnsPairO w (fitL ss t) (fitsB ss t)) := by
  have HL := Lib.hid h'.1
  have HV := Lib.hid hv
  have HM := Lib.hid hM
  have HT := Lib.hid ht
  have S0 : HeadF w S m c mt ss t (.slice (some ⟨w.heap.size + 1, 0, none⟩) 0 0) (.int .i64 0) ((w.alloc (.cells #[.slice S m c] 35)).alloc (.cells #[] 2)) :=
    ⟨0, _, _, _, Nat.zero_le _, rfl, rfl, by omega, by have := own_empty (w.alloc (.cells #[.slice S m c] 35)) (w.heap.size + 1) (by simp); simpa [fillL] using this, (Row.new _ _ _).alloc _, ((Below.refl _ _).alloc (Nat.le_refl _) _).alloc (by simp) _⟩
  have HS0 := Lib.hid S0
  clear S0 hv hM ht
  go_enter Tryz.func18, Tryz.ntmps18
  go_wp2_with fail
  go_loopw [6, 7] (fun out i wr => HeadF w S m c mt ss t out i wr) (fun _ i _ => mt - (intOf i).toNat)
  case atStart => exact HS0.out
  case round =>
    obtain ⟨k, O, on, oc, hk, rfl, rfl, hon, ho, hr, hb⟩ := hrel
    clear HS0
    have hsz := hr.lt
    by_cases hlt : k < mt
    · obtain ⟨b, off, x, rfl, hbb, hx, ex⟩ := h'.spot hlt
      have hx1 : wr.cell? ⟨b, off + k, none⟩ = some (.int .i64 x) := (hb.cell (p := ⟨b, off + k, none⟩) hbb).trans hx
      have hbr : b < wr.heap.size := Nat.lt_of_lt_of_le hbb hb.size
      have cS : wr.cell? ⟨w.heap.size, 0, none⟩ = some (.slice S m c) := hr.cell 0
      have hmem : x ∈ t := by
        have hkl : k < t.length := by rw [HL.out]; exact hlt
        have := ex.out
        rw [← this]
        simp [List.getD, hkl]
      have hx24 : -24 ≤ x := HV.out x hmem
      have E := Lib.hid (fill_take (L := givesL ss) (t := t) (k := k) (by rw [HL.out]; exact hlt) ex.out)
      have i0 : (0 : Int) ≤ (k : Int) := by omega
      have i1 : (k : Int) < (mt : Int) := by omega
      have HN := Lib.hid (Own.len ho)
      have hx0 := hx
      clear hmem hx h' ex
      by_cases hpos : 0 ≤ x
      · have R := Lib.hid (rep_sym (L := givesL ss) hpos)
        have d1 : decide (x < 0) = false := by simp; omega
        by_cases h60 : on + 1 ≤ 60
        · go_wp2_with (at_builtin; refine app1 rfl _ _ rfl (w.heap.size + 1) O on oc (fillL (givesL ss) (t.take k)) rfl (Own.alloc ho _) wr.heap.size 1 x rfl ((Row.new _ _ _).cell 0) (by omega) (by simp; omega) ?_; intro O' oc' w2 ho2 b2)
          have S1 : HeadF w S m c mt ss t (.slice O' (on + 1) oc') (.int .i64 ((k : Int) + 1)) w2 := ⟨k + 1, O', on + 1, oc', hlt, by simp, rfl, h60, by rw [E.out, R.out]; exact ho2, (hr.alloc _).below b2 (Nat.lt_succ_self _), (hb.alloc (Nat.le_of_lt hsz) _).trans (b2.mono (Nat.le_succ _))⟩
          have HS1 := Lib.hid S1
          clear S1 ho2 b2 ho hr hb R E cS
          go_wp2
          go_roundw
          case rel => exact HS1.out
          case measure => simp [intOf]; omega
        · have NO := Lib.hid (fits_no (ss := ss) (t := t) (k := k + 1) (by rw [E.out, R.out, List.length_append, ← HN.out]; simp; omega))
          go_wp2_with (at_builtin; refine app1 rfl _ _ rfl (w.heap.size + 1) O on oc (fillL (givesL ss) (t.take k)) rfl (Own.alloc ho _) wr.heap.size 1 x rfl ((Row.new _ _ _).cell 0) (by omega) (by simp; omega) ?_; intro O' oc' w2 ho2 b2)
          have F := Lib.hid (pairF_no NO.out ((hb.alloc (Nat.le_of_lt hsz) _).trans (b2.mono (Nat.le_succ _))))
          clear ho2 b2 ho hr hb R E cS
          go_wp2
          go_ret2
          exact F.out
      · have hneg : x < 0 := by omega
        have R := Lib.hid (rep_var (L := givesL ss) hneg)
        obtain ⟨i, hi⟩ : ∃ i : Nat, (-1 - x).toNat = i := ⟨_, rfl⟩
        rw [hi] at R
        have hix : (i : Int) = -1 - x := by omega
        have LG := Lib.hid (l2Gives S m c ss i wr.drew (((h.below hb).more hb.size).drew) HT.out (by omega))
        rw [hix] at LG
        have hlen : (givesL ss i).length ≤ 60 := HM.out i
        have hlen1 : 1 ≤ (givesL ss i).length := gives_pos ss i
        obtain ⟨q, hq⟩ : ∃ q, (givesL ss i).length = q := ⟨_, rfl⟩
        rw [hq] at hlen hlen1
        have HQ := Lib.hid hq
        have hw1 : IntKind.i64.wrap (-1 - x) = -1 - x := by rw [IntKind.wrap_i64]; omega
        have hod := Own.drew ho
        have hrd := hr.drew
        have hbd := hb.drew
        clear hix hi hq h
        go_wp2_with fail
        go_region_held3 (fun w' => w'.cell? ⟨w.heap.size, 0, none⟩ = some (.slice S m c) ∧ w'.cell? ⟨b, off + k, none⟩ = some (.int .i64 x))
          (go_keep)
          (first
            | (go_at_call 44; refine LG.out.mono ?_; rintro e w1 ⟨D, dn, dc, rfl, od, bb⟩; obtain rfl : dn = q := (by rw [Own.len od]; exact HQ.out); have ho1 := Own.next hod bb; have hr1 := hrd.next bb; have hb1 := next_trans hbd bb; have cS1 : w1.cell? ⟨w.heap.size, 0, none⟩ = some (.slice S m c) := hr1.cell 0; have cX1 : w1.cell? ⟨b, off + k, none⟩ = some (.int .i64 x) := (bb.cell (p := ⟨b, off + k, none⟩) hbr).trans hx1)
            | (refine stepAppAll rfl _ _ rfl (w.heap.size + 1) O on oc (fillL (givesL ss) (t.take k)) (by rfl) ho1 D _ dc w1.heap.size (givesL ss i) (by rfl) (Own.seg od) (by omega) (by omega) (by omega) (by have := hr1.lt; omega) ?_; intro O' oc' w2 ho2 hg2 hat2 hlt2; have hr2 := Row.away hr1 hg2 (fun e => by have := (World.ownsRow.lt ho1 w.heap.size (by rw [blk_own]; exact e)).1; omega); have hb2 : Below w.heap.size w w2 := hb1.grown hg2 hb1.size (fun z hz => by have := (World.ownsRow.lt ho1 z (by rw [blk_own]; exact hz)).1; omega); have cS2 : w2.cell? ⟨w.heap.size, 0, none⟩ = some (.slice S m c) := hr2.cell 0; have cX2 : w2.cell? ⟨b, off + k, none⟩ = some (.int .i64 x) := (hb2.cell (p := ⟨b, off + k, none⟩) hbb).trans hx0))
        have hsum : (fillL (givesL ss) (t.take k) ++ givesL ss i).length = on + dn := by rw [List.length_append, ← HN.out, HQ.out]
        clear cS1 cX1 ho1 hr1 hb1 od bb hod hrd hbd LG ho hr hb cS hx1 hg2 hat2 HM HV
        by_cases h60 : on + dn ≤ 60
        · have S1 : HeadF w S m c mt ss t (.slice (some ⟨O', 0, none⟩) (on + dn) oc') (.int .i64 ((k : Int) + 1)) w2 := ⟨k + 1, _, on + dn, oc', hlt, by simp, rfl, h60, by rw [E.out, R.out]; exact ho2, hr2, hb2⟩
          have HS1 := Lib.hid S1
          clear S1 ho2 hr2 hb2 R E HQ hsum
          go_wp2
          go_roundw
          case rel => exact HS1.out
          case measure => simp [intOf]; omega
        · have NO := Lib.hid (fits_no (ss := ss) (t := t) (k := k + 1) (by rw [E.out, R.out, hsum]; omega))
          have F := Lib.hid (pairF_no NO.out hb2)
          clear ho2 hr2 hb2 R E HQ hsum
          go_wp2
          go_ret2
          exact F.out
    · have F : AnsPairO w (fitL ss t) (fitsB ss t) (.returned (.tuple #[.slice O on oc, .bool true])) wr := by
        rw [List.take_of_length_le (by rw [HL.out]; omega)] at ho
        have hB : fitsB ss t = true := by unfold fitsB; rw [← Own.len ho]; simp; omega
        exact ⟨O, on, oc, by rw [hB], by unfold fitL; rw [if_pos hB]; exact Own.lower ho (Nat.le_succ _), hb⟩
      have HF := Lib.hid F
      clear F ho hr hb h h'
      go_wp2
      go_ret2
      exact HF.out

/-- what Filled answers -/
def filledB (sg : List Int) (ss : List (List Int)) (t : List Int) : Bool := substOkB sg ss && (termOkB sg t && fitsB ss t)
def filledL (sg : List Int) (ss : List (List Int)) (t : List Int) : List Int := if filledB sg ss t = true then fillL (givesL ss) t else []
theorem filled_s {sg : List Int} {ss : List (List Int)} {t : List Int} (h : substOkB sg ss = false) : filledB sg ss t = false := by unfold filledB; rw [h, Bool.false_and]
theorem filled_t {sg : List Int} {ss : List (List Int)} {t : List Int} (h : termOkB sg t = false) : filledB sg ss t = false := by unfold filledB; rw [h, Bool.false_and, Bool.and_false]
theorem filled_b {sg : List Int} {ss : List (List Int)} {t : List Int} (h : substOkB sg ss = true) (h' : termOkB sg t = true) : filledB sg ss t = fitsB ss t := by unfold filledB; rw [h, h', Bool.true_and, Bool.true_and]
theorem filled_l {sg : List Int} {ss : List (List Int)} {t : List Int} (h : substOkB sg ss = true) (h' : termOkB sg t = true) : filledL sg ss t = fitL ss t := by unfold filledL fitL; rw [filled_b h h']
theorem filled_len (sg : List Int) (ss : List (List Int)) (t : List Int) : (filledL sg ss t).length ≤ 60 := by
  unfold filledL filledB fitsB
  split
  · rename_i h
    simp only [Bool.and_eq_true, decide_eq_true_eq] at h
    exact h.2.2
  · simp
theorem pairSF_no {w wr : World} {sg : List Int} {ss : List (List Int)} {t : List Int} (h : filledB sg ss t = false) (hb : Below w.heap.size w wr) : AnsPairO w (filledL sg ss t) (filledB sg ss t) (.returned (.tuple #[.slice (some ⟨wr.heap.size, 0, none⟩) 0 0, .bool false])) (wr.alloc (.cells #[] 2)) :=
  ⟨_, 0, 0, by rw [h], by unfold filledL; rw [if_neg (by rw [h]; simp)]; exact own_empty wr w.heap.size hb.size, hb.alloc hb.size _⟩
theorem pairOF_no {w w' : World} {sg : List Int} {ss : List (List Int)} {t : List Int} (h : filledB sg ss t = false) (hb : Below w.heap.size w w') : AnsPairO w (filledL sg ss t) (filledB sg ss t) (.returned (.tuple #[.slice none 0 0, .bool false])) w' :=
  ⟨none, 0, 0, by rw [h], by unfold filledL; rw [if_neg (by rw [h]; simp)]; exact Own.nil _ _, hb⟩

set_option maxHeartbeats 2000000 in
theorem specFilledO (A S A' : Option Addr) (n c m c' q cq : Nat) (sg : List Int) (ss : List (List Int)) (t : List Int) (w : World) (h : Seg w w.heap.size A n sg) (h' : Segs w w.heap.size S m ss) (h2 : Seg w w.heap.size A' q t) (hn : n ≤ 1048576) (ht : tot ss ≤ 1048576) (hq : q ≤ 1048576) :
    Calls Tryz.prog 35 #[.agg #[.slice A n c], .agg #[.slice S m c'], .slice A' q cq] w (AnsPairO w (filledL sg ss t) (filledB sg ss t)) := by
  obtain ⟨W, hW, rA, rS, bel⟩ := boxes2 w A n c S m c'
  have HW := Lib.hid hW
  have HL := Lib.hid h2.1
  have s := h.next bel
  have s1 := h'.next bel
  have s2 := h2.next bel
  have L := Lib.hid (specSubstOk A S n c m c' sg ss W s s1 hn ht)
  clear hW h h' h2
  cases hok : substOkB sg ss with
  | false =>
    have HS := Lib.hid hok
    clear hok s s1 s2
    go_enter Tryz.func35, Tryz.ntmps35
    go_wp2_with fail
    rw [← HW.out]
    refine L.out.mono ?_
    rintro e w1 ⟨he, bb⟩
    rw [HS.out] at he
    subst he
    have bel1 := next_trans bel bb
    have F := Lib.hid (pairSF_no (filled_s (t := t) HS.out) bel1)
    clear bb bel bel1 rA rS
    go_wp2
    go_ret2
    exact F.out
  | true =>
    have HS := Lib.hid hok
    clear hok
    go_enter Tryz.func35, Tryz.ntmps35
    go_wp2_with fail
    rw [← HW.out]
    refine L.out.mono ?_
    rintro e w1 ⟨he, bb⟩
    rw [HS.out] at he
    subst he
    replace s := s.next bb
    replace s1 := s1.next bb
    replace s2 := s2.next bb
    replace rA := rA.next bb
    replace rS := rS.next bb
    replace bel := next_trans bel bb
    have cA : w1.cell? ⟨w.heap.size, 0, none⟩ = some (.slice A n c) := rA.cell 0
    have L2 := Lib.hid (specTermOk A A' n c q cq sg t w1 s s2 hn hq)
    clear bb L
    cases hok2 : termOkB sg t with
    | false =>
      have HS2 := Lib.hid hok2
      clear hok2 s s1 s2
      go_wp2_with fail
      refine L2.out.mono ?_
      rintro e w2 ⟨he, bb⟩
      rw [HS2.out] at he
      subst he
      have bel1 := next_trans bel bb
      have F := Lib.hid (pairSF_no (filled_t (ss := ss) HS2.out) bel1)
      clear bb bel bel1 rA rS cA L2
      go_wp2
      go_ret2
      exact F.out
    | true =>
      have HS2 := Lib.hid hok2
      have HV := Lib.hid (fun x hx => (term_mem (x := x) hok2 hx).1)
      have H60 : q ≤ 60 := by rw [← HL.out]; exact (term_len hok2).2
      clear hok2
      go_wp2_with fail
      refine L2.out.mono ?_
      rintro e w2 ⟨he, bb⟩
      rw [HS2.out] at he
      subst he
      replace s1 := s1.next bb
      replace s2 := s2.next bb
      replace bel := next_trans bel bb
      have cS : w2.cell? ⟨w.heap.size + 1, 0, none⟩ = some (.slice S m c') := (rS.next bb).cell 0
      have L3 := Lib.hid (l2Filled S A' m c' q cq ss t w2 s1 s2 ht H60 HV.out (gives_len HS.out))
      clear bb L2 s1 s2 cA rA rS
      go_wp2_with fail
      refine L3.out.mono ?_
      rintro e w3 ⟨O, on, oc, rfl, ho, bb⟩
      have hsz := bel.size
      have F : AnsPairO w (filledL sg ss t) (filledB sg ss t) (.returned (.tuple #[.slice O on oc, .bool (fitsB ss t)])) w3 :=
        ⟨O, on, oc, by rw [filled_b HS.out HS2.out], by rw [filled_l HS.out HS2.out]; exact Own.lower ho hsz, next_trans bel bb⟩
      have HF := Lib.hid F
      clear F ho bb bel L3 cS
      generalize fitsB ss t = z at *
      go_wp2
      go_ret2
      exact HF.out

theorem specFilled (A S A' : Option Addr) (n c m c' q cq : Nat) (sg : List Int) (ss : List (List Int)) (t : List Int) (w : World) (h : Seg w w.heap.size A n sg) (h' : Segs w w.heap.size S m ss) (h2 : Seg w w.heap.size A' q t) (hn : n ≤ 1048576) (ht : tot ss ≤ 1048576) (hq : q ≤ 1048576) :
    Calls Tryz.prog 35 #[.agg #[.slice A n c], .agg #[.slice S m c'], .slice A' q cq] w (AnsPairS w (filledL sg ss t) (filledB sg ss t)) :=
  (specFilledO A S A' n c m c' q cq sg ss t w h h' h2 hn ht hq).mono fun _ _ ⟨A0, n0, c0, e, ho, hb⟩ => ⟨A0, n0, c0, e, Own.seg ho, hb⟩

set_option maxHeartbeats 4000000 in
theorem implFilled (A S A' : Option Addr) (n c m c' q cq : Nat) (sg : List Int) (ss : List (List Int)) (t : List Int) (w : World) (h : Seg w w.heap.size A n sg) (h' : Segs w w.heap.size S m ss) (h2 : Seg w w.heap.size A' q t) (hn : n ≤ 1048576) (ht : tot ss ≤ 1048576) (hq : q ≤ 1048576) :
    Calls Tryz.prog 16 #[.agg #[.slice A n c], .agg #[.slice S m c'], .slice A' q cq] w (AnsPairO w (filledL sg ss t) (filledB sg ss t)) := by
  obtain ⟨W, hW, rA, rS, bel⟩ := boxes2 w A n c S m c'
  have HW := Lib.hid hW
  have HL := Lib.hid h2.1
  have hm : m ≤ 1048576 := tot_len h'.1 ht
  have s := h.next bel
  have s1 := h'.next bel
  have s2 := h2.next bel
  have L := Lib.hid (implSubstOk A S n c m c' sg ss W s s1 hn ht)
  clear hW h h' h2
  cases hok : substOkB sg ss with
  | false =>
    have HS := Lib.hid hok
    clear hok s s1 s2
    go_enter Tryz.func16, Tryz.ntmps16
    go_wp2_with fail
    rw [← HW.out]
    refine L.out.mono ?_
    rintro e w1 ⟨he, bb⟩
    rw [HS.out] at he
    subst he
    have F := Lib.hid (pairOF_no (filled_s (t := t) HS.out) (next_trans bel bb))
    clear bb bel rA rS
    go_wp2
    go_ret2
    exact F.out
  | true =>
    have HS := Lib.hid hok
    clear hok
    go_enter Tryz.func16, Tryz.ntmps16
    go_wp2_with fail
    rw [← HW.out]
    refine L.out.mono ?_
    rintro e w1 ⟨he, bb⟩
    rw [HS.out] at he
    subst he
    replace s := s.next bb
    replace s1 := s1.next bb
    replace s2 := s2.next bb
    replace rA := rA.next bb
    replace rS := rS.next bb
    replace bel := next_trans bel bb
    have cA : w1.cell? ⟨w.heap.size, 0, none⟩ = some (.slice A n c) := rA.cell 0
    have L2 := Lib.hid (implTermOk A A' n c q cq sg t w1 s s2 hn hq)
    clear bb L
    cases hok2 : termOkB sg t with
    | false =>
      have HS2 := Lib.hid hok2
      clear hok2 s s1 s2
      go_wp2_with fail
      refine L2.out.mono ?_
      rintro e w2 ⟨he, bb⟩
      rw [HS2.out] at he
      subst he
      have F := Lib.hid (pairOF_no (filled_t (ss := ss) HS2.out) (next_trans bel bb))
      clear bb bel rA rS cA L2
      go_wp2
      go_ret2
      exact F.out
    | true =>
      have HS2 := Lib.hid hok2
      have HV := Lib.hid (fun x hx => (term_mem (x := x) hok2 hx).1)
      have H60 : q ≤ 60 := by rw [← HL.out]; exact (term_len hok2).2
      have HG := Lib.hid (gives_len HS.out)
      clear hok2
      go_wp2_with fail
      refine L2.out.mono ?_
      rintro e w2 ⟨he, bb⟩
      rw [HS2.out] at he
      subst he
      replace s1 := s1.next bb
      replace s2 := s2.next bb
      replace bel := next_trans bel bb
      have cS : w2.cell? ⟨w.heap.size + 1, 0, none⟩ = some (.slice S m c') := (rS.next bb).cell 0
      clear bb L2 cA rA rS
      go_wp2_with fail
      refine (lookupIn S m c' w2).mono ?_
      rintro e w3 ⟨rfl, hw3⟩
      have b3 : Below w2.heap.size w2 w3 := by rw [hw3]; exact (Below.refl _ _).alloc (Nat.le_refl _) _
      have r3 : Row w3 w2.heap.size 35 #[.slice S m c'] := by rw [hw3]; exact Row.new _ _ _
      replace s1 := s1.next b3
      replace s2 := s2.next b3
      replace bel := next_trans bel b3
      have L3 := Lib.hid (fill 70 #[.pointer (some ⟨w2.heap.size, 0, none⟩)] (enters_of Tryz.func70 (by kernel_rfl) rfl) A' q cq t _ w3 (lookSubst w2.heap.size S m c' ss w3 r3 s1 hm) s2 H60 HV.out (fun i => Nat.le_trans (HG.out i) (by omega)))
      clear hw3 b3 r3 s1 s2 cS
      go_wp2_with fail
      refine L3.out.mono ?_
      rintro e w4 ⟨O, on, oc, rfl, ho, bb⟩
      have hsize := bel.size
      replace bel := next_trans bel bb
      have ho2 := Own.lower ho hsize
      have hlen := Own.len ho
      have hon : on ≤ 245760 := by rw [hlen]; have := fill_bound (L := givesL ss) (t := t) (k := t.length) (fun i => Nat.le_trans (HG.out i) (by omega)) HL.out H60; rwa [List.take_length] at this
      have F : ∀ z : Bool, z = decide (60 < on) → AnsPairO w (filledL sg ss t) (filledB sg ss t) (.returned (.tuple #[.slice (if z then none else O) (if z then 0 else on) (if z then 0 else oc), .bool !z])) w4 := fun z hz => by
        by_cases h60 : 60 < on
        · rw [decide_eq_true h60] at hz
          subst hz
          exact pairOF_no (by rw [filled_b HS.out HS2.out]; unfold fitsB; rw [← hlen]; simp; omega) bel
        · rw [decide_eq_false h60] at hz
          subst hz
          have hb : filledB sg ss t = true := by rw [filled_b HS.out HS2.out]; unfold fitsB; rw [← hlen]; simp; omega
          exact ⟨O, on, oc, by rw [hb]; rfl, by unfold filledL; rw [if_pos hb]; exact ho2, bel⟩
      have HF := Lib.hid F
      clear F ho ho2 bb bel L3 hlen
      go_wp2_with fail
      refine (tooLong O on oc w4 (by omega)).mono ?_
      rintro e w5 ⟨rfl, rfl⟩
      obtain ⟨z, hz⟩ : ∃ z, decide (60 < on) = z := ⟨_, rfl⟩
      have G := Lib.hid (HF.out z hz.symm)
      rw [hz]
      clear HF hz
      cases z
      · go_wp2
        go_ret2
        exact G.out
      · go_wp2
        go_ret2
        exact G.out
end Go.Proofs.YtkmhnkljigncmaaGreat.filled
end

section
/-
  CONTRACT: spec.l4Draw: a drawn signature, a pattern, a term. Conditions: a cursor ('Dice'). By an AI agent.
-/
namespace Go.Proofs.YtkmhnkljigncmaaGreat.drawMatch
open Go.RowKit Go.Proofs.YtkmhnkljigncmaaGreat.base Go.Proofs.YtkmhnkljigncmaaGreat.ints Go.Proofs.YtkmhnkljigncmaaGreat.sig Go.Proofs.YtkmhnkljigncmaaGreat.term Go.Proofs.YtkmhnkljigncmaaGreat.cursor Go.Proofs.YtkmhnkljigncmaaGreat.termOk Go.Proofs.YtkmhnkljigncmaaGreat.marks Go.Proofs.YtkmhnkljigncmaaGreat.app Go.Proofs.YtkmhnkljigncmaaGreat.sym Go.Proofs.YtkmhnkljigncmaaGreat.segs Go.Proofs.YtkmhnkljigncmaaGreat.segsHelp Go.Proofs.YtkmhnkljigncmaaGreat.dice Go.Proofs.YtkmhnkljigncmaaGreat.drawSig Go.Proofs.YtkmhnkljigncmaaGreat.drawTerm Go.Proofs.YtkmhnkljigncmaaGreat.drawAny Go.Proofs.YtkmhnkljigncmaaGreat.drawTwo Go.Proofs.YtkmhnkljigncmaaGreat.drawPair Go.Proofs.YtkmhnkljigncmaaGreat.drawOne Go.Proofs.YtkmhnkljigncmaaGreat.drawSub Go.Proofs.YtkmhnkljigncmaaGreat.drawSA Go.Proofs.YtkmhnkljigncmaaGreat.drawSS Go.Proofs.YtkmhnkljigncmaaGreat.drawS Go.Proofs.YtkmhnkljigncmaaGreat.fillMath Go.Proofs.YtkmhnkljigncmaaGreat.shifted Go.Proofs.YtkmhnkljigncmaaGreat.filled
set_option maxRecDepth 100000

/-- what is known in the course of the draw: the result's box at w.heap.size, the signature's variable at v -/
structure M4 (w : World) (p : Nat) (A : Option Addr) (n c v : Nat) (S : Option Addr) (sn sc : Nat) (sg : List Int) (O : Option Addr) (on : Nat) (xs : List Int) (wr : World) : Prop where
  d : Dice wr p A n c
  rN : Row wr w.heap.size 26 #[.slice none 0 0]
  rV : Row wr v 26 #[.slice S sn sc]
  s : Rd wr p wr.heap.size S sn sg
  o : Rd wr p wr.heap.size O on xs
  g : w.grownBy wr (some p)
  hp : p < w.heap.size
  hv : w.heap.size < v
section
variable {w : World} {p : Nat} {A : Option Addr} {n c v : Nat} {S : Option Addr} {sn sc : Nat} {sg : List Int} {O : Option Addr} {on : Nat} {xs : List Int} {wr w' : World}
theorem M4.dice (t : M4 w p A n c v S sn sc sg O on xs wr) (d : Dice w' p A n c) (hg : wr.grownBy w' (some p)) : M4 w p A n c v S sn sc sg O on xs w' :=
  ⟨d, Row.away t.rN hg (fun e => by injection e; have := t.hp; omega), Row.away t.rV hg (fun e => by injection e; have := t.hp; have := t.hv; omega), (t.s.grown hg (Nat.le_refl _)).more hg.size, (t.o.grown hg (Nat.le_refl _)).more hg.size, grown_trans t.g hg, t.hp, t.hv⟩
theorem M4.next (t : M4 w p A n c v S sn sc sg O on xs wr) (hb : Below wr.heap.size wr w') : M4 w p A n c v S sn sc sg O on xs w' :=
  ⟨t.d.next hb, t.rN.next hb, t.rV.next hb, (t.s.below hb (Nat.le_refl _)).more hb.size, (t.o.below hb (Nat.le_refl _)).more hb.size, grown_over t.g hb t.g.size, t.hp, t.hv⟩
theorem M4.drew (t : M4 w p A n c v S sn sc sg O on xs wr) : M4 w p A n c v S sn sc sg O on xs wr.drew := t.next ⟨rfl, rfl, rfl, Nat.le_refl _, fun _ _ => rfl⟩
end

/-- a drawn signature and two drawn lists, in no block of the cursor's -/
def AnsM4 (w : World) (p : Nat) (A : Option Addr) (n c : Nat) (e : Ending) (w' : World) : Prop :=
  ∃ S sn sc sg O on oc xs Q qn qc ys, e = .returned (.tuple #[.agg #[.slice S sn sc], .slice O on oc, .slice Q qn qc]) ∧ Rd w' p w'.heap.size S sn sg ∧ Rd w' p w'.heap.size O on xs ∧ Rd w' p w'.heap.size Q qn ys ∧ sn ≤ 9 ∧ (on ≤ 65 ∧ Cap O on oc) ∧ (qn ≤ 65 ∧ Cap Q qn qc) ∧ Dice w' p A n c ∧ w.grownBy w' (some p)
theorem m4_of {w u : World} {p : Nat} {A : Option Addr} {n c v : Nat} {S : Option Addr} {sn sc : Nat} {sg : List Int} {O : Option Addr} {on oc : Nat} {xs : List Int} {Q : Option Addr} {qn qc : Nat} {ys : List Int} (t : M4 w p A n c v S sn sc sg O on xs u) (hq : Rd u p u.heap.size Q qn ys)
    (h1 : sn ≤ 9) (h2 : on ≤ 65 ∧ Cap O on oc) (h3 : qn ≤ 65 ∧ Cap Q qn qc) : AnsM4 w p A n c (.returned (.tuple #[.agg #[.slice S sn sc], .slice O on oc, .slice Q qn qc])) (u.setCell ⟨w.heap.size, 0, none⟩ (.slice S sn sc)) :=
  ⟨S, sn, sc, sg, O, on, oc, xs, Q, qn, qc, ys, rfl, (Rd.other t.s (t.rN.cell 0) _).more (by simp), (Rd.other t.o (t.rN.cell 0) _).more (by simp), (Rd.other hq (t.rN.cell 0) _).more (by simp), h1, h2, h3, Dice.other t.d (t.rN.cell 0) (by have := t.hp; omega) _, grown_set t.g (Nat.le_refl _) _ _⟩

end Go.Proofs.YtkmhnkljigncmaaGreat.drawMatch
end

section
/-
  CONTRACTS: spec.l1There, impl.cursorAt, spec.EndOf, impl.EndOf. Conditions: the slices read as lists ('Seg'), at most 1048576 numbers; the place is an int64. By an AI agent.
-/
namespace Go.Proofs.YtkmhnkljigncmaaGreat.endAt
open Go.RowKit Go.Proofs.YtkmhnkljigncmaaGreat.base Go.Proofs.YtkmhnkljigncmaaGreat.ints Go.Proofs.YtkmhnkljigncmaaGreat.sig Go.Proofs.YtkmhnkljigncmaaGreat.term Go.Proofs.YtkmhnkljigncmaaGreat.arity Go.Proofs.YtkmhnkljigncmaaGreat.endOf Go.Proofs.YtkmhnkljigncmaaGreat.cursor Go.Proofs.YtkmhnkljigncmaaGreat.termOk

def inB (t : List Int) (x : Int) : Bool := decide (0 ≤ x ∧ x < t.length)
def thereB (sg t : List Int) (x : Int) : Bool := termOkB sg t && inB t x
def endOfI (sg t : List Int) (x : Int) : Int := if thereB sg t x = true then endI sg t x.toNat else -1

theorem termOk_parts {sg t : List Int} (h : termOkB sg t = true) : sigOkB sg = true ∧ t.length ≤ 60 ∧ scan sg 1 t = some t.length := by
  unfold termOkB termB at h
  simp only [Bool.and_eq_true, decide_eq_true_eq] at h
  exact h
theorem there_parts {sg t : List Int} {x : Int} (h : thereB sg t x = true) : termOkB sg t = true ∧ 0 ≤ x ∧ x < t.length := by
  unfold thereB inB at h
  simp only [Bool.and_eq_true, decide_eq_true_eq] at h
  exact h
theorem there_no {sg t : List Int} {x : Int} (h : termOkB sg t = false ∨ x < 0 ∨ (t.length : Int) ≤ x) : thereB sg t x = false := by
  unfold thereB inB
  rcases h with h | h | h
  · rw [h, Bool.false_and]
  · rw [decide_eq_false (by omega), Bool.and_false]
  · rw [decide_eq_false (by omega), Bool.and_false]
theorem there_yes {sg t : List Int} {x : Int} (h : termOkB sg t = true) (h0 : 0 ≤ x) (h1 : x < t.length) : thereB sg t x = true := by
  unfold thereB inB
  rw [h, decide_eq_true ⟨h0, h1⟩]
  rfl

/-- l1There -/
theorem there (A : Option Addr) (m c : Nat) (x : Int) (b : Bool) (w : World) (hm : m ≤ 1048576) (hb : decide (0 ≤ x ∧ x < m) = b) :
    Calls Tryz.prog 82 #[.slice A m c, .int .i64 x] w fun e w' => w = w' ∧ e = .returned (.bool b) := by
  by_cases h : 0 ≤ x ∧ x ≤ (m : Int) - 1
  · have hbt : b = true := by rw [← hb]; simp; omega
    subst hbt
    clear hb
    go_enter Tryz.func82, Tryz.ntmps82
    go_wp2_with fail
    refine (inYes _ _ _ _ h).mono ?_
    rintro e w' ⟨rfl, rfl⟩
    go_wp2
    go_ret
    exact ⟨rfl, rfl⟩
  · have hbt : b = false := by rw [← hb]; simp; omega
    subst hbt
    clear hb
    go_enter Tryz.func82, Tryz.ntmps82
    go_wp2_with fail
    refine (inNo _ _ _ _ h).mono ?_
    rintro e w' ⟨rfl, rfl⟩
    go_wp2
    go_ret
    exact ⟨rfl, rfl⟩

def AnsEndOf (w : World) (sg t : List Int) (x : Int) (e : Ending) (w' : World) : Prop := e = .returned (.int .i64 (endOfI sg t x)) ∧ Below w.heap.size w w'
theorem endOf_no {w w' : World} {sg t : List Int} {x : Int} (h : thereB sg t x = false) (hb : Below w.heap.size w w') : AnsEndOf w sg t x (.returned (.int .i64 (-1))) w' :=
  ⟨by unfold endOfI; rw [if_neg (by rw [h]; simp)], hb⟩
theorem endOf_yes {w w' : World} {sg t : List Int} {x : Int} (h : thereB sg t x = true) (hb : Below w.heap.size w w') : AnsEndOf w sg t x (.returned (.int .i64 (endI sg t x.toNat))) w' :=
  ⟨by unfold endOfI; rw [if_pos h], hb⟩

/-- what cursorAt gives: a new cursor at the place, or nil -/
def AnsAt (w : World) (A : Option Addr) (n c : Nat) (A' : Option Addr) (m c' : Nat) (sg t : List Int) (x : Int) (e : Ending) (w' : World) : Prop :=
  Below w.heap.size w w' ∧ ((thereB sg t x = true ∧ ∃ p, e = .returned (.pointer (some ⟨p, 0, none⟩)) ∧ w.heap.size ≤ p ∧ Cur w' p A n c A' m c' sg t x.toNat) ∨ (thereB sg t x = false ∧ e = .returned (.pointer none)))
theorem at_no {w w' : World} {A A' : Option Addr} {n c m c' : Nat} {sg t : List Int} {x : Int} (h : thereB sg t x = false) (hb : Below w.heap.size w w') : AnsAt w A n c A' m c' sg t x (.returned (.pointer none)) w' := ⟨hb, .inr ⟨h, rfl⟩⟩

set_option maxHeartbeats 1000000 in
theorem cursorAt (A A' : Option Addr) (n c m c' : Nat) (sg t : List Int) (x : Int) (w : World) (h : Seg w w.heap.size A n sg) (h' : Seg w w.heap.size A' m t) (hn : n ≤ 1048576) (hm : m ≤ 1048576) :
    Calls Tryz.prog 107 #[.agg #[.slice A n c], .slice A' m c', .int .i64 x] w (AnsAt w A n c A' m c' sg t x) := by
  obtain ⟨W, hW⟩ : ∃ W, W = w.alloc (.cells #[.slice A n c] 26) := ⟨_, rfl⟩
  have rA : Row W w.heap.size 26 #[.slice A n c] := by rw [hW]; exact Row.new _ _ _
  have bel : Below w.heap.size w W := by rw [hW]; exact (Below.refl _ _).alloc (Nat.le_refl _) _
  replace h := (h.below bel).more bel.size
  replace h' := (h'.below bel).more bel.size
  have HW := Lib.hid hW
  have HL := Lib.hid h'.1
  clear hW
  have L := Lib.hid (implTermOk A A' n c m c' sg t W h h' hn hm)
  cases hok : termOkB sg t with
  | false =>
    have HS := Lib.hid hok
    clear hok h h'
    go_enter Tryz.func107, Tryz.ntmps107
    go_wp2_with fail
    rw [← HW.out]
    refine L.out.mono ?_
    rintro e w1 ⟨he, bb⟩
    rw [HS.out] at he
    subst he
    have F := Lib.hid (fun A n c A' m c' => at_no (A := A) (n := n) (c := c) (A' := A') (m := m) (c' := c') (x := x) (there_no (.inl HS.out)) (next_trans bel bb))
    clear bb bel rA
    go_wp2
    go_ret
    exact F.out _ _ _ _ _ _
  | true =>
    have HS := Lib.hid hok
    clear hok
    by_cases hin : 0 ≤ x ∧ x < (m : Int)
    · have hars := (sig_arities (termOk_parts HS.out).1).1
      have HT := Lib.hid (there_yes HS.out hin.1 (by rw [HL.out]; exact hin.2))
      obtain ⟨k, rfl⟩ := Int.eq_ofNat_of_zero_le hin.1
      obtain ⟨i0, i1⟩ := hin
      go_enter Tryz.func107, Tryz.ntmps107
      go_wp2_with fail
      rw [← HW.out]
      refine L.out.mono ?_
      rintro e w1 ⟨he, bb⟩
      rw [HS.out] at he
      subst he
      replace h := h.next bb
      replace h' := h'.next bb
      replace rA := rA.next bb
      replace bel := next_trans bel bb
      have cA : w1.cell? ⟨w.heap.size, 0, none⟩ = some (.slice A n c) := rA.cell 0
      have CN := cur_new (c := c) (c' := c') h h' hn hm hars k (by omega)
      have F : AnsAt w A n c A' m c' sg t (k : Int) (.returned (.pointer (some ⟨w1.heap.size, 0, none⟩))) (w1.alloc (.cells #[.slice A n c, .slice A' m c', .int .i64 k] 67)) :=
        ⟨bel.alloc (Nat.le_of_lt rA.lt) _, .inl ⟨HT.out, _, rfl, Nat.le_of_lt rA.lt, by rw [Int.toNat_natCast]; exact CN⟩⟩
      have HF := Lib.hid F
      clear F CN bb bel rA h h' hars HT
      go_wp2
      go_ret
      exact HF.out
    · have HT := Lib.hid (there_no (sg := sg) (t := t) (x := x) (by rw [HL.out]; omega))
      by_cases hx0 : x < 0
      · clear hin
        go_enter Tryz.func107, Tryz.ntmps107
        go_wp2_with fail
        rw [← HW.out]
        refine L.out.mono ?_
        rintro e w1 ⟨he, bb⟩
        rw [HS.out] at he
        subst he
        have F := Lib.hid (fun A n c A' m c' => at_no (A := A) (n := n) (c := c) (A' := A') (m := m) (c' := c') HT.out (next_trans bel bb))
        clear bb bel rA h h'
        go_wp2
        go_ret
        exact F.out _ _ _ _ _ _
      · have hx1 : (m : Int) ≤ x := by omega
        clear hin
        go_enter Tryz.func107, Tryz.ntmps107
        go_wp2_with fail
        rw [← HW.out]
        refine L.out.mono ?_
        rintro e w1 ⟨he, bb⟩
        rw [HS.out] at he
        subst he
        have F := Lib.hid (fun A n c A' m c' => at_no (A := A) (n := n) (c := c) (A' := A') (m := m) (c' := c') HT.out (next_trans bel bb))
        clear bb bel rA h h'
        go_wp2
        go_ret
        exact F.out _ _ _ _ _ _

end Go.Proofs.YtkmhnkljigncmaaGreat.endAt
end

section
/-
  CONTRACTS: impl.placeIn, spec.l3Right, spec.l3Inside, spec.InsideIn, impl.InsideIn, spec.ApartIn, impl.ApartIn. Conditions: the slices read as lists ('Seg'), at most 1048576 numbers; the places are int64. By an AI agent.
-/
namespace Go.Proofs.YtkmhnkljigncmaaGreat.inside
open Go.RowKit Go.Proofs.YtkmhnkljigncmaaGreat.base Go.Proofs.YtkmhnkljigncmaaGreat.ints Go.Proofs.YtkmhnkljigncmaaGreat.sig Go.Proofs.YtkmhnkljigncmaaGreat.term Go.Proofs.YtkmhnkljigncmaaGreat.arity Go.Proofs.YtkmhnkljigncmaaGreat.endOf Go.Proofs.YtkmhnkljigncmaaGreat.cursor Go.Proofs.YtkmhnkljigncmaaGreat.termOk Go.Proofs.YtkmhnkljigncmaaGreat.endAt
set_option maxRecDepth 100000

def Tells (w : World) (b : Bool) (e : Ending) (w' : World) : Prop := e = .returned (.bool b) ∧ Below w.heap.size w w'
/-- what stands in the course of a call whose first parameter, the signature, was boxed -/
structure Fr (w wr : World) (A : Option Addr) (n c : Nat) (sg : List Int) (A' : Option Addr) (m : Nat) (t : List Int) : Prop where
  r : Row wr w.heap.size 26 #[.slice A n c]
  s : Seg wr w.heap.size A n sg
  s' : Seg wr w.heap.size A' m t
  b : Below w.heap.size w wr
section
variable {w wr w' : World} {A : Option Addr} {n c : Nat} {sg : List Int} {A' : Option Addr} {m : Nat} {t : List Int}
theorem Fr.start (h : Seg w w.heap.size A n sg) (h' : Seg w w.heap.size A' m t) : Fr w (w.alloc (.cells #[.slice A n c] 26)) A n c sg A' m t :=
  have b : Below w.heap.size w (w.alloc (.cells #[.slice A n c] 26)) := (Below.refl _ _).alloc (Nat.le_refl _) _
  ⟨Row.new _ _ _, h.below b, h'.below b, b⟩
theorem Fr.next (f : Fr w wr A n c sg A' m t) (hb : Below wr.heap.size wr w') : Fr w w' A n c sg A' m t :=
  have b : Below w.heap.size wr w' := hb.mono (Nat.le_of_lt f.r.lt)
  ⟨f.r.next hb, f.s.below b, f.s'.below b, f.b.trans b⟩
theorem Fr.over (f : Fr w wr A n c sg A' m t) (hb : Below (w.heap.size + 1) wr w') : Fr w w' A n c sg A' m t :=
  have b : Below w.heap.size wr w' := hb.mono (Nat.le_succ _)
  ⟨f.r.below hb (Nat.lt_succ_self _), f.s.below b, f.s'.below b, f.b.trans b⟩
theorem Fr.alloc (f : Fr w wr A n c sg A' m t) (o : Obj) : Fr w (wr.alloc o) A n c sg A' m t := f.next ((Below.refl _ _).alloc (Nat.le_refl _) _)
theorem Fr.drew (f : Fr w wr A n c sg A' m t) : Fr w wr.drew A n c sg A' m t := f.over (Below.refl _ _).drew
theorem Fr.cell (f : Fr w wr A n c sg A' m t) : wr.cell? ⟨w.heap.size, 0, none⟩ = some (.slice A n c) := f.r.cell 0
theorem Fr.s1 (f : Fr w wr A n c sg A' m t) : Seg wr wr.heap.size A n sg := f.s.more (Nat.le_of_lt f.r.lt)
theorem Fr.t1 (f : Fr w wr A n c sg A' m t) : Seg wr wr.heap.size A' m t := f.s'.more (Nat.le_of_lt f.r.lt)
theorem Fr.size (f : Fr w wr A n c sg A' m t) : w.heap.size < wr.heap.size := f.r.lt
end

theorem end_bd {sg t : List Int} (hok : termOkB sg t = true) {a : Nat} : -1 ≤ endI sg t a ∧ endI sg t a ≤ t.length := by
  cases h : scan sg 1 (t.drop a) with
  | none => rw [endI_none h]; omega
  | some j =>
    have h2 := scan_le h
    have h1 := scan_pos (q := 0) h
    rw [endI_some h]
    simp only [List.length_drop] at h2
    omega
def insI (sg t : List Int) (x p : Int) : Bool := decide (x ≤ p ∧ p < endI sg t x.toNat)
def insideB (sg t : List Int) (x p : Int) : Bool := thereB sg t x && insI sg t x p
def apartB (sg t : List Int) (p q : Int) : Bool := (thereB sg t p && thereB sg t q) && (!insI sg t p q && !insI sg t q p)
theorem ins_there {sg t : List Int} {x p : Int} (h : thereB sg t x = true) (hi : insI sg t x p = true) : thereB sg t p = true := by
  obtain ⟨hok, h0, h1⟩ := there_parts h
  unfold insI at hi
  have h2 := (end_bd hok (a := x.toNat)).2
  simp only [decide_eq_true_eq] at hi
  exact there_yes hok (by omega) (by omega)

set_option maxHeartbeats 1000000 in
theorem right (A A' : Option Addr) (n c m c' : Nat) (sg t : List Int) (x : Int) (w : World) (h : Seg w w.heap.size A n sg) (h' : Seg w w.heap.size A' m t) (hn : n ≤ 1048576) (hm : m ≤ 1048576) :
    Calls Tryz.prog 67 #[.agg #[.slice A n c], .slice A' m c', .int .i64 x] w (Tells w (thereB sg t x)) := by
  obtain ⟨W, hW⟩ : ∃ W, W = w.alloc (.cells #[.slice A n c] 26) := ⟨_, rfl⟩
  have f : Fr w W A n c sg A' m t := by rw [hW]; exact Fr.start h h'
  have HW := Lib.hid hW
  have HL := Lib.hid h'.1
  have L := Lib.hid (specTermOk A A' n c m c' sg t W f.s1 f.t1 hn hm)
  clear hW h h'
  cases hok : termOkB sg t with
  | false =>
    have HS := Lib.hid hok
    have HT := Lib.hid (there_no (x := x) (.inl hok))
    clear hok
    go_enter Tryz.func67, Tryz.ntmps67
    go_wp2_with fail
    rw [← HW.out]
    refine L.out.mono ?_
    rintro e w1 ⟨he, bb⟩
    rw [HS.out] at he
    subst he
    have F := Lib.hid (show Tells w (thereB sg t x) (.returned (.bool false)) w1 from ⟨by rw [HT.out], (f.next bb).b⟩)
    clear f L bb HT
    go_wp2
    go_ret
    exact F.out
  | true =>
    have HS := Lib.hid hok
    obtain ⟨b, hb⟩ : ∃ b, decide (0 ≤ x ∧ x < (m : Int)) = b := ⟨_, rfl⟩
    have HD := Lib.hid hb
    have HT : thereB sg t x = b := by unfold thereB inB; rw [hok, HL.out, hb]; rfl
    replace HT := Lib.hid HT
    clear hok hb
    go_enter Tryz.func67, Tryz.ntmps67
    go_wp2_with fail
    rw [← HW.out]
    refine L.out.mono ?_
    rintro e w1 ⟨he, bb⟩
    rw [HS.out] at he
    subst he
    have F := Lib.hid (show Tells w (thereB sg t x) (.returned (.bool b)) w1 from ⟨by rw [HT.out], (f.next bb).b⟩)
    clear f L bb HT
    go_wp2_with fail
    refine (there _ _ _ x b _ hm HD.out).mono ?_
    rintro e w2 ⟨rfl, rfl⟩
    go_wp2
    go_ret
    exact F.out

theorem apart_no {sg t : List Int} {p q : Int} (h : thereB sg t p = false ∨ thereB sg t q = false) : apartB sg t p q = false := by
  unfold apartB
  rcases h with h | h <;> rw [h] <;> simp

theorem inside_there {sg t : List Int} {p q : Int} (h : thereB sg t p = true) : insideB sg t p q = insI sg t p q := by unfold insideB; rw [h]; rfl

end Go.Proofs.YtkmhnkljigncmaaGreat.inside
end

section
/-
  CONTRACTS: slices.Grow of nil, slices.Concat at []int64. Conditions: the slices read as lists ('Segs'), at most 1048576 numbers in all. By an AI agent.
-/
namespace Go.Proofs.YtkmhnkljigncmaaGreat.concat
open Go.RowKit Go.Proofs.YtkmhnkljigncmaaGreat.base Go.Proofs.YtkmhnkljigncmaaGreat.ints Go.Proofs.YtkmhnkljigncmaaGreat.marks Go.Proofs.YtkmhnkljigncmaaGreat.app Go.Proofs.YtkmhnkljigncmaaGreat.sym Go.Proofs.YtkmhnkljigncmaaGreat.segs Go.Proofs.YtkmhnkljigncmaaGreat.segsHelp
set_option maxRecDepth 100000

/-- the numbers of the first k lists -/
def catL (xss : List (List Int)) (k : Nat) : List Int := (xss.take k).flatten
theorem cat_len {xss : List (List Int)} {k : Nat} : (catL xss k).length = sumL xss k := by unfold catL sumL; rw [List.length_flatten]
theorem cat_succ {xss : List (List Int)} {k : Nat} (h : k < xss.length) : catL xss (k + 1) = catL xss k ++ xss.getD k [] := by
  unfold catL
  rw [List.take_succ_eq_append_getElem h, List.flatten_append]
  simp [List.getD, h]

end Go.Proofs.YtkmhnkljigncmaaGreat.concat
end

section
/-
  CONTRACTS: spec.SymPlaces, impl.SymPlaces. Conditions: the slices read as lists ('Seg'), at most 1048576 numbers. By an AI agent.
-/
namespace Go.Proofs.YtkmhnkljigncmaaGreat.sym
open Go.RowKit Go.Proofs.YtkmhnkljigncmaaGreat.base Go.Proofs.YtkmhnkljigncmaaGreat.ints Go.Proofs.YtkmhnkljigncmaaGreat.sig Go.Proofs.YtkmhnkljigncmaaGreat.term Go.Proofs.YtkmhnkljigncmaaGreat.termOk Go.Proofs.YtkmhnkljigncmaaGreat.marks Go.Proofs.YtkmhnkljigncmaaGreat.app

def symP (t : List Int) (k : Nat) : List Int := ((List.range k).filter fun j => decide (0 ≤ t.getD j 0)).map fun (j : Nat) => (j : Int)
def symI (sg t : List Int) : List Int := if termOkB sg t = true then symP t t.length else []

theorem symP_yes {t : List Int} {k : Nat} {x : Int} (ex : Hid (t.getD k 0 = x)) (h : 0 ≤ x) : symP t (k + 1) = symP t k ++ [(k : Int)] := by
  unfold symP
  rw [List.range_succ, List.filter_append, List.map_append]
  simp only [List.filter_cons, List.filter_nil, ex.out, h, decide_true, if_true, List.map_cons, List.map_nil]
theorem symP_no {t : List Int} {k : Nat} {x : Int} (ex : Hid (t.getD k 0 = x)) (h : ¬ 0 ≤ x) : symP t (k + 1) = symP t k := by
  unfold symP
  rw [List.range_succ, List.filter_append, List.map_append]
  simp only [List.filter_cons, List.filter_nil, ex.out, h, decide_false, List.map_nil, List.append_nil]
  simp
theorem symP_len (t : List Int) (k : Nat) : (symP t k).length ≤ k := by
  unfold symP
  rw [List.length_map]
  exact Nat.le_trans (List.length_filter_le _ _) (by simp)

/-- the head of the loop over the places -/
def HeadSym (w : World) (A : Option Addr) (n c m : Nat) (t : List Int) (out i : Value) (wr : World) : Prop :=
  ∃ (k : Nat) (O : Option Addr) (on oc : Nat), k ≤ m ∧ i = .int .i64 k ∧ out = .slice O on oc ∧ Own wr (w.heap.size + 1) (.slice O on oc) (symP t k) ∧ Row wr w.heap.size 26 #[.slice A n c] ∧ Below w.heap.size w wr

theorem headSym_yes {w w2 : World} {A : Option Addr} {n c m k : Nat} {t : List Int} {x : Int} {O : Option Addr} {on oc : Nat} (hk : k < m) (ex : Hid (t.getD k 0 = x)) (h0 : 0 ≤ x) (ho : Own w2 (w.heap.size + 1) (.slice O on oc) (symP t k ++ [(k : Int)]))
    (hr : Row w2 w.heap.size 26 #[.slice A n c]) (hb : Below w.heap.size w w2) : HeadSym w A n c m t (.slice O on oc) (.int .i64 ((k : Int) + 1)) w2 :=
  ⟨k + 1, O, on, oc, hk, by simp, rfl, by rw [symP_yes ex h0]; exact ho, hr, hb⟩
theorem headSym_no {w w2 : World} {A : Option Addr} {n c m k : Nat} {t : List Int} {x : Int} {O : Option Addr} {on oc : Nat} (hk : k < m) (ex : Hid (t.getD k 0 = x)) (h0 : ¬ 0 ≤ x) (ho : Own w2 (w.heap.size + 1) (.slice O on oc) (symP t k))
    (hr : Row w2 w.heap.size 26 #[.slice A n c]) (hb : Below w.heap.size w w2) : HeadSym w A n c m t (.slice O on oc) (.int .i64 ((k : Int) + 1)) w2 :=
  ⟨k + 1, O, on, oc, hk, by simp, rfl, by rw [symP_no ex h0]; exact ho, hr, hb⟩
theorem symI_len {sg t : List Int} {m : Nat} (h : t.length = m) (hm : m ≤ 1048576) : (symI sg t).length ≤ 1048576 := by
  unfold symI
  split
  · have := symP_len t t.length; omega
  · simp

end Go.Proofs.YtkmhnkljigncmaaGreat.sym
end

section
/-
  CONTRACTS of impl's cursor wherever it lies (a field of a struct): next, pass, part. Conditions: the slices read as lists ('Seg') below the cursor's block, the arities lie between 0 and 3, at most 1048576 numbers. By an AI agent.
-/
namespace Go.Proofs.YtkmhnkljigncmaaGreat.curO
open Go.RowKit Go.Proofs.YtkmhnkljigncmaaGreat.base Go.Proofs.YtkmhnkljigncmaaGreat.ints Go.Proofs.YtkmhnkljigncmaaGreat.sig Go.Proofs.YtkmhnkljigncmaaGreat.term Go.Proofs.YtkmhnkljigncmaaGreat.arity Go.Proofs.YtkmhnkljigncmaaGreat.cursor Go.Proofs.YtkmhnkljigncmaaGreat.sub
set_option maxRecDepth 100000

/-- the cursor at cells o, o + 1, o + 2 of block p stands at place k; the block's other cells are those of cs -/
structure CurO (w : World) (p o : Nat) (ty : TypeId) (cs : Array Value) (A : Option Addr) (n c : Nat) (A' : Option Addr) (m c' : Nat) (sg t : List Int) (k : Nat) : Prop where
  row : Row w p ty (cs.setIfInBounds (o + 2) (.int .i64 k))
  h0 : cs[o]? = some (.slice A n c)
  h1 : cs[o + 1]? = some (.slice A' m c')
  sz : o + 2 < cs.size
  s : Seg w p A n sg
  s' : Seg w p A' m t
  le : k ≤ m
  hn : n ≤ 1048576
  hm : m ≤ 1048576
  ars : Arities sg
section
variable {w w' : World} {p o : Nat} {ty : TypeId} {cs : Array Value} {A : Option Addr} {n c : Nat} {A' : Option Addr} {m c' : Nat} {sg t : List Int} {k : Nat}
theorem CurO.c0 (h : CurO w p o ty cs A n c A' m c' sg t k) : w.cell? ⟨p, o, none⟩ = some (.slice A n c) := by
  rw [h.row.cell o, Array.getElem?_setIfInBounds_ne (by omega)]; exact h.h0
theorem CurO.c1 (h : CurO w p o ty cs A n c A' m c' sg t k) : w.cell? ⟨p, o + 1, none⟩ = some (.slice A' m c') := by
  rw [h.row.cell (o + 1), Array.getElem?_setIfInBounds_ne (by omega)]; exact h.h1
theorem CurO.c2 (h : CurO w p o ty cs A n c A' m c' sg t k) : w.cell? ⟨p, o + 2, none⟩ = some (.int .i64 k) := by
  rw [h.row.cell (o + 2), Array.getElem?_setIfInBounds_self_of_lt h.sz]
theorem CurO.below (h : CurO w p o ty cs A n c A' m c' sg t k) (hb : Below w.heap.size w w') : CurO w' p o ty cs A n c A' m c' sg t k :=
  have hp := h.row.lt
  ⟨h.row.next hb, h.h0, h.h1, h.sz, h.s.below (hb.mono (Nat.le_of_lt hp)), h.s'.below (hb.mono (Nat.le_of_lt hp)), h.le, h.hn, h.hm, h.ars⟩
theorem CurO.drewN (h : CurO w p o ty cs A n c A' m c' sg t k) (d : Nat) : CurO (w.drewN d) p o ty cs A n c A' m c' sg t k :=
  ⟨h.row, h.h0, h.h1, h.sz, h.s, h.s', h.le, h.hn, h.hm, h.ars⟩
theorem CurO.step (h : CurO w p o ty cs A n c A' m c' sg t k) (hk : k < m) (d : Nat) :
    CurO ((w.drewN d).setCell ⟨p, o + 2, none⟩ (.int .i64 ((k : Int) + 1))) p o ty cs A n c A' m c' sg t (k + 1) := by
  have r := (h.row.drewN d).put (o + 2) (.int .i64 ((k : Int) + 1))
  rw [Array.setIfInBounds_setIfInBounds] at r
  refine ⟨?_, h.h0, h.h1, h.sz, (h.s.drewN d).put (p := ⟨p, o + 2, none⟩) (Nat.le_refl _) _, (h.s'.drewN d).put (p := ⟨p, o + 2, none⟩) (Nat.le_refl _) _, hk, h.hn, h.hm, h.ars⟩
  have e : (.int .i64 ((k : Int) + 1) : Value) = .int .i64 ((k + 1 : Nat) : Int) := by simp
  rw [← e]
  exact r
end

/-- what next gives at place k: the arity and a step on; -1 at the end -/
def NextO (w : World) (p o : Nat) (ty : TypeId) (cs : Array Value) (A : Option Addr) (n c : Nat) (A' : Option Addr) (m c' : Nat) (sg t : List Int) (k : Nat) (e : Ending) (w' : World) : Prop :=
  w.grownBy w' (some p) ∧ ((k < m ∧ e = .returned (.int .i64 (ar sg (t.getD k 0))) ∧ CurO w' p o ty cs A n c A' m c' sg t (k + 1)) ∨ (k = m ∧ e = .returned (.int .i64 (-1)) ∧ CurO w' p o ty cs A n c A' m c' sg t k))

set_option maxHeartbeats 1000000 in
theorem nextO (p o : Nat) (ty : TypeId) (cs : Array Value) (A : Option Addr) (n c : Nat) (A' : Option Addr) (m c' : Nat) (sg t : List Int) (k : Nat) (w : World) (h : CurO w p o ty cs A n c A' m c' sg t k) :
    Calls Tryz.prog 75 #[.pointer (some ⟨p, o, none⟩)] w (NextO w p o ty cs A n c A' m c' sg t k) := by
  have hk := h.le
  have hm := h.hm
  have c0 := h.c0
  have c1 := h.c1
  have c2 := h.c2
  have f2 : w.frozen? ⟨p, o + 2, none⟩ = false := h.row.free (o + 2)
  by_cases hlt : k < m
  · obtain ⟨b, off, x, rfl, hbb, hx, ex⟩ := h.s'.spot hlt
    have i0 : (0 : Int) ≤ (k : Int) := by omega
    have i1 : (k : Int) < (m : Int) := by omega
    have HS := Lib.hid (fun d => h.step hlt d)
    have HG := Lib.hid (fun d => grown_put (grown_drewN (World.grownBy.refl w (some p)) d) (o + 2) (.int .i64 ((k : Int) + 1)))
    clear h
    go_enter Tryz.func75, Tryz.ntmps75
    go_wp2
    go_quiet (fail)
    go_wp2
    go_quiet (fail)
    go_wp2_with fail
    refine (implArity A n c sg x _ ((HS.out _).s.more (Nat.le_of_lt (HS.out _).row.lt)) (HS.out 0).hn).mono ?_
    rintro e w' ⟨rfl, bb⟩
    have F : NextO w p o ty cs A n c (some ⟨b, off, none⟩) m c' sg t k (.returned (.int .i64 (ar sg x))) w' :=
      ⟨grown_trans (HG.out _) (grown_below bb _), .inl ⟨hlt, by rw [ex.out], (HS.out _).below bb⟩⟩
    have HF := Lib.hid F
    clear F HG HS bb ex
    go_wp2
    go_ret
    exact HF.out
  · have e : k = m := by omega
    have HS := Lib.hid (fun d => h.drewN d)
    have HE := Lib.hid e
    have i2 : decide (m ≤ k) = true := by simp; omega
    clear e h
    go_enter Tryz.func75, Tryz.ntmps75
    go_wp2
    go_quiet (fail)
    go_wp2
    go_ret
    exact ⟨grown_drewN (World.grownBy.refl w (some p)) _, .inr ⟨HE.out, rfl, HS.out _⟩⟩

/-- what pass gives at place k -/
def PassO (w : World) (p o : Nat) (ty : TypeId) (cs : Array Value) (A : Option Addr) (n c : Nat) (A' : Option Addr) (m c' : Nat) (sg t : List Int) (k : Nat) (e : Ending) (w' : World) : Prop :=
  w.grownBy w' (some p) ∧ ((∃ j, scan sg 1 (t.drop k) = some j ∧ e = .returned (.bool true) ∧ CurO w' p o ty cs A n c A' m c' sg t (k + j)) ∨ (scan sg 1 (t.drop k) = none ∧ e = .returned (.bool false) ∧ ∃ k', CurO w' p o ty cs A n c A' m c' sg t k'))

/-- the head of the loop: q terms are still missing -/
def HeadO (w : World) (p o : Nat) (ty : TypeId) (cs : Array Value) (A : Option Addr) (n c : Nat) (A' : Option Addr) (m c' : Nat) (sg t : List Int) (a : Nat) (q : Value) (wr : World) : Prop :=
  ∃ k q' : Nat, q = .int .i64 q' ∧ q' ≤ 3 * k + 1 ∧ Scn sg t a k q' ∧ CurO wr p o ty cs A n c A' m c' sg t k ∧ w.grownBy wr (some p)

def atO (p o : Nat) (wr : World) : Nat := (intOf ((wr.cell? ⟨p, o + 2, none⟩).getD undef)).toNat
theorem atO_cur {w : World} {p o : Nat} {ty : TypeId} {cs : Array Value} {A : Option Addr} {n c : Nat} {A' : Option Addr} {m c' : Nat} {sg t : List Int} {k : Nat} (h : CurO w p o ty cs A n c A' m c' sg t k) : atO p o w = k := by
  unfold atO
  rw [h.c2]
  simp [intOf]

set_option maxHeartbeats 1000000 in
theorem passO (p o : Nat) (ty : TypeId) (cs : Array Value) (A : Option Addr) (n c : Nat) (A' : Option Addr) (m c' : Nat) (sg t : List Int) (a : Nat) (w : World) (h : CurO w p o ty cs A n c A' m c' sg t a) :
    Calls Tryz.prog 48 #[.pointer (some ⟨p, o, none⟩)] w (PassO w p o ty cs A n c A' m c' sg t a) := by
  have hm := h.hm
  have HL := Lib.hid h.s'.1
  have hs := h.ars
  have H0 : HeadO w p o ty cs A n c A' m c' sg t a (.int .i64 1) w := ⟨a, 1, rfl, by omega, Scn.start (by rw [HL.out]; exact h.le), h, World.grownBy.refl _ _⟩
  have HH := Lib.hid H0
  clear H0 h
  go_enter Tryz.func48, Tryz.ntmps48
  go_wp2_with fail
  go_loopw [3, 4] (fun q _ wr => HeadO w p o ty cs A n c A' m c' sg t a q wr) (fun _ _ wr => m - atO p o wr)
  case atStart => exact HH.out
  case round =>
    obtain ⟨k, q, rfl, hq, hl, hc, hg⟩ := hrel
    clear HH
    have hk := hc.le
    by_cases h0 : q = 0
    · subst h0
      have S : PassO w p o ty cs A n c A' m c' sg t a (.returned (.bool true)) wr := ⟨hg, .inl ⟨k - a, hl.done, rfl, by rw [show a + (k - a) = k by have := hl.1; omega]; exact hc⟩⟩
      have HS := Lib.hid S
      clear S hl hc hg
      go_wp2
      go_ret
      exact HS.out
    · obtain ⟨q1, rfl⟩ : ∃ q1, q = q1 + 1 := ⟨q - 1, by omega⟩
      have hq0 : (0 : Int) < ((q1 + 1 : Nat) : Int) := by omega
      go_wp2_with fail
      refine (nextO p o ty cs A n c A' m c' sg t k wr hc).mono ?_
      rintro e w2 ⟨g2, ⟨hlt, rfl, hc2⟩ | ⟨hk', rfl, hc2⟩⟩
      · obtain ⟨z, hz⟩ : ∃ z, ar sg (t.getD k 0) = z := ⟨_, rfl⟩
        have hzb := ar_bd hs (t.getD k 0)
        rw [hz] at hzb ⊢
        by_cases hneg : z < 0
        · have S : PassO w p o ty cs A n c A' m c' sg t a (.returned (.bool false)) w2 := ⟨grown_trans hg g2, .inr ⟨hl.bad (by rw [HL.out]; exact hlt) rfl (by rw [hz]; exact hneg), rfl, _, hc2⟩⟩
          have HS := Lib.hid S
          clear S hl hc hg hc2 g2 hz
          go_wp2
          go_ret
          exact HS.out
        · have hl' := hl.step (by rw [HL.out]; exact hlt) rfl (by rw [hz]; exact hneg)
          rw [hz] at hl'
          have S : HeadO w p o ty cs A n c A' m c' sg t a (.int .i64 ((q1 : Int) + z)) w2 := ⟨k + 1, q1 + z.toNat, by congr 1; omega, by omega, hl', hc2, grown_trans hg g2⟩
          have HS := Lib.hid S
          have M := Lib.hid (show m - atO p o w2 < m - atO p o wr by rw [atO_cur hc, atO_cur hc2]; omega)
          have hz1 := hzb.1
          have hz2 := hzb.2
          have hq2 : (q1 : Int) ≤ 3145728 := by omega
          clear S hl hc hg hc2 g2 hz hl' hzb
          go_wp2
          go_roundw
          case rel => rw [show (q1 : Int) + 1 + z - 1 = (q1 : Int) + z by omega]; exact HS.out
          case measure => exact M.out
      · have S : PassO w p o ty cs A n c A' m c' sg t a (.returned (.bool false)) w2 := ⟨grown_trans hg g2, .inr ⟨hl.out (by rw [HL.out]; omega), rfl, _, hc2⟩⟩
        have HS := Lib.hid S
        clear S hl hc hg hc2 g2
        go_wp2
        go_ret
        exact HS.out

/-- what part gives at place k, where a term begins: the piece of the slice -/
def PartO (w : World) (p o : Nat) (ty : TypeId) (cs : Array Value) (A : Option Addr) (n c : Nat) (b off m c' : Nat) (sg t : List Int) (k j : Nat) (e : Ending) (w' : World) : Prop :=
  e = .returned (.slice (some ⟨b, off + k, none⟩) j (c' - k)) ∧ w.grownBy w' (some p) ∧ CurO w' p o ty cs A n c (some ⟨b, off, none⟩) m c' sg t (k + j)
set_option maxHeartbeats 1000000 in
theorem partO (p o : Nat) (ty : TypeId) (cs : Array Value) (A : Option Addr) (n c b off m c' : Nat) (sg t : List Int) (k j : Nat) (w : World) (h : CurO w p o ty cs A n c (some ⟨b, off, none⟩) m c' sg t k) (hj : scan sg 1 (t.drop k) = some j) (hkj : k + j ≤ m) (h1 : 1 ≤ j) (hmc : m ≤ c') (hc : c' ≤ 9223372036854775807) :
    Calls Tryz.prog 100 #[.pointer (some ⟨p, o, none⟩)] w (PartO w p o ty cs A n c b off m c' sg t k j) := by
  have hm := h.hm
  have c2 := h.c2
  have L := Lib.hid (passO p o ty cs A n c (some ⟨b, off, none⟩) m c' sg t k w h)
  have HJ := Lib.hid hj
  have a1 : (k : Int) ≤ (k : Int) + (j : Int) := by omega
  have a2 : (k : Int) + (j : Int) ≤ (c' : Int) := by omega
  have a3 : ¬ c' = k := by omega
  have a4 : k + j ≤ c' := by omega
  have a5 : k + j - k = j := by omega
  clear hj h
  go_enter Tryz.func100, Tryz.ntmps100
  go_wp2_with fail
  refine L.out.mono ?_
  rintro e w1 ⟨hg, ⟨j', hj', rfl, hc1⟩ | ⟨hj', rfl, -⟩⟩
  · obtain rfl : j = j' := by rw [HJ.out] at hj'; injection hj'
    have d1 := hc1.c1
    have d2 := hc1.c2
    have HF := Lib.hid (fun d => (show PartO w p o ty cs A n c b off m c' sg t k j (.returned (.slice (some ⟨b, off + k, none⟩) (k + j - k) (c' - k))) (w1.drewN d) from ⟨by rw [a5], grown_drewN hg d, hc1.drewN d⟩))
    clear hc1 hg hj' L
    go_wp2
    go_quiet (fail)
    go_wp2
    go_ret
    exact HF.out _
  · rw [HJ.out] at hj'
    cases hj'

/-- the cursor in a block of its own -/
theorem ofCur {w : World} {p : Nat} {A : Option Addr} {n c : Nat} {A' : Option Addr} {m c' : Nat} {sg t : List Int} {k : Nat} (h : Cur w p A n c A' m c' sg t k) (u : Value) :
    CurO w p 0 67 #[.slice A n c, .slice A' m c', u] A n c A' m c' sg t k :=
  ⟨by have r := h.row; simpa using r, by simp, by simp, by simp, h.s, h.s', h.le, h.hn, h.hm, h.ars⟩
theorem toCur {w : World} {p : Nat} {A : Option Addr} {n c : Nat} {A' : Option Addr} {m c' : Nat} {sg t : List Int} {k : Nat} {u : Value} (h : CurO w p 0 67 #[.slice A n c, .slice A' m c', u] A n c A' m c' sg t k) :
    Cur w p A n c A' m c' sg t k :=
  ⟨by have r := h.row; simpa using r, h.s, h.s', h.le, h.hn, h.hm, h.ars⟩
/-- part of a cursor in a block of its own -/
theorem partC (p : Nat) (A : Option Addr) (n c b off m c' : Nat) (sg t : List Int) (k j : Nat) (w : World) (h : Cur w p A n c (some ⟨b, off, none⟩) m c' sg t k) (hj : scan sg 1 (t.drop k) = some j) (hkj : k + j ≤ m) (h1 : 1 ≤ j) (hmc : m ≤ c') (hc : c' ≤ 9223372036854775807) :
    Calls Tryz.prog 100 #[.pointer (some ⟨p, 0, none⟩)] w fun e w' => e = .returned (.slice (some ⟨b, off + k, none⟩) j (c' - k)) ∧ w.grownBy w' (some p) ∧ Cur w' p A n c (some ⟨b, off, none⟩) m c' sg t (k + j) :=
  (partO p 0 _ _ A n c b off m c' sg t k j w (ofCur h undef) hj hkj h1 hmc hc).mono fun _ _ ⟨e1, e2, e3⟩ => ⟨e1, e2, toCur e3⟩
end Go.Proofs.YtkmhnkljigncmaaGreat.curO
end

section
/-
  CONTRACTS: spec.l1Copy, slices.Clone at []int64, spec.l1Sub, spec.SubAt, impl.SubAt. Conditions: the slices read as lists ('Seg'), at most 1048576 numbers, a length is at most the capacity. By an AI agent.
-/
namespace Go.Proofs.YtkmhnkljigncmaaGreat.sub
open Go.RowKit Go.Proofs.YtkmhnkljigncmaaGreat.base Go.Proofs.YtkmhnkljigncmaaGreat.ints Go.Proofs.YtkmhnkljigncmaaGreat.sig Go.Proofs.YtkmhnkljigncmaaGreat.term Go.Proofs.YtkmhnkljigncmaaGreat.arity Go.Proofs.YtkmhnkljigncmaaGreat.endOf Go.Proofs.YtkmhnkljigncmaaGreat.cursor Go.Proofs.YtkmhnkljigncmaaGreat.termOk Go.Proofs.YtkmhnkljigncmaaGreat.endAt Go.Proofs.YtkmhnkljigncmaaGreat.marks Go.Proofs.YtkmhnkljigncmaaGreat.app Go.Proofs.YtkmhnkljigncmaaGreat.sym Go.Proofs.YtkmhnkljigncmaaGreat.curO

def subL (sg t : List Int) (a : Nat) : List Int := (t.drop a).take (len1 sg t a)
def subI (sg t : List Int) (x : Int) : List Int := if thereB sg t x = true then subL sg t x.toNat else []

set_option maxHeartbeats 1000000 in
theorem l1Sub (A A' : Option Addr) (n c m c' : Nat) (sg t : List Int) (a j : Nat) (w : World) (h : Seg w w.heap.size A n sg) (h' : Seg w w.heap.size A' m t) (hn : n ≤ 1048576) (hm : m ≤ 1048576) (hc' : m ≤ c') (hc2 : c' ≤ 9223372036854775807)
    (hs : Arities sg) (ha : a < m) (hj : scan sg 1 (t.drop a) = some j) (hj1 : 1 ≤ j) (hj2 : a + j ≤ m) :
    Calls Tryz.prog 83 #[.agg #[.slice A n c], .slice A' m c', .int .i64 (a : Int)] w (AnsList w (subL sg t a)) := by
  obtain ⟨b, off, x, rfl, -, -, -⟩ := h'.spot ha
  obtain ⟨W, hW⟩ : ∃ W, W = w.alloc (.cells #[.slice A n c] 26) := ⟨_, rfl⟩
  have bel : Below w.heap.size w W := by rw [hW]; exact (Below.refl _ _).alloc (Nat.le_refl _) _
  have zW : w.heap.size < W.heap.size := by rw [hW]; simp
  replace h := (h.below bel).more bel.size
  replace h' := (h'.below bel).more bel.size
  have HW := Lib.hid hW
  clear hW
  have L := Lib.hid (specEnd A _ n c m c' sg t (a : Int) W h h' hn hm hs (by omega) (by omega))
  have HE := Lib.hid (endI_some hj)
  have HL := Lib.hid (len1_eq hj)
  have hcut := Seg.cut (a := a) (j := j) h' hj2
  clear h h' hj hs
  have i0 : (0 : Int) ≤ (a : Int) := by omega
  have i1 : (a : Int) ≤ (a : Int) + (j : Int) := by omega
  have i2 : (a : Int) + (j : Int) ≤ (c' : Int) := by omega
  have i3 : ¬ c' = a := by omega
  go_enter Tryz.func83, Tryz.ntmps83
  go_wp2_with fail
  rw [← HW.out]
  refine L.out.mono ?_
  rintro e w1 ⟨he, bb⟩
  rw [Int.toNat_natCast, HE.out] at he
  subst he
  replace hcut := hcut.next bb
  replace bel := next_trans bel bb
  clear bb L
  go_wp2_with fail
  refine (copyInts _ j _ _ w1 hcut (fun e => by cases e) (by omega)).mono ?_
  rintro e w2 ⟨A2, n2, c2, rfl, o2, bb⟩
  have F : AnsList w (subL sg t a) (.returned (.slice A2 n2 c2)) w2 := ⟨A2, n2, c2, rfl, by unfold subL; rw [HL.out]; exact Own.lower o2 bel.size, next_trans bel bb⟩
  have HF := Lib.hid F
  clear F o2 bb bel hcut
  go_wp2
  go_ret
  exact HF.out

theorem sub_no {w w' : World} {sg t : List Int} {x : Int} {A : Option Addr} {c : Nat} (h : thereB sg t x = false) (ho : Own w' w.heap.size (.slice A 0 c) []) (hb : Below w.heap.size w w') : AnsList w (subI sg t x) (.returned (.slice A 0 c)) w' :=
  ⟨A, 0, c, rfl, by unfold subI; rw [if_neg (by rw [h]; simp)]; exact ho, hb⟩

set_option maxHeartbeats 1000000 in
theorem implSubAt (A A' : Option Addr) (n c m c' : Nat) (sg t : List Int) (x : Int) (w : World) (h : Seg w w.heap.size A n sg) (h' : Seg w w.heap.size A' m t) (hn : n ≤ 1048576) (hm : m ≤ 1048576) (_ : -9223372036854775808 ≤ x) (_ : x ≤ 9223372036854775807) (hc' : m ≤ c') (hc2 : c' ≤ 9223372036854775807) :
    Calls Tryz.prog 97 #[.agg #[.slice A n c], .slice A' m c', .int .i64 x] w (AnsList w (subI sg t x)) := by
  obtain ⟨W, hW⟩ : ∃ W, W = w.alloc (.cells #[.slice A n c] 26) := ⟨_, rfl⟩
  have bel : Below w.heap.size w W := by rw [hW]; exact (Below.refl _ _).alloc (Nat.le_refl _) _
  have zW : w.heap.size < W.heap.size := by rw [hW]; simp
  replace h := (h.below bel).more bel.size
  replace h' := (h'.below bel).more bel.size
  have HW := Lib.hid hW
  have HL := Lib.hid h'.1
  clear hW
  have L := Lib.hid (cursorAt A A' n c m c' sg t x W h h' hn hm)
  clear h
  go_enter Tryz.func97, Tryz.ntmps97
  go_wp2_with fail
  rw [← HW.out]
  refine L.out.mono ?_
  rintro e w1 ⟨bb, ⟨ht, p, rfl, hp, hc⟩ | ⟨ht, rfl⟩⟩
  · replace h' := h'.next bb
    replace bel := next_trans bel bb
    have HT := Lib.hid ht
    clear ht bb
    obtain ⟨hok, h0, h1⟩ := there_parts HT.out
    have ht := (termOk_parts hok).2.2
    obtain ⟨a, rfl⟩ := Int.eq_ofNat_of_zero_le h0
    rw [Int.toNat_natCast] at hc
    have ham : a < m := by rw [HL.out] at h1; omega
    obtain ⟨j, hj, hj1, hj2⟩ := scan_at ht (a := a) (by rw [HL.out]; exact ham)
    rw [HL.out] at hj2
    obtain ⟨b, off, y, rfl, -, -, -⟩ := h'.spot ham
    have hcut := Seg.cut (a := a) (j := j) h' hj2
    have HJ := Lib.hid hj
    have HLen := Lib.hid (len1_eq hj)
    clear hj ht hok h1
    have i0 : (0 : Int) ≤ (a : Int) := by omega
    have i1 : (a : Int) ≤ (a : Int) + (j : Int) := by omega
    have i2 : (a : Int) + (j : Int) ≤ (c' : Int) := by omega
    have i3 : ¬ c' = a := by omega
    have i4 : a + j ≤ c' := by omega
    go_wp2_with fail
    refine (partC p A n c b off m c' sg t a j _ hc HJ.out hj2 hj1 hc' hc2).mono ?_
    rintro e w2 ⟨rfl, hg, hc2'⟩
    have b2 : Below w.heap.size w w2 := bel.grown hg bel.size (fun k hk => by injection hk; omega)
    have hcut2 : Seg w2 w2.heap.size (some ⟨b, off + a, none⟩) j ((t.drop a).take j) := (Seg.cut (a := a) (j := j) hc2'.s' hj2).more (Nat.le_of_lt hc2'.row.lt)
    clear hc2' hg hcut hc h' bel L
    go_wp2_with fail
    refine (cloneInts b (off + a) j _ _ w2 hcut2 (by omega)).mono ?_
    rintro e w3 ⟨A2, n2, c2, rfl, o2, bb⟩
    have F : AnsList w (subI sg t (a : Int)) (.returned (.slice A2 n2 c2)) w3 := ⟨A2, n2, c2, rfl, by unfold subI; rw [if_pos HT.out, Int.toNat_natCast]; unfold subL; rw [HLen.out]; exact Own.lower o2 b2.size, next_trans b2 bb⟩
    have HF := Lib.hid F
    clear F o2 bb b2 hcut2
    go_wp2
    go_ret
    exact HF.out
  · have F := Lib.hid (sub_no ht (Own.nil w1 w.heap.size) (next_trans bel bb))
    clear bb bel ht h' L
    go_wp2
    go_ret
    exact F.out
theorem subI_len {sg t : List Int} {x : Int} {m : Nat} (h : t.length = m) (hm : m ≤ 1048576) : (subI sg t x).length ≤ 1048576 := by
  unfold subI subL
  split
  · simp only [List.length_take, List.length_drop]; omega
  · simp

end Go.Proofs.YtkmhnkljigncmaaGreat.sub
end
