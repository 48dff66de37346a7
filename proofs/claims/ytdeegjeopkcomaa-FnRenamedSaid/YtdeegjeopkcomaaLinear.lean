/-
  CONTRACTS: spec.l2Linear, LinearIn; impl.LinearIn. Conditions: the slices read as lists ('Seg'), at most 1048576 numbers. By an AI agent.
-/
import Derived.Test.YtdeegjeopkcomaaVarsOf
import Derived.Test.YtdeegjeopkcomaaCountL
namespace Go.Proofs.Ytdeegjeopkcomaa.linear
open Go.RowKit Go.Proofs.Ytdeegjeopkcomaa.base Go.Proofs.Ytdeegjeopkcomaa.ints Go.Proofs.Ytdeegjeopkcomaa.sig Go.Proofs.Ytdeegjeopkcomaa.term Go.Proofs.Ytdeegjeopkcomaa.termOk Go.Proofs.Ytdeegjeopkcomaa.marks Go.Proofs.Ytdeegjeopkcomaa.sym Go.Proofs.Ytdeegjeopkcomaa.count Go.Proofs.Ytdeegjeopkcomaa.varsMath Go.Proofs.Ytdeegjeopkcomaa.termFacts Go.Proofs.Ytdeegjeopkcomaa.varsOf
set_option maxRecDepth 100000

/-- how often a number stands in a list -/
def many (t : List Int) (x : Int) : Nat := cnt t x t.length
/-- no variable stands twice -/
def linB (t : List Int) : Bool := t.all fun x => decide (¬ x < 0 ∨ many t x ≤ 1)
def linearB (sg t : List Int) : Bool := termOkB sg t && linB t

theorem lin_no {t : List Int} {x : Int} (hx : x ∈ t) (h0 : x < 0) (h : 1 < many t x) : linB t = false := by
  unfold linB
  rw [List.all_eq_false]
  exact ⟨x, hx, by simp; omega⟩
theorem lin_yes {t : List Int} (h : ∀ x ∈ t, x < 0 → many t x ≤ 1) : linB t = true := by
  unfold linB
  rw [List.all_eq_true]
  intro x hx
  by_cases h0 : x < 0
  · simp [h x hx h0]
  · simp; omega

def HeadLin (m : Nat) (t : List Int) (i : Value) : Prop := ∃ k : Nat, k ≤ m ∧ i = .int .i64 k ∧ ∀ j, j < k → t.getD j 0 < 0 → many t (t.getD j 0) ≤ 1

set_option maxHeartbeats 1000000 in
theorem l2Linear (A : Option Addr) (m c : Nat) (t : List Int) (w : World) (h : Seg w w.heap.size A m t) (hm : m ≤ 1048576) :
    Calls Try.prog 88 #[.slice A m c] w fun e w' => w = w' ∧ e = .returned (.bool (linB t)) := by
  have HL := Lib.hid h.1
  go_enter Try.func88, Try.ntmps88
  go_wp2
  go_loop [3] (fun i => HeadLin m t i) (fun i => m - (intOf i).toNat)
  case atStart => exact ⟨0, Nat.zero_le _, rfl, fun j hj => absurd hj (Nat.not_lt_zero _)⟩
  case round =>
    obtain ⟨k, hk, rfl, hlin⟩ := hrel
    have HLIN := Lib.hid hlin
    clear hlin
    by_cases hlt : k < m
    · have L := fun x => l1Count A m c t x w h hm
      obtain ⟨b, off, x, rfl, -, hx, ex⟩ := h.spot hlt
      have hmem : x ∈ t := by
        have hkl : k < t.length := by rw [HL.out]; exact hlt
        have := ex.out
        rw [← this]
        simp [List.getD, hkl]
      by_cases hneg : x < 0
      · have LX := Lib.hid (L x)
        obtain ⟨z, hz⟩ : ∃ z, cnt t x t.length = z := ⟨_, rfl⟩
        have hzl : z ≤ m := by rw [← hz]; have := cnt_le t x t.length; rw [HL.out] at this ⊢; exact this
        rw [hz] at LX
        by_cases h1 : 1 < z
        · have F := Lib.hid (lin_no hmem hneg (by unfold many; rw [hz]; exact h1))
          clear L h ex hmem hz
          go_wp2_with fail
          refine LX.out.mono ?_
          rintro e w' ⟨rfl, rfl⟩
          clear LX
          go_wp2
          go_ret
          exact ⟨rfl, by rw [F.out]; rfl⟩
        · have S : HeadLin m t (.int .i64 ((k : Int) + 1)) := ⟨k + 1, hlt, by simp, fun j hj h0 => by
            by_cases e : j = k
            · subst e; rw [ex.out]; unfold many; rw [hz]; omega
            · exact HLIN.out j (by omega) h0⟩
          replace S := Lib.hid S
          clear L h ex hmem hz
          go_wp2_with fail
          refine LX.out.mono ?_
          rintro e w' ⟨rfl, rfl⟩
          clear LX
          go_wp2
          go_round
          case rel => exact S.out
          case measure => simp [intOf]; omega
      · have S : HeadLin m t (.int .i64 ((k : Int) + 1)) := ⟨k + 1, hlt, by simp, fun j hj h0 => by
          by_cases e : j = k
          · subst e; rw [ex.out] at h0; omega
          · exact HLIN.out j (by omega) h0⟩
        replace S := Lib.hid S
        have d1 : decide (x < 0) = false := by simp; omega
        clear L h ex hmem
        go_wp2
        go_round
        case rel => exact S.out
        case measure => simp [intOf]; omega
    · have F : linB t = true := lin_yes (fun x hx h0 => by
        obtain ⟨j, hj, rfl⟩ := List.getElem_of_mem hx
        have e : t.getD j 0 = t[j] := by simp [List.getD, hj]
        rw [← e]
        exact HLIN.out j (by rw [HL.out] at hj; omega) (by rw [e]; exact h0))
      have HF := Lib.hid F
      clear F h
      go_wp2
      go_ret
      exact ⟨rfl, by rw [HF.out]; rfl⟩

set_option maxHeartbeats 1000000 in
theorem specLinearIn (A A' : Option Addr) (n c m c' : Nat) (sg t : List Int) (w : World) (h : Seg w w.heap.size A n sg) (h' : Seg w w.heap.size A' m t) (hn : n ≤ 1048576) (hm : m ≤ 1048576) :
    Calls Try.prog 38 #[.agg #[.slice A n c], .slice A' m c'] w (AnsB w (linearB sg t)) := by
  obtain ⟨W, hW⟩ : ∃ W, W = w.alloc (.cells #[.slice A n c] 26) := ⟨_, rfl⟩
  have bel : Below w.heap.size w W := by rw [hW]; exact (Below.refl _ _).alloc (Nat.le_refl _) _
  have s := (h.below bel).more bel.size
  have s' := (h'.below bel).more bel.size
  have HW := Lib.hid hW
  have L := Lib.hid (specTermOk A A' n c m c' sg t W s s' hn hm)
  clear hW h h' s
  cases hok : termOkB sg t with
  | false =>
    have HS := Lib.hid hok
    clear hok s'
    go_enter Try.func38, Try.ntmps38
    go_wp2_with fail
    rw [← HW.out]
    refine L.out.mono ?_
    rintro e w1 ⟨he, bb⟩
    rw [HS.out] at he
    subst he
    have F := Lib.hid (ansB (b := linearB sg t) (a := false) (by unfold linearB; rw [HS.out]; rfl) (next_trans bel bb))
    clear bb bel
    go_wp2
    go_ret
    exact F.out
  | true =>
    have HS := Lib.hid hok
    clear hok
    go_enter Try.func38, Try.ntmps38
    go_wp2_with fail
    rw [← HW.out]
    refine L.out.mono ?_
    rintro e w1 ⟨he, bb⟩
    rw [HS.out] at he
    subst he
    have L2 := Lib.hid (l2Linear A' m c' t w1 (s'.next bb) hm)
    have F := Lib.hid (ansB (b := linearB sg t) (a := linB t) (by unfold linearB; rw [HS.out]; rfl) (next_trans bel bb))
    clear L s' bb bel
    go_wp2_with fail
    refine L2.out.mono ?_
    rintro e w2 ⟨rfl, rfl⟩
    clear L2
    generalize linB t = z at *
    go_wp2
    go_ret
    exact F.out

/-- the head of the loop over the variables -/
def HeadLinV (w : World) (A : Option Addr) (n c : Nat) (V : Option Addr) (vn : Nat) (t : List Int) (i : Value) (wr : World) : Prop :=
  ∃ k : Nat, k ≤ vn ∧ i = .int .i64 k ∧ (∀ j, j < k → many t (-1 - (vars t).getD j 0) ≤ 1) ∧ Seg wr wr.heap.size V vn (vars t) ∧ Row wr w.heap.size 26 #[.slice A n c] ∧ Below w.heap.size w wr
theorem vars_neg {t : List Int} {x : Int} : x ∈ vars t ↔ (-1 - x ∈ t ∧ 0 ≤ x) := by
  rw [vars_mem]
  unfold negs
  rw [List.mem_map]
  constructor
  · rintro ⟨y, hy, rfl⟩
    rw [List.mem_filter] at hy
    have h1 : y < 0 := by simpa using hy.2
    exact ⟨by rw [show -1 - (-1 - y) = y by omega]; exact hy.1, by omega⟩
  · rintro ⟨h1, h2⟩
    exact ⟨-1 - x, List.mem_filter.2 ⟨h1, by simp; omega⟩, by omega⟩

set_option maxHeartbeats 2000000 in
theorem implLinearIn (A A' : Option Addr) (n c m c' : Nat) (sg t : List Int) (w : World) (h : Seg w w.heap.size A n sg) (h' : Seg w w.heap.size A' m t) (hn : n ≤ 1048576) (hm : m ≤ 1048576) :
    Calls Try.prog 37 #[.agg #[.slice A n c], .slice A' m c'] w (AnsB w (linearB sg t)) := by
  obtain ⟨W, hW⟩ : ∃ W, W = w.alloc (.cells #[.slice A n c] 26) := ⟨_, rfl⟩
  have rA : Row W w.heap.size 26 #[.slice A n c] := by rw [hW]; exact Row.new _ _ _
  have bel : Below w.heap.size w W := by rw [hW]; exact (Below.refl _ _).alloc (Nat.le_refl _) _
  have s := (h.below bel).more bel.size
  have s' := (h'.below bel).more bel.size
  have HW := Lib.hid hW
  have HL := Lib.hid h'.1
  have L := Lib.hid (implTermOk A A' n c m c' sg t W s s' hn hm)
  clear hW
  cases hok : termOkB sg t with
  | false =>
    have HS := Lib.hid hok
    clear hok s s' h h'
    go_enter Try.func37, Try.ntmps37
    go_wp2_with fail
    rw [← HW.out]
    refine L.out.mono ?_
    rintro e w1 ⟨he, bb⟩
    rw [HS.out] at he
    subst he
    have F := Lib.hid (ansB (b := linearB sg t) (a := false) (by unfold linearB; rw [HS.out]; rfl) (next_trans bel bb))
    clear bb bel rA
    go_wp2
    go_ret
    exact F.out
  | true =>
    have HS := Lib.hid hok
    have HT := Lib.hid (fun x hx => term_mem (x := x) hok hx)
    have H60 := (term_len hok).2
    clear hok
    go_enter Try.func37, Try.ntmps37
    go_wp2_with fail
    rw [← HW.out]
    refine L.out.mono ?_
    rintro e w1 ⟨he, bb⟩
    rw [HS.out] at he
    subst he
    have L2 := Lib.hid (implVarsOf A A' n c m c' sg t w1 (s.next bb) (s'.next bb) hn hm)
    have cA : w1.cell? ⟨w.heap.size, 0, none⟩ = some (.slice A n c) := (rA.next bb).cell 0
    clear L s s'
    go_wp2_with fail
    refine L2.out.mono ?_
    rintro e w2 ⟨V, vn, vc, rfl, o2, b2⟩
    rw [show varsI sg t = vars t from if_pos HS.out] at o2
    have hvn : vn ≤ 60 := by have h1 := Own.len o2; have h2 := vars_len t; omega
    have S0 : HeadLinV w A n c V vn t (.int .i64 0) w2 := ⟨0, Nat.zero_le _, rfl, fun j hj => absurd hj (Nat.not_lt_zero _), Own.seg o2, (rA.next bb).next b2, next_trans (next_trans bel bb) b2⟩
    have HS0 := Lib.hid S0
    clear S0 o2 b2 L2 bb bel rA cA
    go_wp2_with fail
    go_loopw [15] (fun i wr => HeadLinV w A n c V vn t i wr) (fun i _ => vn - (intOf i).toNat)
    case atStart => exact HS0.out
    case round =>
      obtain ⟨k, hk, rfl, hlow, sv, hr, hb⟩ := hrel
      have HLOW := Lib.hid hlow
      clear hlow HS0
      have HSV := Lib.hid sv.1
      by_cases hlt : k < vn
      · obtain ⟨b, off, x, rfl, -, hx, ex⟩ := sv.spot hlt
        have hmem : x ∈ vars t := by
          have hkl : k < (vars t).length := by rw [HSV.out]; exact hlt
          have := ex.out
          rw [← this]
          simp [List.getD, hkl]
        have hmem2 := vars_neg.1 hmem
        have hx24 := HT.out _ hmem2.1
        have hx0 : 0 ≤ x := hmem2.2
        have hx1 : x ≤ 23 := by omega
        have cA : wr.cell? ⟨w.heap.size, 0, none⟩ = some (.slice A n c) := hr.cell 0
        have L3 := Lib.hid (implCountOf A A' n c m c' sg t (-1 - x) wr ((h.below hb).more hb.size) ((h'.below hb).more hb.size) hn hm (by omega) (by omega))
        have EC := Lib.hid (show countI sg t (-1 - x) = (many t (-1 - x) : Int) from if_pos HS.out)
        obtain ⟨z, hz⟩ : ∃ z, many t (-1 - x) = z := ⟨_, rfl⟩
        have HZ := Lib.hid hz
        clear hz
        have hzl : z ≤ 60 := by rw [← HZ.out]; unfold many; have := cnt_le t (-1 - x) t.length; omega
        have F1 := Lib.hid (fun (h1 : 1 < z) => lin_no hmem2.1 (by omega) (by rw [HZ.out]; exact h1))
        clear hmem hmem2 hx24 h h'
        go_wp2_with fail
        refine L3.out.mono ?_
        rintro e w3 ⟨he, b3⟩
        rw [EC.out, HZ.out] at he
        subst he
        have hb3 := next_trans hb b3
        by_cases h1 : 1 < z
        · have F := Lib.hid (ansB (b := linearB sg t) (a := false) (by unfold linearB; rw [HS.out, F1.out h1]; rfl) hb3)
          clear hb3 b3 hb hr sv ex L3 cA
          go_wp2
          go_ret
          exact F.out
        · have S : HeadLinV w A n c (some ⟨b, off, none⟩) vn t (.int .i64 ((k : Int) + 1)) w3 := ⟨k + 1, hlt, by simp, fun j hj => by
            by_cases e : j = k
            · subst e; rw [ex.out, HZ.out]; omega
            · exact HLOW.out j (by omega), sv.next b3, hr.next b3, hb3⟩
          replace S := Lib.hid S
          clear hb3 b3 hb hr sv ex L3 cA
          go_wp2
          go_roundw
          case rel => exact S.out
          case measure => simp [intOf]; omega
      · have F : linB t = true := lin_yes (fun x hx h0 => by
          have h1 : -1 - x ∈ vars t := vars_neg.2 ⟨by rw [show -1 - (-1 - x) = x by omega]; exact hx, by omega⟩
          obtain ⟨j, hj, e⟩ := List.getElem_of_mem h1
          have e2 : (vars t).getD j 0 = -1 - x := by simp [List.getD, hj, e]
          have h3 := HLOW.out j (by rw [HSV.out] at hj; omega)
          rw [e2, show -1 - (-1 - x) = x by omega] at h3
          exact h3)
        have HF := Lib.hid (ansB (b := linearB sg t) (a := true) (by unfold linearB; rw [HS.out, F]; rfl) hb)
        clear F hb hr sv h h'
        go_wp2
        go_ret
        exact HF.out
end Go.Proofs.Ytdeegjeopkcomaa.linear
