/-
  CONTRACTS: spec.l2Vars, VarsOf, GroundIn; impl.VarsOf, GroundIn. Conditions: the slices read as lists ('Seg'), at most 1048576 numbers. By an AI agent.
-/
import Derived.Test.YtdeegjeopkcomaaVars
namespace Go.Proofs.Ytdeegjeopkcomaa.varsOf
open Go.RowKit Go.Proofs.Ytdeegjeopkcomaa.base Go.Proofs.Ytdeegjeopkcomaa.ints Go.Proofs.Ytdeegjeopkcomaa.sig Go.Proofs.Ytdeegjeopkcomaa.term Go.Proofs.Ytdeegjeopkcomaa.termOk Go.Proofs.Ytdeegjeopkcomaa.marks Go.Proofs.Ytdeegjeopkcomaa.app Go.Proofs.Ytdeegjeopkcomaa.sym Go.Proofs.Ytdeegjeopkcomaa.sub Go.Proofs.Ytdeegjeopkcomaa.segs Go.Proofs.Ytdeegjeopkcomaa.sorted Go.Proofs.Ytdeegjeopkcomaa.varsMath Go.Proofs.Ytdeegjeopkcomaa.termFacts
set_option maxRecDepth 100000

/-- the head of the loop over the numbers -/
def HeadVars (w : World) (m : Nat) (t : List Int) (out i : Value) (wr : World) : Prop :=
  ∃ (k b off n c : Nat), k ≤ m ∧ i = .int .i64 k ∧ out = .slice (some ⟨b, off, none⟩) n c ∧ Seg wr wr.heap.size (some ⟨b, off, none⟩) n (vars (t.take k)) ∧ n ≤ c ∧ c ≤ 9223372036854775807 ∧ n ≤ m ∧ Below w.heap.size w wr
theorem vars_seg_len {t : List Int} {m k n : Nat} {w : World} {B : Nat} {A : Option Addr} (hm : t.length = m) (h : Seg w B A n (vars (t.take k))) : n ≤ m := by
  have h1 := vars_len (t.take k)
  have h2 := h.1
  simp at h1
  omega

set_option maxHeartbeats 1000000 in
theorem l2Vars (A : Option Addr) (m c : Nat) (t : List Int) (w : World) (h : Seg w w.heap.size A m t) (hm : m ≤ 1048576) (hv : ∀ x ∈ t, -24 ≤ x) :
    Calls Try.prog 96 #[.slice A m c] w (AnsInto w (vars t)) := by
  have HL := Lib.hid h.1
  have HV := Lib.hid hv
  clear hv
  have S0 : HeadVars w m t (.slice (some ⟨w.heap.size, 0, none⟩) 0 0) (.int .i64 0) (w.alloc (.cells #[] 2)) :=
    ⟨0, _, _, 0, 0, Nat.zero_le _, rfl, rfl, ⟨rfl, fun h => absurd h (Nat.lt_irrefl _)⟩, Nat.le_refl _, by omega, Nat.zero_le _, (Below.refl _ _).alloc (Nat.le_refl _) _⟩
  have HS0 := Lib.hid S0
  clear S0
  go_enter Try.func96, Try.ntmps96
  go_wp2_with fail
  go_loopw [3, 4] (fun out i wr => HeadVars w m t out i wr) (fun _ i _ => m - (intOf i).toNat)
  case atStart => exact HS0.out
  case round =>
    obtain ⟨k, b, off, n, cc, hk, rfl, rfl, hs, hc1, hc2, hnm, hb⟩ := hrel
    clear HS0
    by_cases hlt : k < m
    · obtain ⟨b', off', x, rfl, hbb, hx, ex⟩ := h.spot hlt
      have hx1 : wr.cell? ⟨b', off' + k, none⟩ = some (.int .i64 x) := (hb.cell (p := ⟨b', off' + k, none⟩) hbb).trans hx
      have hmem : x ∈ t := by
        have hkl : k < t.length := by rw [HL.out]; exact hlt
        have := ex.out
        rw [← this]
        simp [List.getD, hkl]
      have hx24 : -24 ≤ x := HV.out x hmem
      clear hmem
      by_cases hneg : x < 0
      · have E := Lib.hid (vars_yes (t := t) (k := k) (by rw [HL.out]; exact hlt) ex.out hneg)
        have L := Lib.hid (l1Into b off n cc _ (-1 - x) wr hs hc1 hc2 (by omega))
        clear hs hx ex h
        go_wp2_with fail
        refine L.out.mono ?_
        rintro e w1 ⟨b1, off1, n1, c1, rfl, s1, h1, h2, bb⟩
        rw [← E.out] at s1
        have h3 := vars_seg_len HL.out s1
        have S : HeadVars w m t (.slice (some ⟨b1, off1, none⟩) n1 c1) (.int .i64 ((k : Int) + 1)) w1 := ⟨k + 1, b1, off1, n1, c1, hlt, by simp, rfl, s1, h1, h2, h3, next_trans hb bb⟩
        replace S := Lib.hid S
        clear s1 bb hb L h1 h2 h3 hx1
        go_wp2
        go_roundw
        case rel => exact S.out
        case measure => simp [intOf]; omega
      · rw [← vars_no (t := t) (k := k) (by rw [HL.out]; exact hlt) ex.out hneg] at hs
        have S : HeadVars w m t (.slice (some ⟨b, off, none⟩) n cc) (.int .i64 ((k : Int) + 1)) wr := ⟨k + 1, b, off, n, cc, hlt, by simp, rfl, hs, hc1, hc2, hnm, hb⟩
        replace S := Lib.hid S
        clear hs hb hx ex h hc1 hc2
        go_wp2
        go_roundw
        case rel => exact S.out
        case measure => simp [intOf]; omega
    · have F : AnsInto w (vars t) (.returned (.slice (some ⟨b, off, none⟩) n cc)) wr := by
        rw [List.take_of_length_le (by rw [HL.out]; omega)] at hs
        exact ⟨b, off, n, cc, rfl, hs, hc1, hc2, hb⟩
      have HF := Lib.hid F
      clear F hs hb h
      go_wp2
      go_ret
      exact HF.out

/-- a slice that reads as these numbers, with its bounds -/
def AnsSeg (w : World) (ys : List Int) (e : Ending) (w' : World) : Prop := ∃ A n c, e = .returned (.slice A n c) ∧ Seg w' w'.heap.size A n ys ∧ Below w.heap.size w w'

set_option maxHeartbeats 1000000 in
theorem specVarsOf (A A' : Option Addr) (n c m c' : Nat) (sg t : List Int) (w : World) (h : Seg w w.heap.size A n sg) (h' : Seg w w.heap.size A' m t) (hn : n ≤ 1048576) (hm : m ≤ 1048576) :
    Calls Try.prog 50 #[.agg #[.slice A n c], .slice A' m c'] w (AnsSeg w (varsI sg t)) := by
  obtain ⟨W, hW⟩ : ∃ W, W = w.alloc (.cells #[.slice A n c] 26) := ⟨_, rfl⟩
  have rA : Row W w.heap.size 26 #[.slice A n c] := by rw [hW]; exact Row.new _ _ _
  have bel : Below w.heap.size w W := by rw [hW]; exact (Below.refl _ _).alloc (Nat.le_refl _) _
  have s := (h.below bel).more bel.size
  have s' := (h'.below bel).more bel.size
  have HW := Lib.hid hW
  have L := Lib.hid (specTermOk A A' n c m c' sg t W s s' hn hm)
  clear hW h h' s
  cases hok : termOkB sg t with
  | false =>
    have HS := Lib.hid hok
    clear hok s'
    go_enter Try.func50, Try.ntmps50
    go_wp2_with fail
    rw [← HW.out]
    refine L.out.mono ?_
    rintro e w1 ⟨he, bb⟩
    rw [HS.out] at he
    subst he
    have F : AnsSeg w (varsI sg t) (.returned (.slice (some ⟨w1.heap.size, 0, none⟩) 0 0)) (w1.alloc (.cells #[] 2)) :=
      ⟨_, 0, 0, rfl, by unfold varsI; rw [if_neg (by rw [HS.out]; simp)]; exact Seg.empty, (next_trans bel bb).alloc (next_trans bel bb).size _⟩
    have HF := Lib.hid F
    clear F bb bel rA
    go_wp2
    go_ret
    exact HF.out
  | true =>
    have HS := Lib.hid hok
    have HV := Lib.hid (fun x hx => (term_mem (x := x) hok hx).1)
    clear hok
    go_enter Try.func50, Try.ntmps50
    go_wp2_with fail
    rw [← HW.out]
    refine L.out.mono ?_
    rintro e w1 ⟨he, bb⟩
    rw [HS.out] at he
    subst he
    have L2 := Lib.hid (l2Vars A' m c' t w1 (s'.next bb) hm HV.out)
    clear L
    go_wp2_with fail
    refine L2.out.mono ?_
    rintro e w2 ⟨b, off, n2, c2, rfl, s2, -, -, b2⟩
    have F : AnsSeg w (varsI sg t) (.returned (.slice (some ⟨b, off, none⟩) n2 c2)) w2 := ⟨_, _, _, rfl, by unfold varsI; rw [if_pos HS.out]; exact s2, next_trans (next_trans bel bb) b2⟩
    have HF := Lib.hid F
    clear F s2 b2 bb bel rA s' L2
    go_wp2
    go_ret
    exact HF.out

/-- the head of the loop that collects -/
def HeadNegs (w : World) (A : Option Addr) (n c m : Nat) (t : List Int) (out i : Value) (wr : World) : Prop :=
  ∃ (k : Nat) (O : Option Addr) (on oc : Nat), k ≤ m ∧ i = .int .i64 k ∧ out = .slice O on oc ∧ Own wr (w.heap.size + 1) (.slice O on oc) (negs (t.take k)) ∧ Row wr w.heap.size 26 #[.slice A n c] ∧ Below w.heap.size w wr

set_option maxHeartbeats 2000000 in
theorem implVarsOf (A A' : Option Addr) (n c m c' : Nat) (sg t : List Int) (w : World) (h : Seg w w.heap.size A n sg) (h' : Seg w w.heap.size A' m t) (hn : n ≤ 1048576) (hm : m ≤ 1048576) :
    Calls Try.prog 36 #[.agg #[.slice A n c], .slice A' m c'] w (AnsList w (varsI sg t)) := by
  obtain ⟨W, hW⟩ : ∃ W, W = w.alloc (.cells #[.slice A n c] 26) := ⟨_, rfl⟩
  have rA : Row W w.heap.size 26 #[.slice A n c] := by rw [hW]; exact Row.new _ _ _
  have bel : Below w.heap.size w W := by rw [hW]; exact (Below.refl _ _).alloc (Nat.le_refl _) _
  have s := (h.below bel).more bel.size
  have s' := (h'.below bel).more bel.size
  have HW := Lib.hid hW
  have HL := Lib.hid h'.1
  have L := Lib.hid (implTermOk A A' n c m c' sg t W s s' hn hm)
  clear hW h s
  cases hok : termOkB sg t with
  | false =>
    have HS := Lib.hid hok
    clear hok s' h'
    go_enter Try.func36, Try.ntmps36
    go_wp2_with fail
    rw [← HW.out]
    refine L.out.mono ?_
    rintro e w1 ⟨he, bb⟩
    rw [HS.out] at he
    subst he
    have F : AnsList w (varsI sg t) (.returned (.slice none 0 0)) w1 := ⟨_, _, _, rfl, by unfold varsI; rw [if_neg (by rw [HS.out]; simp)]; exact Own.nil _ _, next_trans bel bb⟩
    have HF := Lib.hid F
    clear F bb bel rA
    go_wp2
    go_ret
    exact HF.out
  | true =>
    have HS := Lib.hid hok
    have HV := Lib.hid (fun x hx => (term_mem (x := x) hok hx).1)
    clear hok s'
    go_enter Try.func36, Try.ntmps36
    go_wp2_with fail
    rw [← HW.out]
    refine L.out.mono ?_
    rintro e w1 ⟨he, bb⟩
    rw [HS.out] at he
    subst he
    have S0 : HeadNegs w A n c m t (.slice none 0 0) (.int .i64 0) w1 := ⟨0, _, _, _, Nat.zero_le _, rfl, rfl, by simpa [negs] using Own.nil w1 (w.heap.size + 1), rA.next bb, next_trans bel bb⟩
    have HS0 := Lib.hid S0
    clear S0 bb bel rA L
    go_wp2_with fail
    go_loopw [5, 14] (fun out i wr => HeadNegs w A n c m t out i wr) (fun _ i _ => m - (intOf i).toNat)
    case atStart => exact HS0.out
    case round =>
      obtain ⟨k, O, on, oc, hk, rfl, rfl, ho, hr, hb⟩ := hrel
      clear HS0
      have hon : on ≤ m := by have h1 := Own.len ho; have h2 := negs_len (t.take k); simp at h2; have h3 := HL.out; omega
      by_cases hlt : k < m
      · obtain ⟨b, off, x, rfl, hbb, hx, ex⟩ := h'.spot hlt
        have hx1 : wr.cell? ⟨b, off + k, none⟩ = some (.int .i64 x) := (hb.cell (p := ⟨b, off + k, none⟩) hbb).trans hx
        have hsz := hr.lt
        have hmem : x ∈ t := by
          have hkl : k < t.length := by rw [HL.out]; exact hlt
          have := ex.out
          rw [← this]
          simp [List.getD, hkl]
        have hx24 : -24 ≤ x := HV.out x hmem
        clear hmem hx h'
        by_cases hneg : x < 0
        · have E := Lib.hid (negs_yes (t := t) (k := k) (by rw [HL.out]; exact hlt) ex.out hneg)
          clear ex
          go_wp2_with (at_builtin; refine app1 rfl _ _ rfl (w.heap.size + 1) O on oc (negs (t.take k)) rfl (Own.alloc ho _) wr.heap.size 1 (-1 - x) rfl ((Row.new _ _ _).cell 0) (by omega) (by simp; omega) ?_; intro O' oc' w2 ho2 b2)
          have S : HeadNegs w A n c m t (.slice O' (on + 1) oc') (.int .i64 ((k : Int) + 1)) w2 := ⟨k + 1, O', on + 1, oc', hlt, by simp, rfl, by rw [E.out]; exact ho2, ((hr.alloc _).below b2 (Nat.lt_succ_self _)), ((hb.alloc (Nat.le_of_lt hsz) _).trans (b2.mono (Nat.le_succ _)))⟩
          replace S := Lib.hid S
          clear ho2 b2 ho hr hb
          go_wp2
          go_roundw
          case rel => exact S.out
          case measure => simp [intOf]; omega
        · rw [← negs_no (t := t) (k := k) (by rw [HL.out]; exact hlt) ex.out hneg] at ho
          have S : HeadNegs w A n c m t (.slice O on oc) (.int .i64 ((k : Int) + 1)) wr := ⟨k + 1, O, on, oc, hlt, by simp, rfl, ho, hr, hb⟩
          replace S := Lib.hid S
          clear ho hr hb ex
          go_wp2
          go_roundw
          case rel => exact S.out
          case measure => simp [intOf]; omega
      · rw [List.take_of_length_le (by rw [HL.out]; omega)] at ho
        have hge := Own.ge ho
        have hsz := hr.lt
        have L2 := Lib.hid (sortOwn (w.heap.size + 1) O on oc (negs t) wr ho (by omega))
        clear ho hr h'
        go_wp2_with fail
        refine L2.out.mono ?_
        rintro e w2 ⟨rfl, o2, g2⟩
        have b2 := hb.grown g2 hb.size (fun k hk => by have := hge k hk; omega)
        have L3 := Lib.hid (compactOwn (w.heap.size + 1) O on oc (up (negs t)) w2 o2 (by omega))
        clear o2 g2 L2 hb
        go_wp2_with fail
        refine L3.out.mono ?_
        rintro e w3 ⟨c3, rfl, o3, g3⟩
        have b3 := b2.grown g3 b2.size (fun k hk => by have := hge k hk; omega)
        have F : AnsList w (varsI sg t) (.returned (.slice O (Lib.compact (up (negs t))).length c3)) w3 := ⟨O, _, c3, rfl, by unfold varsI; rw [if_pos HS.out, ← sorted_vars t]; exact Own.lower o3 (Nat.le_succ _), b3⟩
        have HF := Lib.hid F
        clear F o3 g3 b2 b3 L3 hge
        go_wp2
        go_ret
        exact HF.out

/-! ### GroundIn -/
def groundB (sg t : List Int) : Bool := termOkB sg t && decide ((vars t).length = 0)
def AnsB (w : World) (b : Bool) (e : Ending) (w' : World) : Prop := e = .returned (.bool b) ∧ Below w.heap.size w w'
theorem ansB {w w' : World} {a b : Bool} (h : a = b) (hb : Below w.heap.size w w') : AnsB w b (.returned (.bool a)) w' := ⟨by rw [h], hb⟩

set_option maxHeartbeats 1000000 in
theorem specGroundIn (A A' : Option Addr) (n c m c' : Nat) (sg t : List Int) (w : World) (h : Seg w w.heap.size A n sg) (h' : Seg w w.heap.size A' m t) (hn : n ≤ 1048576) (hm : m ≤ 1048576) :
    Calls Try.prog 55 #[.agg #[.slice A n c], .slice A' m c'] w (AnsB w (groundB sg t)) := by
  obtain ⟨W, hW⟩ : ∃ W, W = w.alloc (.cells #[.slice A n c] 26) := ⟨_, rfl⟩
  have bel : Below w.heap.size w W := by rw [hW]; exact (Below.refl _ _).alloc (Nat.le_refl _) _
  have s := (h.below bel).more bel.size
  have s' := (h'.below bel).more bel.size
  have HW := Lib.hid hW
  have L := Lib.hid (specTermOk A A' n c m c' sg t W s s' hn hm)
  clear hW h h' s
  cases hok : termOkB sg t with
  | false =>
    have HS := Lib.hid hok
    clear hok s'
    go_enter Try.func55, Try.ntmps55
    go_wp2_with fail
    rw [← HW.out]
    refine L.out.mono ?_
    rintro e w1 ⟨he, bb⟩
    rw [HS.out] at he
    subst he
    have F := Lib.hid (ansB (b := groundB sg t) (a := false) (by unfold groundB; rw [HS.out]; rfl) (next_trans bel bb))
    clear bb bel
    go_wp2
    go_ret
    exact F.out
  | true =>
    have HS := Lib.hid hok
    have HV := Lib.hid (fun x hx => (term_mem (x := x) hok hx).1)
    clear hok
    go_enter Try.func55, Try.ntmps55
    go_wp2_with fail
    rw [← HW.out]
    refine L.out.mono ?_
    rintro e w1 ⟨he, bb⟩
    rw [HS.out] at he
    subst he
    have L2 := Lib.hid (l2Vars A' m c' t w1 (s'.next bb) hm HV.out)
    clear L
    go_wp2_with fail
    refine L2.out.mono ?_
    rintro e w2 ⟨b, off, n2, c2, rfl, s2, -, -, b2⟩
    have F := fun a ha => ansB (b := groundB sg t) (a := a) ha (next_trans (next_trans bel bb) b2)
    have hl := s2.1
    by_cases h0 : n2 = 0
    · subst h0
      have HF := Lib.hid (F true (by unfold groundB; rw [HS.out, hl]; rfl))
      clear F s2 b2 bb bel s' L2 hl
      go_wp2
      go_ret
      exact HF.out
    · have HF := Lib.hid (F false (by unfold groundB; rw [HS.out, hl]; simp [h0]))
      have e0 : ((n2 : Int) == 0) = false := by simp; omega
      clear F s2 b2 bb bel s' L2 hl
      go_wp2
      go_ret
      exact HF.out

set_option maxHeartbeats 1000000 in
theorem implGroundIn (A A' : Option Addr) (n c m c' : Nat) (sg t : List Int) (w : World) (h : Seg w w.heap.size A n sg) (h' : Seg w w.heap.size A' m t) (hn : n ≤ 1048576) (hm : m ≤ 1048576) :
    Calls Try.prog 39 #[.agg #[.slice A n c], .slice A' m c'] w (AnsB w (groundB sg t)) := by
  obtain ⟨W, hW⟩ : ∃ W, W = w.alloc (.cells #[.slice A n c] 26) := ⟨_, rfl⟩
  have rA : Row W w.heap.size 26 #[.slice A n c] := by rw [hW]; exact Row.new _ _ _
  have bel : Below w.heap.size w W := by rw [hW]; exact (Below.refl _ _).alloc (Nat.le_refl _) _
  have s := (h.below bel).more bel.size
  have s' := (h'.below bel).more bel.size
  have HW := Lib.hid hW
  have L := Lib.hid (implTermOk A A' n c m c' sg t W s s' hn hm)
  clear hW h h'
  cases hok : termOkB sg t with
  | false =>
    have HS := Lib.hid hok
    clear hok s s'
    go_enter Try.func39, Try.ntmps39
    go_wp2_with fail
    rw [← HW.out]
    refine L.out.mono ?_
    rintro e w1 ⟨he, bb⟩
    rw [HS.out] at he
    subst he
    have F := Lib.hid (ansB (b := groundB sg t) (a := false) (by unfold groundB; rw [HS.out]; rfl) (next_trans bel bb))
    clear bb bel rA
    go_wp2
    go_ret
    exact F.out
  | true =>
    have HS := Lib.hid hok
    clear hok
    go_enter Try.func39, Try.ntmps39
    go_wp2_with fail
    rw [← HW.out]
    refine L.out.mono ?_
    rintro e w1 ⟨he, bb⟩
    rw [HS.out] at he
    subst he
    have L2 := Lib.hid (implVarsOf A A' n c m c' sg t w1 (s.next bb) (s'.next bb) hn hm)
    have cA : w1.cell? ⟨w.heap.size, 0, none⟩ = some (.slice A n c) := (rA.next bb).cell 0
    clear L
    go_wp2_with fail
    refine L2.out.mono ?_
    rintro e w2 ⟨A2, n2, c2, rfl, o2, b2⟩
    have F := fun a ha => ansB (b := groundB sg t) (a := a) ha (next_trans (next_trans bel bb) b2)
    have hl := Own.len o2
    rw [show varsI sg t = vars t from if_pos HS.out] at hl
    by_cases h0 : n2 = 0
    · subst h0
      have HF := Lib.hid (F true (by unfold groundB; rw [HS.out, ← hl]; rfl))
      clear F o2 b2 bb bel s s' L2 hl cA rA
      go_wp2
      go_ret
      exact HF.out
    · have HF := Lib.hid (F false (by unfold groundB; rw [HS.out, ← hl]; simp [h0]))
      have e0 : ((n2 : Int) == 0) = false := by simp; omega
      clear F o2 b2 bb bel s s' L2 hl cA rA
      go_wp2
      go_ret
      exact HF.out
end Go.Proofs.Ytdeegjeopkcomaa.varsOf
