/-
  CONTRACTS: spec.l1There, impl.cursorAt, spec.EndOf, impl.EndOf. Conditions: the slices read as lists ('Seg'), at most 1048576 numbers; the place is an int64. By an AI agent.
-/
import Derived.Test.YtadajlchoongcaaTermOk
import Derived.Test.YtadajlchoongcaaTerm2
namespace Go.Proofs.Ytadajlchoongcaa.endAt
open Go.RowKit Go.Proofs.Ytadajlchoongcaa.base Go.Proofs.Ytadajlchoongcaa.ints Go.Proofs.Ytadajlchoongcaa.sig Go.Proofs.Ytadajlchoongcaa.term Go.Proofs.Ytadajlchoongcaa.arity Go.Proofs.Ytadajlchoongcaa.endOf Go.Proofs.Ytadajlchoongcaa.cursor Go.Proofs.Ytadajlchoongcaa.termOk

def inB (t : List Int) (x : Int) : Bool := decide (0 ≤ x ∧ x < t.length)
def thereB (sg t : List Int) (x : Int) : Bool := termOkB sg t && inB t x
def endOfI (sg t : List Int) (x : Int) : Int := if thereB sg t x = true then endI sg t x.toNat else -1

theorem termOk_parts {sg t : List Int} (h : termOkB sg t = true) : sigOkB sg = true ∧ t.length ≤ 60 ∧ scan sg 1 t = some t.length := by
  unfold termOkB termB at h
  simp only [Bool.and_eq_true, decide_eq_true_eq] at h
  exact h
theorem there_parts {sg t : List Int} {x : Int} (h : thereB sg t x = true) : termOkB sg t = true ∧ 0 ≤ x ∧ x < t.length := by
  unfold thereB inB at h
  simp only [Bool.and_eq_true, decide_eq_true_eq] at h
  exact h
theorem there_no {sg t : List Int} {x : Int} (h : termOkB sg t = false ∨ x < 0 ∨ (t.length : Int) ≤ x) : thereB sg t x = false := by
  unfold thereB inB
  rcases h with h | h | h
  · rw [h, Bool.false_and]
  · rw [decide_eq_false (by omega), Bool.and_false]
  · rw [decide_eq_false (by omega), Bool.and_false]
theorem there_yes {sg t : List Int} {x : Int} (h : termOkB sg t = true) (h0 : 0 ≤ x) (h1 : x < t.length) : thereB sg t x = true := by
  unfold thereB inB
  rw [h, decide_eq_true ⟨h0, h1⟩]
  rfl

/-- l1There -/
theorem there (A : Option Addr) (m c : Nat) (x : Int) (b : Bool) (w : World) (hm : m ≤ 1048576) (hb : decide (0 ≤ x ∧ x < m) = b) :
    Calls Try.prog 65 #[.slice A m c, .int .i64 x] w fun e w' => w = w' ∧ e = .returned (.bool b) := by
  by_cases h : 0 ≤ x ∧ x ≤ (m : Int) - 1
  · have hbt : b = true := by rw [← hb]; simp; omega
    subst hbt
    clear hb
    go_enter Try.func65, Try.ntmps65
    go_wp2_with fail
    refine (inYes _ _ _ _ h).mono ?_
    rintro e w' ⟨rfl, rfl⟩
    go_wp2
    go_ret
    exact ⟨rfl, rfl⟩
  · have hbt : b = false := by rw [← hb]; simp; omega
    subst hbt
    clear hb
    go_enter Try.func65, Try.ntmps65
    go_wp2_with fail
    refine (inNo _ _ _ _ h).mono ?_
    rintro e w' ⟨rfl, rfl⟩
    go_wp2
    go_ret
    exact ⟨rfl, rfl⟩

def AnsEndOf (w : World) (sg t : List Int) (x : Int) (e : Ending) (w' : World) : Prop := e = .returned (.int .i64 (endOfI sg t x)) ∧ Below w.heap.size w w'
theorem endOf_no {w w' : World} {sg t : List Int} {x : Int} (h : thereB sg t x = false) (hb : Below w.heap.size w w') : AnsEndOf w sg t x (.returned (.int .i64 (-1))) w' :=
  ⟨by unfold endOfI; rw [if_neg (by rw [h]; simp)], hb⟩
theorem endOf_yes {w w' : World} {sg t : List Int} {x : Int} (h : thereB sg t x = true) (hb : Below w.heap.size w w') : AnsEndOf w sg t x (.returned (.int .i64 (endI sg t x.toNat))) w' :=
  ⟨by unfold endOfI; rw [if_pos h], hb⟩

set_option maxHeartbeats 1000000 in
theorem specEndOf (A A' : Option Addr) (n c m c' : Nat) (sg t : List Int) (x : Int) (w : World) (h : Seg w w.heap.size A n sg) (h' : Seg w w.heap.size A' m t) (hn : n ≤ 1048576) (hm : m ≤ 1048576) (_ : -9223372036854775808 ≤ x) (_ : x ≤ 9223372036854775807) :
    Calls Try.prog 40 #[.agg #[.slice A n c], .slice A' m c', .int .i64 x] w (AnsEndOf w sg t x) := by
  obtain ⟨W, hW⟩ : ∃ W, W = w.alloc (.cells #[.slice A n c] 26) := ⟨_, rfl⟩
  have rA : Row W w.heap.size 26 #[.slice A n c] := by rw [hW]; exact Row.new _ _ _
  have bel : Below w.heap.size w W := by rw [hW]; exact (Below.refl _ _).alloc (Nat.le_refl _) _
  replace h := (h.below bel).more bel.size
  replace h' := (h'.below bel).more bel.size
  have HW := Lib.hid hW
  have HL := Lib.hid h'.1
  clear hW
  have L := Lib.hid (specTermOk A A' n c m c' sg t W h h' hn hm)
  cases hok : termOkB sg t with
  | false =>
    have HS := Lib.hid hok
    clear hok h h'
    go_enter Try.func40, Try.ntmps40
    go_wp2_with fail
    rw [← HW.out]
    refine L.out.mono ?_
    rintro e w1 ⟨he, bb⟩
    rw [HS.out] at he
    subst he
    have F := Lib.hid (endOf_no (x := x) (there_no (.inl HS.out)) (next_trans bel bb))
    clear bb bel rA
    go_wp2
    go_ret
    exact F.out
  | true =>
    have HS := Lib.hid hok
    clear hok
    by_cases hin : 0 ≤ x ∧ x < (m : Int)
    · have hd : decide (0 ≤ x ∧ x < (m : Int)) = true := by simp [hin]
      have HD := Lib.hid hd
      clear hd
      have hars := (sig_arities (termOk_parts HS.out).1).1
      have HT := Lib.hid (there_yes HS.out hin.1 (by rw [HL.out]; exact hin.2))
      go_enter Try.func40, Try.ntmps40
      go_wp2_with fail
      rw [← HW.out]
      refine L.out.mono ?_
      rintro e w1 ⟨he, bb⟩
      rw [HS.out] at he
      subst he
      replace h := h.next bb
      replace h' := h'.next bb
      replace rA := rA.next bb
      replace bel := next_trans bel bb
      have cA : w1.cell? ⟨w.heap.size, 0, none⟩ = some (.slice A n c) := rA.cell 0
      clear bb
      go_wp2_with fail
      refine (there _ _ _ x true _ hm HD.out).mono ?_
      rintro e w2 ⟨rfl, rfl⟩
      go_wp2_with fail
      refine (specEnd A A' n c m c' sg t x _ h h' hn hm hars hin.1 (by omega)).mono ?_
      rintro e w2 ⟨rfl, bb⟩
      have F := Lib.hid (endOf_yes HT.out (next_trans bel bb))
      clear bb bel rA cA h h' hars HT
      generalize endI sg t x.toNat = z at *
      go_wp2
      go_ret
      exact F.out
    · have hd : decide (0 ≤ x ∧ x < (m : Int)) = false := by simp; omega
      have HD := Lib.hid hd
      have HT := Lib.hid (there_no (sg := sg) (t := t) (x := x) (by rw [HL.out]; omega))
      clear hd hin
      go_enter Try.func40, Try.ntmps40
      go_wp2_with fail
      rw [← HW.out]
      refine L.out.mono ?_
      rintro e w1 ⟨he, bb⟩
      rw [HS.out] at he
      subst he
      have F := Lib.hid (endOf_no HT.out (next_trans bel bb))
      clear bb bel rA h h'
      go_wp2_with fail
      refine (there _ _ _ x false _ hm HD.out).mono ?_
      rintro e w2 ⟨rfl, rfl⟩
      go_wp2
      go_ret
      exact F.out

/-- what cursorAt gives: a new cursor at the place, or nil -/
def AnsAt (w : World) (A : Option Addr) (n c : Nat) (A' : Option Addr) (m c' : Nat) (sg t : List Int) (x : Int) (e : Ending) (w' : World) : Prop :=
  Below w.heap.size w w' ∧ ((thereB sg t x = true ∧ ∃ p, e = .returned (.pointer (some ⟨p, 0, none⟩)) ∧ w.heap.size ≤ p ∧ Cur w' p A n c A' m c' sg t x.toNat) ∨ (thereB sg t x = false ∧ e = .returned (.pointer none)))
theorem at_no {w w' : World} {A A' : Option Addr} {n c m c' : Nat} {sg t : List Int} {x : Int} (h : thereB sg t x = false) (hb : Below w.heap.size w w') : AnsAt w A n c A' m c' sg t x (.returned (.pointer none)) w' := ⟨hb, .inr ⟨h, rfl⟩⟩

set_option maxHeartbeats 1000000 in
theorem cursorAt (A A' : Option Addr) (n c m c' : Nat) (sg t : List Int) (x : Int) (w : World) (h : Seg w w.heap.size A n sg) (h' : Seg w w.heap.size A' m t) (hn : n ≤ 1048576) (hm : m ≤ 1048576) :
    Calls Try.prog 57 #[.agg #[.slice A n c], .slice A' m c', .int .i64 x] w (AnsAt w A n c A' m c' sg t x) := by
  obtain ⟨W, hW⟩ : ∃ W, W = w.alloc (.cells #[.slice A n c] 26) := ⟨_, rfl⟩
  have rA : Row W w.heap.size 26 #[.slice A n c] := by rw [hW]; exact Row.new _ _ _
  have bel : Below w.heap.size w W := by rw [hW]; exact (Below.refl _ _).alloc (Nat.le_refl _) _
  replace h := (h.below bel).more bel.size
  replace h' := (h'.below bel).more bel.size
  have HW := Lib.hid hW
  have HL := Lib.hid h'.1
  clear hW
  have L := Lib.hid (implTermOk A A' n c m c' sg t W h h' hn hm)
  cases hok : termOkB sg t with
  | false =>
    have HS := Lib.hid hok
    clear hok h h'
    go_enter Try.func57, Try.ntmps57
    go_wp2_with fail
    rw [← HW.out]
    refine L.out.mono ?_
    rintro e w1 ⟨he, bb⟩
    rw [HS.out] at he
    subst he
    have F := Lib.hid (fun A n c A' m c' => at_no (A := A) (n := n) (c := c) (A' := A') (m := m) (c' := c') (x := x) (there_no (.inl HS.out)) (next_trans bel bb))
    clear bb bel rA
    go_wp2
    go_ret
    exact F.out _ _ _ _ _ _
  | true =>
    have HS := Lib.hid hok
    clear hok
    by_cases hin : 0 ≤ x ∧ x < (m : Int)
    · have hars := (sig_arities (termOk_parts HS.out).1).1
      have HT := Lib.hid (there_yes HS.out hin.1 (by rw [HL.out]; exact hin.2))
      obtain ⟨k, rfl⟩ := Int.eq_ofNat_of_zero_le hin.1
      obtain ⟨i0, i1⟩ := hin
      go_enter Try.func57, Try.ntmps57
      go_wp2_with fail
      rw [← HW.out]
      refine L.out.mono ?_
      rintro e w1 ⟨he, bb⟩
      rw [HS.out] at he
      subst he
      replace h := h.next bb
      replace h' := h'.next bb
      replace rA := rA.next bb
      replace bel := next_trans bel bb
      have cA : w1.cell? ⟨w.heap.size, 0, none⟩ = some (.slice A n c) := rA.cell 0
      have CN := cur_new (c := c) (c' := c') h h' hn hm hars k (by omega)
      have F : AnsAt w A n c A' m c' sg t (k : Int) (.returned (.pointer (some ⟨w1.heap.size, 0, none⟩))) (w1.alloc (.cells #[.slice A n c, .slice A' m c', .int .i64 k] 59)) :=
        ⟨bel.alloc (Nat.le_of_lt rA.lt) _, .inl ⟨HT.out, _, rfl, Nat.le_of_lt rA.lt, by rw [Int.toNat_natCast]; exact CN⟩⟩
      have HF := Lib.hid F
      clear F CN bb bel rA h h' hars HT
      go_wp2
      go_ret
      exact HF.out
    · have HT := Lib.hid (there_no (sg := sg) (t := t) (x := x) (by rw [HL.out]; omega))
      by_cases hx0 : x < 0
      · clear hin
        go_enter Try.func57, Try.ntmps57
        go_wp2_with fail
        rw [← HW.out]
        refine L.out.mono ?_
        rintro e w1 ⟨he, bb⟩
        rw [HS.out] at he
        subst he
        have F := Lib.hid (fun A n c A' m c' => at_no (A := A) (n := n) (c := c) (A' := A') (m := m) (c' := c') HT.out (next_trans bel bb))
        clear bb bel rA h h'
        go_wp2
        go_ret
        exact F.out _ _ _ _ _ _
      · have hx1 : (m : Int) ≤ x := by omega
        clear hin
        go_enter Try.func57, Try.ntmps57
        go_wp2_with fail
        rw [← HW.out]
        refine L.out.mono ?_
        rintro e w1 ⟨he, bb⟩
        rw [HS.out] at he
        subst he
        have F := Lib.hid (fun A n c A' m c' => at_no (A := A) (n := n) (c := c) (A' := A') (m := m) (c' := c') HT.out (next_trans bel bb))
        clear bb bel rA h h'
        go_wp2
        go_ret
        exact F.out _ _ _ _ _ _

set_option maxHeartbeats 1000000 in
theorem implEndOf (A A' : Option Addr) (n c m c' : Nat) (sg t : List Int) (x : Int) (w : World) (h : Seg w w.heap.size A n sg) (h' : Seg w w.heap.size A' m t) (hn : n ≤ 1048576) (hm : m ≤ 1048576) (_ : -9223372036854775808 ≤ x) (_ : x ≤ 9223372036854775807) :
    Calls Try.prog 20 #[.agg #[.slice A n c], .slice A' m c', .int .i64 x] w (AnsEndOf w sg t x) := by
  obtain ⟨W, hW⟩ : ∃ W, W = w.alloc (.cells #[.slice A n c] 26) := ⟨_, rfl⟩
  have bel : Below w.heap.size w W := by rw [hW]; exact (Below.refl _ _).alloc (Nat.le_refl _) _
  replace h := (h.below bel).more bel.size
  replace h' := (h'.below bel).more bel.size
  have HW := Lib.hid hW
  have HL := Lib.hid h'.1
  clear hW
  have L := Lib.hid (cursorAt A A' n c m c' sg t x W h h' hn hm)
  clear h h'
  go_enter Try.func20, Try.ntmps20
  go_wp2_with fail
  rw [← HW.out]
  refine L.out.mono ?_
  rintro e w1 ⟨bb, ⟨ht, p, rfl, hp, hc⟩ | ⟨ht, rfl⟩⟩
  · replace bel := next_trans bel bb
    have HT := Lib.hid ht
    have hsz : W.heap.size < w1.heap.size := Nat.lt_of_le_of_lt hp hc.row.lt
    have hwp : w.heap.size ≤ p := by rw [HW.out] at hp; simp at hp; omega
    clear ht bb
    go_wp2_with fail
    refine (pass p A n c A' m c' sg t x.toNat _ hc).mono ?_
    obtain ⟨hok, h0, h1⟩ := there_parts HT.out
    obtain ⟨j, hj, hj1, hj2⟩ := scan_at (termOk_parts hok).2.2 (a := x.toNat) (by omega)
    rintro e w2 ⟨hg, ⟨j', hj', rfl, hc2⟩ | ⟨hj', rfl, -⟩⟩
    · have c2 : w2.cell? ⟨p, 2, none⟩ = some (.int .i64 ((x.toNat + j' : Nat) : Int)) := hc2.row.cell 2
      have b2 : Below w.heap.size w w2 := bel.grown hg (by have := bel.size; omega) (fun k hk => by injection hk; omega)
      have F := endOf_yes HT.out b2
      rw [endI_some hj'] at F
      rw [show ((x.toNat : Int) + (j' : Int)) = ((x.toNat + j' : Nat) : Int) by simp] at F
      have HF := Lib.hid F
      clear F b2 hg hc2 hj hj1 hj2 hj' h0 h1 hok hc bel HT
      generalize x.toNat + j' = z at *
      go_wp2
      go_ret
      exact HF.out
    · rw [hj] at hj'
      cases hj'
  · have F := Lib.hid (endOf_no ht (next_trans bel bb))
    clear bb bel ht
    go_wp2
    go_ret
    exact F.out
end Go.Proofs.Ytadajlchoongcaa.endAt
