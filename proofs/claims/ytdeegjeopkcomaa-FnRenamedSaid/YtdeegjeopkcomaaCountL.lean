/-
  CONTRACTS: spec.l1Count, impl.CountOf. Conditions: the slices read as lists ('Seg'), at most 1048576 numbers. By an AI agent.
-/
import Derived.Test.YtdeegjeopkcomaaTermOk
namespace Go.Proofs.Ytdeegjeopkcomaa.count
open Go.RowKit Go.Proofs.Ytdeegjeopkcomaa.base Go.Proofs.Ytdeegjeopkcomaa.ints Go.Proofs.Ytdeegjeopkcomaa.sig Go.Proofs.Ytdeegjeopkcomaa.term Go.Proofs.Ytdeegjeopkcomaa.termOk

def cnt (t : List Int) (x : Int) (k : Nat) : Nat := (t.take k).count x
def countI (sg t : List Int) (x : Int) : Int := if termOkB sg t = true then (cnt t x t.length : Int) else 0

theorem cnt_le (t : List Int) (x : Int) (k : Nat) : cnt t x k ≤ k := by
  unfold cnt
  exact Nat.le_trans List.count_le_length (List.length_take_le _ _)
theorem cnt_step {t : List Int} {x y : Int} {k : Nat} (hk : k < t.length) (hy : t.getD k 0 = y) : cnt t x (k + 1) = cnt t x k + if y = x then 1 else 0 := by
  unfold cnt
  have e : t.take (k + 1) = t.take k ++ [y] := by
    rw [List.take_succ_eq_append_getElem hk, ← hy]
    simp [List.getD, hk]
  rw [e, List.count_append]
  by_cases h : y = x
  · simp [h]
  · simp [h]

def HeadCnt (m : Nat) (t : List Int) (x : Int) (many i : Value) : Prop := ∃ k : Nat, k ≤ m ∧ i = .int .i64 k ∧ many = .int .i64 (cnt t x k)
theorem headCnt_yes {m k : Nat} {t : List Int} {x : Int} (hm : t.length = m) (hk : k < m) (ex : Hid (t.getD k 0 = x)) : HeadCnt m t x (.int .i64 ((cnt t x k : Int) + 1)) (.int .i64 ((k : Int) + 1)) :=
  ⟨k + 1, hk, by simp, by rw [cnt_step (by omega) ex.out]; simp⟩
theorem headCnt_no {m k : Nat} {t : List Int} {x y : Int} (hm : t.length = m) (hk : k < m) (ex : Hid (t.getD k 0 = y)) (h : ¬ y = x) : HeadCnt m t x (.int .i64 (cnt t x k)) (.int .i64 ((k : Int) + 1)) :=
  ⟨k + 1, hk, by simp, by rw [cnt_step (by omega) ex.out, if_neg h]; simp⟩

set_option maxHeartbeats 400000 in
theorem l1Count (A : Option Addr) (m c : Nat) (t : List Int) (x : Int) (w : World) (h : Seg w w.heap.size A m t) (hm : m ≤ 1048576) :
    Calls Try.prog 115 #[.slice A m c, .int .i64 x] w fun e w' => w = w' ∧ e = .returned (.int .i64 (cnt t x t.length)) := by
  have HL := Lib.hid h.1
  go_enter Try.func115, Try.ntmps115
  go_wp2
  go_loop [5, 6] (fun many i => HeadCnt m t x many i) (fun _ i => m - (intOf i).toNat)
  case atStart => exact ⟨0, Nat.zero_le _, rfl, rfl⟩
  case round =>
    obtain ⟨k, hk, rfl, rfl⟩ := hrel
    have hle := cnt_le t x k
    by_cases hlt : k < m
    · obtain ⟨b, off, y, rfl, -, hy, ey⟩ := h.spot hlt
      by_cases he : y = x
      · subst he
        have S := Lib.hid (headCnt_yes HL.out hlt ey)
        have e1 : (y == y) = true := by simp
        clear h ey
        generalize cnt t y k = z at *
        go_wp2
        go_round
        case rel => exact S.out
        case measure => simp [intOf]; omega
      · have S := Lib.hid (headCnt_no HL.out hlt ey he)
        have e1 : (y == x) = false := by simp [he]
        clear h ey
        generalize cnt t x k = z at *
        go_wp2
        go_round
        case rel => exact S.out
        case measure => simp [intOf]; omega
    · have e : cnt t x k = cnt t x t.length := by rw [HL.out, show k = m by omega]
      have E := Lib.hid e
      clear h e
      generalize cnt t x k = z at *
      go_wp2
      go_ret
      exact ⟨rfl, by rw [← E.out]; rfl⟩

def AnsCount (w : World) (sg t : List Int) (x : Int) (e : Ending) (w' : World) : Prop := e = .returned (.int .i64 (countI sg t x)) ∧ Below w.heap.size w w'
theorem count_no {w w' : World} {sg t : List Int} {x : Int} (h : termOkB sg t = false) (hb : Below w.heap.size w w') : AnsCount w sg t x (.returned (.int .i64 0)) w' := ⟨by unfold countI; rw [if_neg (by rw [h]; simp)], hb⟩
theorem count_yes {w w' : World} {sg t : List Int} {x : Int} {m : Nat} (hm : t.length = m) (h : termOkB sg t = true) (hb : Below w.heap.size w w') : AnsCount w sg t x (.returned (.int .i64 (cnt t x m))) w' := ⟨by unfold countI; rw [if_pos h, hm], hb⟩

set_option maxHeartbeats 1000000 in
theorem implCountOf (A A' : Option Addr) (n c m c' : Nat) (sg t : List Int) (x : Int) (w : World) (h : Seg w w.heap.size A n sg) (h' : Seg w w.heap.size A' m t) (hn : n ≤ 1048576) (hm : m ≤ 1048576) (_ : -9223372036854775808 ≤ x) (_ : x ≤ 9223372036854775807) :
    Calls Try.prog 87 #[.agg #[.slice A n c], .slice A' m c', .int .i64 x] w (AnsCount w sg t x) := by
  obtain ⟨W, hW⟩ : ∃ W, W = w.alloc (.cells #[.slice A n c] 26) := ⟨_, rfl⟩
  have rA : Row W w.heap.size 26 #[.slice A n c] := by rw [hW]; exact Row.new _ _ _
  have bel : Below w.heap.size w W := by rw [hW]; exact (Below.refl _ _).alloc (Nat.le_refl _) _
  replace h := (h.below bel).more bel.size
  replace h' := (h'.below bel).more bel.size
  have HW := Lib.hid hW
  have HL := Lib.hid h'.1
  clear hW
  have L := Lib.hid (implTermOk A A' n c m c' sg t W h h' hn hm)
  cases hok : termOkB sg t with
  | false =>
    have HS := Lib.hid hok
    clear hok h h'
    go_enter Try.func87, Try.ntmps87
    go_wp2_with fail
    rw [← HW.out]
    refine L.out.mono ?_
    rintro e w1 ⟨he, bb⟩
    rw [HS.out] at he
    subst he
    have F := Lib.hid (count_no (x := x) HS.out (next_trans bel bb))
    clear bb bel rA
    go_wp2
    go_ret
    exact F.out
  | true =>
    have HS := Lib.hid hok
    clear hok
    go_enter Try.func87, Try.ntmps87
    go_wp2_with fail
    rw [← HW.out]
    refine L.out.mono ?_
    rintro e w1 ⟨he, bb⟩
    rw [HS.out] at he
    subst he
    replace h' := h'.next bb
    have F := Lib.hid (count_yes (x := x) HL.out HS.out (next_trans bel bb))
    clear bb bel rA h
    go_wp2_with fail
    go_loop [7, 16] (fun many i => HeadCnt m t x many i) (fun _ i => m - (intOf i).toNat)
    case atStart => exact ⟨0, Nat.zero_le _, rfl, rfl⟩
    case round =>
      obtain ⟨k, hk, rfl, rfl⟩ := hrel
      have hle := cnt_le t x k
      by_cases hlt : k < m
      · obtain ⟨b, off, y, rfl, -, hy, ey⟩ := h'.spot hlt
        by_cases he : y = x
        · subst he
          have S := Lib.hid (headCnt_yes HL.out hlt ey)
          have e1 : (y == y) = true := by simp
          clear h' ey F
          generalize cnt t y k = z at *
          go_wp2
          go_round
          case rel => exact S.out
          case measure => simp [intOf]; omega
        · have S := Lib.hid (headCnt_no HL.out hlt ey he)
          have e1 : (y == x) = false := by simp [he]
          clear h' ey F
          generalize cnt t x k = z at *
          go_wp2
          go_round
          case rel => exact S.out
          case measure => simp [intOf]; omega
      · have e : k = m := by omega
        subst e
        clear h'
        generalize cnt t x k = z at *
        go_wp2
        go_ret
        exact F.out

end Go.Proofs.Ytdeegjeopkcomaa.count
