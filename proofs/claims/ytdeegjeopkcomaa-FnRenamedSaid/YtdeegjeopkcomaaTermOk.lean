/-
  CONTRACTS: spec.TermOk and impl.TermOk answer whether a list is a term of a signature. Conditions: the slices read as lists ('Seg'), at most 1048576 numbers. By an AI agent.
-/
import Derived.Test.YtdeegjeopkcomaaEnd
import Derived.Test.YtdeegjeopkcomaaCursor
namespace Go.Proofs.Ytdeegjeopkcomaa.termOk
open Go.RowKit Go.Proofs.Ytdeegjeopkcomaa.base Go.Proofs.Ytdeegjeopkcomaa.ints Go.Proofs.Ytdeegjeopkcomaa.sig Go.Proofs.Ytdeegjeopkcomaa.term Go.Proofs.Ytdeegjeopkcomaa.arity Go.Proofs.Ytdeegjeopkcomaa.endOf Go.Proofs.Ytdeegjeopkcomaa.cursor

def termOkB (sg t : List Int) : Bool := sigOkB sg && termB sg t

theorem sig_arities {sg : List Int} (h : sigOkB sg = true) : Arities sg ∧ 1 ≤ sg.length ∧ sg.length ≤ 8 := by
  unfold sigOkB at h
  rw [Bool.and_eq_true, decide_eq_true_eq, List.all_eq_true] at h
  refine ⟨fun j hj => ?_, h.1⟩
  have := h.2 (sg[j]) (List.getElem_mem hj)
  simp [arityOk] at this
  simp [List.getD, hj]
  omega
theorem endI_len {sg t : List Int} : (endI sg t 0 == (t.length : Int)) = decide (scan sg 1 t = some t.length) := by
  cases h : scan sg 1 t with
  | none =>
    rw [endI_none (by simpa using h)]
    simp
  | some j =>
    rw [endI_some (j := j) (by simpa using h)]
    simp
    by_cases e : j = t.length
    · subst e; simp
    · simp [e]; omega

def AnsTerm (w : World) (sg t : List Int) (e : Ending) (w' : World) : Prop := e = .returned (.bool (termOkB sg t)) ∧ Below w.heap.size w w'
theorem term_sig {w w' : World} {sg t : List Int} (h : sigOkB sg = false) (hb : Below w.heap.size w w') : AnsTerm w sg t (.returned (.bool false)) w' := ⟨by unfold termOkB; rw [h, Bool.false_and], hb⟩
theorem term_long {w w' : World} {sg t : List Int} {m : Nat} (hm : t.length = m) (h : 60 < m) (hb : Below w.heap.size w w') : AnsTerm w sg t (.returned (.bool false)) w' :=
  ⟨by unfold termOkB termB; rw [decide_eq_false (p := t.length ≤ 60) (by omega), Bool.false_and, Bool.and_false], hb⟩
theorem term_empty {w w' : World} {sg t : List Int} {m : Nat} (hm : t.length = m) (h : ¬ 1 ≤ m) (hb : Below w.heap.size w w') : AnsTerm w sg t (.returned (.bool false)) w' := by
  refine ⟨?_, hb⟩
  have : t = [] := List.eq_nil_of_length_eq_zero (by omega)
  subst this
  unfold termOkB termB
  simp [scan]
theorem term_end {w w' : World} {sg t : List Int} {m : Nat} (hm : t.length = m) (h : sigOkB sg = true) (h' : m ≤ 60) (hb : Below w.heap.size w w') : AnsTerm w sg t (.returned (.bool (endI sg t 0 == (m : Int)))) w' :=
  ⟨by unfold termOkB termB; rw [h, Bool.true_and, decide_eq_true (p := t.length ≤ 60) (by omega), Bool.true_and, ← endI_len, hm], hb⟩

set_option maxHeartbeats 1000000 in
theorem specTermOk (A A' : Option Addr) (n c m c' : Nat) (sg t : List Int) (w : World) (h : Seg w w.heap.size A n sg) (h' : Seg w w.heap.size A' m t) (hn : n ≤ 1048576) (hm : m ≤ 1048576) :
    Calls Try.prog 35 #[.agg #[.slice A n c], .slice A' m c'] w (AnsTerm w sg t) := by
  obtain ⟨W, hW⟩ : ∃ W, W = w.alloc (.cells #[.slice A n c] 26) := ⟨_, rfl⟩
  have rA : Row W w.heap.size 26 #[.slice A n c] := by rw [hW]; exact Row.new _ _ _
  have bel : Below w.heap.size w W := by rw [hW]; exact (Below.refl _ _).alloc (Nat.le_refl _) _
  replace h := (h.below bel).more bel.size
  replace h' := (h'.below bel).more bel.size
  have HW := Lib.hid hW
  have HL := Lib.hid h'.1
  clear hW
  have L := Lib.hid (specSigOk A n c sg W h hn)
  cases hsig : sigOkB sg with
  | false =>
    have HS := Lib.hid hsig
    clear hsig h h'
    go_enter Try.func35, Try.ntmps35
    go_wp2_with fail
    rw [← HW.out]
    refine L.out.mono ?_
    rintro e w1 ⟨he, bb⟩
    rw [HS.out] at he
    subst he
    have F := Lib.hid (term_sig (t := t) HS.out (bel.trans (bb.mono (Nat.le_of_lt rA.lt))))
    clear bb bel rA
    go_wp2
    go_ret
    exact F.out
  | true =>
    have HS := Lib.hid hsig
    have hars := (sig_arities hsig).1
    clear hsig
    by_cases hin : 1 ≤ (m : Int) ∧ (m : Int) ≤ 60
    · go_enter Try.func35, Try.ntmps35
      go_wp2_with fail
      rw [← HW.out]
      refine L.out.mono ?_
      rintro e w1 ⟨he, bb⟩
      rw [HS.out] at he
      subst he
      replace h := h.next bb
      replace h' := h'.next bb
      have hlt := rA.lt
      replace rA := rA.next bb
      replace bel := bel.trans (bb.mono (Nat.le_of_lt hlt))
      have cA : w1.cell? ⟨w.heap.size, 0, none⟩ = some (.slice A n c) := rA.cell 0
      clear bb hlt
      go_wp2_with fail
      refine (inYes _ _ _ _ hin).mono ?_
      rintro e w2 ⟨rfl, rfl⟩
      go_wp2_with fail
      refine (specEnd A A' n c m c' sg t 0 _ h h' hn hm hars (by omega) (by omega)).mono ?_
      rintro e w2 ⟨rfl, bb⟩
      have F := Lib.hid (term_end HL.out HS.out (by omega) (bel.trans (bb.mono (Nat.le_of_lt rA.lt))))
      clear bb bel rA cA h h' hars
      rw [show (0 : Int).toNat = 0 from rfl]
      generalize endI sg t 0 = z at *
      go_wp2
      go_ret
      exact F.out
    · go_enter Try.func35, Try.ntmps35
      go_wp2_with fail
      rw [← HW.out]
      refine L.out.mono ?_
      rintro e w1 ⟨he, bb⟩
      rw [HS.out] at he
      subst he
      have F : AnsTerm w sg t (.returned (.bool false)) w1 := by
        have b := bel.trans (bb.mono (Nat.le_of_lt rA.lt))
        by_cases h1 : 1 ≤ m
        · exact term_long HL.out (by omega) b
        · exact term_empty HL.out h1 b
      have HF := Lib.hid F
      clear F bb bel rA h h' hars
      go_wp2_with fail
      refine (inNo _ _ _ _ hin).mono ?_
      rintro e w2 ⟨rfl, rfl⟩
      go_wp2
      go_ret
      exact HF.out

theorem term_scan {w w' : World} {sg t : List Int} {m : Nat} {b : Bool} (hm : t.length = m) (h : sigOkB sg = true) (h' : m ≤ 60) (hs : decide (scan sg 1 t = some m) = b) (hb : Below w.heap.size w w') : AnsTerm w sg t (.returned (.bool b)) w' :=
  ⟨by unfold termOkB termB; rw [h, Bool.true_and, decide_eq_true (p := t.length ≤ 60) (by omega), Bool.true_and, hm, hs], hb⟩
/-- a cursor made at place 0 -/
theorem cur_new {w : World} {A A' : Option Addr} {n c m c' : Nat} {sg t : List Int} (h : Seg w w.heap.size A n sg) (h' : Seg w w.heap.size A' m t) (hn : n ≤ 1048576) (hm : m ≤ 1048576) (ha : Arities sg) (k : Nat) (hk : k ≤ m) :
    Cur (w.alloc (.cells #[.slice A n c, .slice A' m c', .int .i64 k] 99)) w.heap.size A n c A' m c' sg t k :=
  ⟨Row.new _ _ _, h.alloc (Nat.le_refl _) _, h'.alloc (Nat.le_refl _) _, hk, hn, hm, ha⟩
theorem grown_new {w w' : World} {o : Obj} (hg : (w.alloc o).grownBy w' (some w.heap.size)) : Below w.heap.size w w' :=
  ⟨hg.os, hg.tape, hg.output, by have := hg.size; simp at this; omega, fun i hi => by
    rw [hg.block i (by simp; omega) (by simp; omega)]
    exact Below.heap_alloc _ _ _ hi⟩

set_option maxHeartbeats 1000000 in
theorem implTermOk (A A' : Option Addr) (n c m c' : Nat) (sg t : List Int) (w : World) (h : Seg w w.heap.size A n sg) (h' : Seg w w.heap.size A' m t) (hn : n ≤ 1048576) (hm : m ≤ 1048576) :
    Calls Try.prog 63 #[.agg #[.slice A n c], .slice A' m c'] w (AnsTerm w sg t) := by
  obtain ⟨W, hW⟩ : ∃ W, W = w.alloc (.cells #[.slice A n c] 26) := ⟨_, rfl⟩
  have rA : Row W w.heap.size 26 #[.slice A n c] := by rw [hW]; exact Row.new _ _ _
  have bel : Below w.heap.size w W := by rw [hW]; exact (Below.refl _ _).alloc (Nat.le_refl _) _
  replace h := (h.below bel).more bel.size
  replace h' := (h'.below bel).more bel.size
  have HW := Lib.hid hW
  have HL := Lib.hid h'.1
  clear hW
  have L := Lib.hid (implSigOk A n c sg W h hn)
  cases hsig : sigOkB sg with
  | false =>
    have HS := Lib.hid hsig
    clear hsig h h'
    go_enter Try.func63, Try.ntmps63
    go_wp2_with fail
    rw [← HW.out]
    refine L.out.mono ?_
    rintro e w1 ⟨he, bb⟩
    rw [HS.out] at he
    subst he
    have F := Lib.hid (term_sig (t := t) HS.out (bel.trans (bb.mono (Nat.le_of_lt rA.lt))))
    clear bb bel rA
    go_wp2
    go_ret
    exact F.out
  | true =>
    have HS := Lib.hid hsig
    have hars := (sig_arities hsig).1
    clear hsig
    by_cases h60 : m ≤ 60
    · go_enter Try.func63, Try.ntmps63
      go_wp2_with fail
      rw [← HW.out]
      refine L.out.mono ?_
      rintro e w1 ⟨he, bb⟩
      rw [HS.out] at he
      subst he
      replace h := h.next bb
      replace h' := h'.next bb
      have hlt := rA.lt
      replace rA := rA.next bb
      replace bel := bel.trans (bb.mono (Nat.le_of_lt hlt))
      have cA : w1.cell? ⟨w.heap.size, 0, none⟩ = some (.slice A n c) := rA.cell 0
      clear bb hlt
      have CN := Lib.hid (cur_new (c := c) (c' := c') h h' hn hm hars 0 (Nat.zero_le _))
      go_wp2_with fail
      refine (pass w1.heap.size A n c A' m c' sg t 0 _ CN.out).mono ?_
      rintro e w2 ⟨hg, ⟨j, hj, rfl, hc⟩ | ⟨hj, rfl, -⟩⟩
      · have b2 := bel.trans ((grown_new hg).mono (Nat.le_of_lt rA.lt))
        have c2 : w2.cell? ⟨w1.heap.size, 2, none⟩ = some (.int .i64 ((0 + j : Nat) : Int)) := hc.row.cell 2
        rw [Nat.zero_add] at c2
        have F := Lib.hid (fun (b : Bool) (hb : decide (j = m) = b) => term_scan (b := b) HL.out HS.out h60 (by rw [show t.drop 0 = t from rfl] at hj; rw [hj, ← hb]; simp) b2)
        clear hj hc hg b2 bel rA cA h h' hars CN
        by_cases e : j = m
        · have F' := Lib.hid (F.out true (by simp [e]))
          have e1 : ((j : Int) == (m : Int)) = true := by simp [e]
          clear F e
          go_wp2
          go_ret
          exact F'.out
        · have F' := Lib.hid (F.out false (by simp [e]))
          have e1 : ((j : Int) == (m : Int)) = false := by simp; omega
          clear F e
          go_wp2
          go_ret
          exact F'.out
      · have F := Lib.hid (term_scan (b := false) HL.out HS.out h60 (by rw [show t.drop 0 = t from rfl] at hj; rw [hj]; simp) (bel.trans ((grown_new hg).mono (Nat.le_of_lt rA.lt))))
        clear hj hg bel rA cA h h' hars CN
        go_wp2
        go_ret
        exact F.out
    · have i1 : (60 : Int) < (m : Int) := by omega
      go_enter Try.func63, Try.ntmps63
      go_wp2_with fail
      rw [← HW.out]
      refine L.out.mono ?_
      rintro e w1 ⟨he, bb⟩
      rw [HS.out] at he
      subst he
      have F := Lib.hid (term_long HL.out (by omega) (bel.trans (bb.mono (Nat.le_of_lt rA.lt))) : AnsTerm w sg t _ _)
      clear bb bel rA h h' hars
      go_wp2
      go_ret
      exact F.out
end Go.Proofs.Ytdeegjeopkcomaa.termOk
