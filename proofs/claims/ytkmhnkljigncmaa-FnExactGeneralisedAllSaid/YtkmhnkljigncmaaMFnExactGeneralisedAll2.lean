/-
  MERGED: my texts End, TermOk, Term2, EndOf, Sym, Sub, Args, Depth, TermMath, TermFacts, PosMath, VarsMath, FillMath, RenMath, MatchMath, PlainMath, one behind the other, as they are. By an AI agent.
-/
import Derived.Test.YtkmhnkljigncmaaMFnExactGeneralisedAll1
import Derived.WalkSpells
section
/-
  CONTRACT: spec.l1End answers the index behind what begins at a place. Conditions: the slices read as lists ('Seg'), the arities lie between 0 and 3, the place is in range, at most 1048576 numbers. By an AI agent.
-/
namespace Go.Proofs.Ytkmhnkljigncmaa.endOf
open Go.RowKit Go.Proofs.Ytkmhnkljigncmaa.base Go.Proofs.Ytkmhnkljigncmaa.ints Go.Proofs.Ytkmhnkljigncmaa.sig Go.Proofs.Ytkmhnkljigncmaa.term Go.Proofs.Ytkmhnkljigncmaa.arity

def AnsEnd (w : World) (sg t : List Int) (a : Nat) (e : Ending) (w' : World) : Prop := e = .returned (.int .i64 (endI sg t a)) ∧ Below w.heap.size w w'
theorem end_bad {w w' : World} {sg t : List Int} {a : Nat} (h : scan sg 1 (t.drop a) = none) (hb : Below w.heap.size w w') : AnsEnd w sg t a (.returned (.int .i64 (-1))) w' := ⟨by rw [endI_none h], hb⟩
theorem end_good {w w' : World} {sg t : List Int} {a k : Nat} (h : Scn sg t a (k + 1) 0) (hb : Below w.heap.size w w') : AnsEnd w sg t a (.returned (.int .i64 ((k : Int) + 1))) w' := ⟨by rw [h.endI]; simp, hb⟩

/-- the head of the loop: so many terms are still to come -/
def HeadEnd (w : World) (A : Option Addr) (n c m : Nat) (sg t : List Int) (a : Nat) (need i : Value) (wr : World) : Prop :=
  ∃ k q : Nat, need = .int .i64 ((q : Int) + 1) ∧ i = .int .i64 k ∧ q ≤ 3 * k ∧ k ≤ m ∧ Scn sg t a k (q + 1) ∧ Row wr w.heap.size 26 #[.slice A n c] ∧ Below w.heap.size w wr

theorem headEnd_step {w wr : World} {A : Option Addr} {n c m k q q' : Nat} {sg t : List Int} {a : Nat} {z : Int} (hl : Scn sg t a (k + 1) (q + z.toNat)) (hz : 0 ≤ z ∧ z ≤ 3) (hq : q ≤ 3 * k) (hk : k < m) (hq' : q + z.toNat = q' + 1)
    (hr : Row wr w.heap.size 26 #[.slice A n c]) (hb : Below w.heap.size w wr) : HeadEnd w A n c m sg t a (.int .i64 ((q : Int) + z)) (.int .i64 ((k : Int) + 1)) wr :=
  ⟨k + 1, q', by congr 1; omega, by simp, by omega, by omega, by rw [← hq']; exact hl, hr, hb⟩

set_option maxHeartbeats 1000000 in
theorem specEnd (A A' : Option Addr) (n c m c' : Nat) (sg t : List Int) (at_ : Int) (w : World) (h : Seg w w.heap.size A n sg) (h' : Seg w w.heap.size A' m t) (hn : n ≤ 1048576) (hm : m ≤ 1048576) (hs : Arities sg) (ha : 0 ≤ at_) (ha' : at_ ≤ m) :
    Calls Try.prog 102 #[.agg #[.slice A n c], .slice A' m c', .int .i64 at_] w (AnsEnd w sg t at_.toNat) := by
  obtain ⟨a, rfl⟩ := Int.eq_ofNat_of_zero_le ha
  rw [Int.toNat_natCast]
  have hlen := h'.1
  have HL := Lib.hid hlen
  go_enter Try.func102, Try.ntmps102
  go_wp2_with fail
  go_loopw [7, 8, 9] (fun need i _ wr => HeadEnd w A n c m sg t a need i wr) (fun _ i _ _ => m - (intOf i).toNat)
  case atStart => exact ⟨a, 0, rfl, rfl, by omega, by omega, Scn.start (by rw [HL.out]; omega), Row.new _ _ _, (Below.refl _ _).alloc (Nat.le_refl _) _⟩
  case round =>
    obtain ⟨k, q, rfl, rfl, hq, hk, hl, hr, hb⟩ := hrel
    by_cases hlt : k < m
    · obtain ⟨b, off, x, rfl, hbb, hx, ex⟩ := h'.spot hlt
      have hx' : wr.cell? ⟨b, off + k, none⟩ = some (.int .i64 x) := (hb.cell (p := ⟨b, off + k, none⟩) hbb).trans hx
      have cA : wr.cell? ⟨w.heap.size, 0, none⟩ = some (.slice A n c) := hr.cell 0
      have s : Seg wr.drew wr.heap.size A n sg := ((h.below hb).more hb.size).drew
      obtain ⟨z, hz⟩ : ∃ z, ar sg x = z := ⟨_, rfl⟩
      have hzb := ar_bd hs x
      rw [hz] at hzb
      have i0 : (0 : Int) ≤ (k : Int) := by omega
      have i1 : (k : Int) < (m : Int) := by omega
      have i2 : (q : Int) ≤ 3145728 := by omega
      have HZ := Lib.hid hz
      clear hx hz h h'
      replace hr := hr.drew
      replace hb := hb.drew
      by_cases hneg : z < 0
      · have S := Lib.hid (fun (w' : World) (b' : Below w.heap.size w w') => end_bad (hl.bad (by rw [HL.out]; exact hlt) ex.out (by rw [HZ.out]; exact hneg)) b')
        clear hl ex hs hlen
        go_wp2_with fail
        go_region_held3 (fun w' => w'.cell? ⟨w.heap.size, 0, none⟩ = some (.slice A n c) ∧ w'.cell? ⟨b, off + k, none⟩ = some (.int .i64 x))
          (go_keep)
          (first
            | (go_at_call 137; refine (specArity _ _ _ sg x _ s hn).mono ?_; rintro e w2 ⟨he, bb⟩; rw [HZ.out] at he; subst he; have cA' : w2.cell? ⟨w.heap.size, 0, none⟩ = some (.slice A n c) := (hr.next bb).cell 0; have cx' : w2.cell? ⟨b, off + k, none⟩ = some (.int .i64 x) := (bb.cell (p := ⟨b, off + k, none⟩) (Nat.lt_trans hbb hr.lt)).trans hx'; have b2 := hb.trans (bb.mono (Nat.le_of_lt hr.lt))))
        have F := Lib.hid (S.out _ b2)
        go_wp2
        go_ret
        exact F.out
      · have hl' := hl.step (by rw [HL.out]; exact hlt) ex.out (by rw [HZ.out]; exact hneg)
        rw [HZ.out] at hl'
        clear hl ex hs hlen
        by_cases hend : q + z.toNat = 0
        · rw [hend] at hl'
          have S := Lib.hid (fun (w' : World) (b' : Below w.heap.size w w') => end_good hl' b')
          have e1 : ((q : Int) + z == 0) = true := by simp; omega
          clear hl'
          go_wp2_with fail
          go_region_held3 (fun w' => w'.cell? ⟨w.heap.size, 0, none⟩ = some (.slice A n c) ∧ w'.cell? ⟨b, off + k, none⟩ = some (.int .i64 x))
            (go_keep)
            (first
              | (go_at_call 137; refine (specArity _ _ _ sg x _ s hn).mono ?_; rintro e w2 ⟨he, bb⟩; rw [HZ.out] at he; subst he; have cA' : w2.cell? ⟨w.heap.size, 0, none⟩ = some (.slice A n c) := (hr.next bb).cell 0; have cx' : w2.cell? ⟨b, off + k, none⟩ = some (.int .i64 x) := (bb.cell (p := ⟨b, off + k, none⟩) (Nat.lt_trans hbb hr.lt)).trans hx'; have b2 := hb.trans (bb.mono (Nat.le_of_lt hr.lt))))
          have F := Lib.hid (S.out _ b2)
          go_wp2
          go_ret
          exact F.out
        · obtain ⟨q', hq'⟩ : ∃ q', q + z.toNat = q' + 1 := ⟨q + z.toNat - 1, by omega⟩
          have S := Lib.hid (fun (w' : World) (r' : Row w' w.heap.size 26 #[.slice A n c]) (b' : Below w.heap.size w w') => headEnd_step hl' ⟨by omega, hzb.2⟩ hq hlt hq' r' b')
          have e1 : ((q : Int) + z == 0) = false := by simp; omega
          clear hl' hq'
          go_wp2_with fail
          go_region_held3 (fun w' => w'.cell? ⟨w.heap.size, 0, none⟩ = some (.slice A n c) ∧ w'.cell? ⟨b, off + k, none⟩ = some (.int .i64 x))
            (go_keep)
            (first
              | (go_at_call 137; refine (specArity _ _ _ sg x _ s hn).mono ?_; rintro e w2 ⟨he, bb⟩; rw [HZ.out] at he; subst he; have r2 := hr.next bb; have cA' : w2.cell? ⟨w.heap.size, 0, none⟩ = some (.slice A n c) := r2.cell 0; have cx' : w2.cell? ⟨b, off + k, none⟩ = some (.int .i64 x) := (bb.cell (p := ⟨b, off + k, none⟩) (Nat.lt_trans hbb hr.lt)).trans hx'; have b2 := hb.trans (bb.mono (Nat.le_of_lt hr.lt))))
          have F := Lib.hid (S.out _ r2 b2)
          clear r2 b2 cA' cx' cA hx' s hr hb bb
          go_wp2
          go_roundw
          case rel => rw [show (q : Int) + 1 + z - 1 = (q : Int) + z by omega]; exact F.out
          case measure => simp [intOf]; omega
    · have S := Lib.hid (end_bad (hl.out (by rw [HL.out]; exact hlt)) hb)
      clear hl hr hb h h' hs hlen
      go_wp2
      go_ret
      exact S.out
end Go.Proofs.Ytkmhnkljigncmaa.endOf
end

section
/-
  CONTRACTS: spec.TermOk and impl.TermOk answer whether a list is a term of a signature. Conditions: the slices read as lists ('Seg'), at most 1048576 numbers. By an AI agent.
-/
namespace Go.Proofs.Ytkmhnkljigncmaa.termOk
open Go.RowKit Go.Proofs.Ytkmhnkljigncmaa.base Go.Proofs.Ytkmhnkljigncmaa.ints Go.Proofs.Ytkmhnkljigncmaa.sig Go.Proofs.Ytkmhnkljigncmaa.term Go.Proofs.Ytkmhnkljigncmaa.arity Go.Proofs.Ytkmhnkljigncmaa.endOf Go.Proofs.Ytkmhnkljigncmaa.cursor

def termOkB (sg t : List Int) : Bool := sigOkB sg && termB sg t

theorem sig_arities {sg : List Int} (h : sigOkB sg = true) : Arities sg ∧ 1 ≤ sg.length ∧ sg.length ≤ 8 := by
  unfold sigOkB at h
  rw [Bool.and_eq_true, decide_eq_true_eq, List.all_eq_true] at h
  refine ⟨fun j hj => ?_, h.1⟩
  have := h.2 (sg[j]) (List.getElem_mem hj)
  simp [arityOk] at this
  simp [List.getD, hj]
  omega
theorem endI_len {sg t : List Int} : (endI sg t 0 == (t.length : Int)) = decide (scan sg 1 t = some t.length) := by
  cases h : scan sg 1 t with
  | none =>
    rw [endI_none (by simpa using h)]
    simp
  | some j =>
    rw [endI_some (j := j) (by simpa using h)]
    simp
    by_cases e : j = t.length
    · subst e; simp
    · simp [e]; omega

def AnsTerm (w : World) (sg t : List Int) (e : Ending) (w' : World) : Prop := e = .returned (.bool (termOkB sg t)) ∧ Below w.heap.size w w'
theorem term_sig {w w' : World} {sg t : List Int} (h : sigOkB sg = false) (hb : Below w.heap.size w w') : AnsTerm w sg t (.returned (.bool false)) w' := ⟨by unfold termOkB; rw [h, Bool.false_and], hb⟩
theorem term_long {w w' : World} {sg t : List Int} {m : Nat} (hm : t.length = m) (h : 60 < m) (hb : Below w.heap.size w w') : AnsTerm w sg t (.returned (.bool false)) w' :=
  ⟨by unfold termOkB termB; rw [decide_eq_false (p := t.length ≤ 60) (by omega), Bool.false_and, Bool.and_false], hb⟩
theorem term_empty {w w' : World} {sg t : List Int} {m : Nat} (hm : t.length = m) (h : ¬ 1 ≤ m) (hb : Below w.heap.size w w') : AnsTerm w sg t (.returned (.bool false)) w' := by
  refine ⟨?_, hb⟩
  have : t = [] := List.eq_nil_of_length_eq_zero (by omega)
  subst this
  unfold termOkB termB
  simp [scan]
theorem term_end {w w' : World} {sg t : List Int} {m : Nat} (hm : t.length = m) (h : sigOkB sg = true) (h' : m ≤ 60) (hb : Below w.heap.size w w') : AnsTerm w sg t (.returned (.bool (endI sg t 0 == (m : Int)))) w' :=
  ⟨by unfold termOkB termB; rw [h, Bool.true_and, decide_eq_true (p := t.length ≤ 60) (by omega), Bool.true_and, ← endI_len, hm], hb⟩

set_option maxHeartbeats 1000000 in
theorem specTermOk (A A' : Option Addr) (n c m c' : Nat) (sg t : List Int) (w : World) (h : Seg w w.heap.size A n sg) (h' : Seg w w.heap.size A' m t) (hn : n ≤ 1048576) (hm : m ≤ 1048576) :
    Calls Try.prog 62 #[.agg #[.slice A n c], .slice A' m c'] w (AnsTerm w sg t) := by
  obtain ⟨W, hW⟩ : ∃ W, W = w.alloc (.cells #[.slice A n c] 26) := ⟨_, rfl⟩
  have rA : Row W w.heap.size 26 #[.slice A n c] := by rw [hW]; exact Row.new _ _ _
  have bel : Below w.heap.size w W := by rw [hW]; exact (Below.refl _ _).alloc (Nat.le_refl _) _
  replace h := (h.below bel).more bel.size
  replace h' := (h'.below bel).more bel.size
  have HW := Lib.hid hW
  have HL := Lib.hid h'.1
  clear hW
  have L := Lib.hid (specSigOk A n c sg W h hn)
  cases hsig : sigOkB sg with
  | false =>
    have HS := Lib.hid hsig
    clear hsig h h'
    go_enter Try.func62, Try.ntmps62
    go_wp2_with fail
    rw [← HW.out]
    refine L.out.mono ?_
    rintro e w1 ⟨he, bb⟩
    rw [HS.out] at he
    subst he
    have F := Lib.hid (term_sig (t := t) HS.out (bel.trans (bb.mono (Nat.le_of_lt rA.lt))))
    clear bb bel rA
    go_wp2
    go_ret
    exact F.out
  | true =>
    have HS := Lib.hid hsig
    have hars := (sig_arities hsig).1
    clear hsig
    by_cases hin : 1 ≤ (m : Int) ∧ (m : Int) ≤ 60
    · go_enter Try.func62, Try.ntmps62
      go_wp2_with fail
      rw [← HW.out]
      refine L.out.mono ?_
      rintro e w1 ⟨he, bb⟩
      rw [HS.out] at he
      subst he
      replace h := h.next bb
      replace h' := h'.next bb
      have hlt := rA.lt
      replace rA := rA.next bb
      replace bel := bel.trans (bb.mono (Nat.le_of_lt hlt))
      have cA : w1.cell? ⟨w.heap.size, 0, none⟩ = some (.slice A n c) := rA.cell 0
      clear bb hlt
      go_wp2_with fail
      refine (inYes _ _ _ _ hin).mono ?_
      rintro e w2 ⟨rfl, rfl⟩
      go_wp2_with fail
      refine (specEnd A A' n c m c' sg t 0 _ h h' hn hm hars (by omega) (by omega)).mono ?_
      rintro e w2 ⟨rfl, bb⟩
      have F := Lib.hid (term_end HL.out HS.out (by omega) (bel.trans (bb.mono (Nat.le_of_lt rA.lt))))
      clear bb bel rA cA h h' hars
      rw [show (0 : Int).toNat = 0 from rfl]
      generalize endI sg t 0 = z at *
      go_wp2
      go_ret
      exact F.out
    · go_enter Try.func62, Try.ntmps62
      go_wp2_with fail
      rw [← HW.out]
      refine L.out.mono ?_
      rintro e w1 ⟨he, bb⟩
      rw [HS.out] at he
      subst he
      have F : AnsTerm w sg t (.returned (.bool false)) w1 := by
        have b := bel.trans (bb.mono (Nat.le_of_lt rA.lt))
        by_cases h1 : 1 ≤ m
        · exact term_long HL.out (by omega) b
        · exact term_empty HL.out h1 b
      have HF := Lib.hid F
      clear F bb bel rA h h' hars
      go_wp2_with fail
      refine (inNo _ _ _ _ hin).mono ?_
      rintro e w2 ⟨rfl, rfl⟩
      go_wp2
      go_ret
      exact HF.out

theorem term_scan {w w' : World} {sg t : List Int} {m : Nat} {b : Bool} (hm : t.length = m) (h : sigOkB sg = true) (h' : m ≤ 60) (hs : decide (scan sg 1 t = some m) = b) (hb : Below w.heap.size w w') : AnsTerm w sg t (.returned (.bool b)) w' :=
  ⟨by unfold termOkB termB; rw [h, Bool.true_and, decide_eq_true (p := t.length ≤ 60) (by omega), Bool.true_and, hm, hs], hb⟩
/-- a cursor made at place 0 -/
theorem cur_new {w : World} {A A' : Option Addr} {n c m c' : Nat} {sg t : List Int} (h : Seg w w.heap.size A n sg) (h' : Seg w w.heap.size A' m t) (hn : n ≤ 1048576) (hm : m ≤ 1048576) (ha : Arities sg) (k : Nat) (hk : k ≤ m) :
    Cur (w.alloc (.cells #[.slice A n c, .slice A' m c', .int .i64 k] 83)) w.heap.size A n c A' m c' sg t k :=
  ⟨Row.new _ _ _, h.alloc (Nat.le_refl _) _, h'.alloc (Nat.le_refl _) _, hk, hn, hm, ha⟩
theorem grown_new {w w' : World} {o : Obj} (hg : (w.alloc o).grownBy w' (some w.heap.size)) : Below w.heap.size w w' :=
  ⟨hg.os, hg.tape, hg.output, by have := hg.size; simp at this; omega, fun i hi => by
    rw [hg.block i (by simp; omega) (by simp; omega)]
    exact Below.heap_alloc _ _ _ hi⟩

set_option maxHeartbeats 1000000 in
theorem implTermOk (A A' : Option Addr) (n c m c' : Nat) (sg t : List Int) (w : World) (h : Seg w w.heap.size A n sg) (h' : Seg w w.heap.size A' m t) (hn : n ≤ 1048576) (hm : m ≤ 1048576) :
    Calls Try.prog 57 #[.agg #[.slice A n c], .slice A' m c'] w (AnsTerm w sg t) := by
  obtain ⟨W, hW⟩ : ∃ W, W = w.alloc (.cells #[.slice A n c] 26) := ⟨_, rfl⟩
  have rA : Row W w.heap.size 26 #[.slice A n c] := by rw [hW]; exact Row.new _ _ _
  have bel : Below w.heap.size w W := by rw [hW]; exact (Below.refl _ _).alloc (Nat.le_refl _) _
  replace h := (h.below bel).more bel.size
  replace h' := (h'.below bel).more bel.size
  have HW := Lib.hid hW
  have HL := Lib.hid h'.1
  clear hW
  have L := Lib.hid (implSigOk A n c sg W h hn)
  cases hsig : sigOkB sg with
  | false =>
    have HS := Lib.hid hsig
    clear hsig h h'
    go_enter Try.func57, Try.ntmps57
    go_wp2_with fail
    rw [← HW.out]
    refine L.out.mono ?_
    rintro e w1 ⟨he, bb⟩
    rw [HS.out] at he
    subst he
    have F := Lib.hid (term_sig (t := t) HS.out (bel.trans (bb.mono (Nat.le_of_lt rA.lt))))
    clear bb bel rA
    go_wp2
    go_ret
    exact F.out
  | true =>
    have HS := Lib.hid hsig
    have hars := (sig_arities hsig).1
    clear hsig
    by_cases h60 : m ≤ 60
    · go_enter Try.func57, Try.ntmps57
      go_wp2_with fail
      rw [← HW.out]
      refine L.out.mono ?_
      rintro e w1 ⟨he, bb⟩
      rw [HS.out] at he
      subst he
      replace h := h.next bb
      replace h' := h'.next bb
      have hlt := rA.lt
      replace rA := rA.next bb
      replace bel := bel.trans (bb.mono (Nat.le_of_lt hlt))
      have cA : w1.cell? ⟨w.heap.size, 0, none⟩ = some (.slice A n c) := rA.cell 0
      clear bb hlt
      have CN := Lib.hid (cur_new (c := c) (c' := c') h h' hn hm hars 0 (Nat.zero_le _))
      go_wp2_with fail
      refine (pass w1.heap.size A n c A' m c' sg t 0 _ CN.out).mono ?_
      rintro e w2 ⟨hg, ⟨j, hj, rfl, hc⟩ | ⟨hj, rfl, -⟩⟩
      · have b2 := bel.trans ((grown_new hg).mono (Nat.le_of_lt rA.lt))
        have c2 : w2.cell? ⟨w1.heap.size, 2, none⟩ = some (.int .i64 ((0 + j : Nat) : Int)) := hc.row.cell 2
        rw [Nat.zero_add] at c2
        have F := Lib.hid (fun (b : Bool) (hb : decide (j = m) = b) => term_scan (b := b) HL.out HS.out h60 (by rw [show t.drop 0 = t from rfl] at hj; rw [hj, ← hb]; simp) b2)
        clear hj hc hg b2 bel rA cA h h' hars CN
        by_cases e : j = m
        · have F' := Lib.hid (F.out true (by simp [e]))
          have e1 : ((j : Int) == (m : Int)) = true := by simp [e]
          clear F e
          go_wp2
          go_ret
          exact F'.out
        · have F' := Lib.hid (F.out false (by simp [e]))
          have e1 : ((j : Int) == (m : Int)) = false := by simp; omega
          clear F e
          go_wp2
          go_ret
          exact F'.out
      · have F := Lib.hid (term_scan (b := false) HL.out HS.out h60 (by rw [show t.drop 0 = t from rfl] at hj; rw [hj]; simp) (bel.trans ((grown_new hg).mono (Nat.le_of_lt rA.lt))))
        clear hj hg bel rA cA h h' hars CN
        go_wp2
        go_ret
        exact F.out
    · have i1 : (60 : Int) < (m : Int) := by omega
      go_enter Try.func57, Try.ntmps57
      go_wp2_with fail
      rw [← HW.out]
      refine L.out.mono ?_
      rintro e w1 ⟨he, bb⟩
      rw [HS.out] at he
      subst he
      have F := Lib.hid (term_long HL.out (by omega) (bel.trans (bb.mono (Nat.le_of_lt rA.lt))) : AnsTerm w sg t _ _)
      clear bb bel rA h h' hars
      go_wp2
      go_ret
      exact F.out
end Go.Proofs.Ytkmhnkljigncmaa.termOk
end

section
/-
  PLAIN MATHEMATICS of terms, more: a scan parts in two, within a term each place begins a term; the places of arguments; the depth. Conditions: none. By an AI agent.
-/
namespace Go.Proofs.Ytkmhnkljigncmaa.term

theorem scan_split {sg : List Int} : ∀ {l : List Int} {p q j : Nat}, scan sg (p + q) l = some j → ∃ i, i ≤ j ∧ scan sg p l = some i ∧ scan sg q (l.drop i) = some (j - i) := by
  intro l
  induction l with
  | nil =>
    intro p q j h
    cases p with
    | zero => exact ⟨0, Nat.zero_le _, rfl, by simpa using h⟩
    | succ p => rw [show p + 1 + q = (p + q) + 1 by omega, scan_nil] at h; cases h
  | cons x r ih =>
    intro p q j h
    cases p with
    | zero => exact ⟨0, Nat.zero_le _, rfl, by simpa using h⟩
    | succ p =>
      rw [show p + 1 + q = (p + q) + 1 by omega] at h
      by_cases ha : ar sg x < 0
      · rw [scan_bad ha] at h; cases h
      · rw [scan_step ha] at h
        obtain ⟨j', hj', rfl⟩ := Option.map_eq_some_iff.1 h
        rw [show p + q + (ar sg x).toNat = (p + (ar sg x).toNat) + q by omega] at hj'
        obtain ⟨i, h1, h2, h3⟩ := ih hj'
        refine ⟨i + 1, by omega, by rw [scan_step ha, h2]; rfl, ?_⟩
        rw [List.drop_succ_cons, h3]
        congr 1
        omega

theorem scan_tail {sg : List Int} : ∀ {l : List Int} {q j a : Nat}, scan sg q l = some j → a < j → ∃ q', scan sg (q' + 1) (l.drop a) = some (j - a) := by
  intro l
  induction l with
  | nil =>
    intro q j a h ha
    cases q with
    | zero => rw [scan_zero] at h; injection h; omega
    | succ q => rw [scan_nil] at h; cases h
  | cons x r ih =>
    intro q j a h ha
    cases q with
    | zero => rw [scan_zero] at h; injection h; omega
    | succ q =>
      cases a with
      | zero => exact ⟨q, h⟩
      | succ a =>
        by_cases hx : ar sg x < 0
        · rw [scan_bad hx] at h; cases h
        · rw [scan_step hx] at h
          obtain ⟨j', hj', rfl⟩ := Option.map_eq_some_iff.1 h
          obtain ⟨q', h'⟩ := ih (a := a) hj' (by omega)
          exact ⟨q', by rw [List.drop_succ_cons, h']; congr 1; omega⟩

theorem scan_pos {sg : List Int} {l : List Int} {q j : Nat} (h : scan sg (q + 1) l = some j) : 1 ≤ j := by
  cases l with
  | nil => rw [scan_nil] at h; cases h
  | cons x r =>
    by_cases hx : ar sg x < 0
    · rw [scan_bad hx] at h; cases h
    · rw [scan_step hx] at h
      obtain ⟨j', _, rfl⟩ := Option.map_eq_some_iff.1 h
      omega

theorem scan_le {sg : List Int} : ∀ {l : List Int} {q j : Nat}, scan sg q l = some j → j ≤ l.length := by
  intro l
  induction l with
  | nil =>
    intro q j h
    cases q with
    | zero => rw [scan_zero] at h; injection h; omega
    | succ q => rw [scan_nil] at h; cases h
  | cons x r ih =>
    intro q j h
    cases q with
    | zero => rw [scan_zero] at h; injection h; omega
    | succ q =>
      by_cases hx : ar sg x < 0
      · rw [scan_bad hx] at h; cases h
      · rw [scan_step hx] at h
        obtain ⟨j', hj', rfl⟩ := Option.map_eq_some_iff.1 h
        have := ih hj'
        simp
        omega

/-- within a term each place begins a term -/
theorem scan_at {sg t : List Int} (h : scan sg 1 t = some t.length) {a : Nat} (ha : a < t.length) : ∃ j, scan sg 1 (t.drop a) = some j ∧ 1 ≤ j ∧ a + j ≤ t.length := by
  obtain ⟨q', h'⟩ := scan_tail h ha
  rw [Nat.add_comm] at h'
  obtain ⟨i, h1, h2, _⟩ := scan_split h'
  have h3 := scan_pos (q := 0) h2
  exact ⟨i, h2, h3, by omega⟩

/-- the arguments of what begins at a place: so many terms from the next place on -/
theorem scan_args {sg t : List Int} {a j : Nat} (h : scan sg 1 (t.drop a) = some j) : ∃ i, j = i + 1 ∧ a < t.length ∧ ¬ ar sg (t.getD a 0) < 0 ∧ scan sg (ar sg (t.getD a 0)).toNat (t.drop (a + 1)) = some i := by
  by_cases ha : a < t.length
  · rw [drop_cons ha] at h
    by_cases hx : ar sg (t.getD a 0) < 0
    · rw [scan_bad hx] at h; cases h
    · rw [scan_step hx, Nat.zero_add] at h
      obtain ⟨i, hi, rfl⟩ := Option.map_eq_some_iff.1 h
      exact ⟨i, rfl, ha, hx, hi⟩
  · rw [List.drop_eq_nil_of_le (by omega), scan_nil] at h; cases h

/-- so many terms: the first one, and the rest behind it -/
theorem scan_first {sg t : List Int} {q a i : Nat} (h : scan sg (q + 1) (t.drop a) = some i) : ∃ j, scan sg 1 (t.drop a) = some j ∧ 1 ≤ j ∧ j ≤ i ∧ scan sg q (t.drop (a + j)) = some (i - j) := by
  rw [Nat.add_comm] at h
  obtain ⟨j, h1, h2, h3⟩ := scan_split h
  rw [List.drop_drop] at h3
  exact ⟨j, h2, scan_pos (q := 0) h2, h1, h3⟩

/-- how far what begins at a place reaches -/
def len1 (sg t : List Int) (a : Nat) : Nat := (scan sg 1 (t.drop a)).getD 0
theorem len1_eq {sg t : List Int} {a j : Nat} (h : scan sg 1 (t.drop a) = some j) : len1 sg t a = j := by unfold len1; rw [h]; rfl

/-- the places of so many terms from a place on -/
def places (sg t : List Int) : Nat → Nat → List Int
  | 0, _ => []
  | k + 1, p => (p : Int) :: places sg t k (p + len1 sg t p)

/-- the greatest of what g gives for so many terms from a place on -/
def maxOver (sg t : List Int) (g : Nat → Int) : Nat → Nat → Int
  | 0, _ => 0
  | k + 1, p => max (g p) (maxOver sg t g k (p + len1 sg t p))

/-- the depth of what begins at a place (fuel first) -/
def dep (sg t : List Int) : Nat → Nat → Int
  | 0, _ => 0
  | f + 1, a => maxOver sg t (dep sg t f) (ar sg (t.getD a 0)).toNat (a + 1) + 1

theorem maxOver_bd {sg t : List Int} {g : Nat → Int} {B : Int} (hB : 0 ≤ B) (hg : ∀ p, 0 ≤ g p ∧ g p ≤ B) : ∀ k p, 0 ≤ maxOver sg t g k p ∧ maxOver sg t g k p ≤ B
  | 0, _ => by simp [maxOver, hB]
  | k + 1, p => by
    have h1 := hg p
    have h2 := maxOver_bd (sg := sg) (t := t) hB hg k (p + len1 sg t p)
    simp only [maxOver]
    omega
theorem dep_bd {sg t : List Int} : ∀ f a, 0 ≤ dep sg t f a ∧ dep sg t f a ≤ f
  | 0, _ => by simp [dep]
  | f + 1, a => by
    have := maxOver_bd (sg := sg) (t := t) (g := dep sg t f) (B := f) (by omega) (fun p => dep_bd (sg := sg) (t := t) f p) (ar sg (t.getD a 0)).toNat (a + 1)
    simp only [dep]
    omega
theorem places_len {sg t : List Int} : ∀ k p, (places sg t k p).length = k
  | 0, _ => rfl
  | k + 1, p => by simp [places, places_len]
end Go.Proofs.Ytkmhnkljigncmaa.term
end

section
/-
  CONTRACTS: spec.l1There, impl.cursorAt, spec.EndOf, impl.EndOf. Conditions: the slices read as lists ('Seg'), at most 1048576 numbers; the place is an int64. By an AI agent.
-/
namespace Go.Proofs.Ytkmhnkljigncmaa.endAt
open Go.RowKit Go.Proofs.Ytkmhnkljigncmaa.base Go.Proofs.Ytkmhnkljigncmaa.ints Go.Proofs.Ytkmhnkljigncmaa.sig Go.Proofs.Ytkmhnkljigncmaa.term Go.Proofs.Ytkmhnkljigncmaa.arity Go.Proofs.Ytkmhnkljigncmaa.endOf Go.Proofs.Ytkmhnkljigncmaa.cursor Go.Proofs.Ytkmhnkljigncmaa.termOk

def inB (t : List Int) (x : Int) : Bool := decide (0 ≤ x ∧ x < t.length)
def thereB (sg t : List Int) (x : Int) : Bool := termOkB sg t && inB t x
def endOfI (sg t : List Int) (x : Int) : Int := if thereB sg t x = true then endI sg t x.toNat else -1

theorem termOk_parts {sg t : List Int} (h : termOkB sg t = true) : sigOkB sg = true ∧ t.length ≤ 60 ∧ scan sg 1 t = some t.length := by
  unfold termOkB termB at h
  simp only [Bool.and_eq_true, decide_eq_true_eq] at h
  exact h
theorem there_parts {sg t : List Int} {x : Int} (h : thereB sg t x = true) : termOkB sg t = true ∧ 0 ≤ x ∧ x < t.length := by
  unfold thereB inB at h
  simp only [Bool.and_eq_true, decide_eq_true_eq] at h
  exact h
theorem there_no {sg t : List Int} {x : Int} (h : termOkB sg t = false ∨ x < 0 ∨ (t.length : Int) ≤ x) : thereB sg t x = false := by
  unfold thereB inB
  rcases h with h | h | h
  · rw [h, Bool.false_and]
  · rw [decide_eq_false (by omega), Bool.and_false]
  · rw [decide_eq_false (by omega), Bool.and_false]
theorem there_yes {sg t : List Int} {x : Int} (h : termOkB sg t = true) (h0 : 0 ≤ x) (h1 : x < t.length) : thereB sg t x = true := by
  unfold thereB inB
  rw [h, decide_eq_true ⟨h0, h1⟩]
  rfl

/-- l1There -/
theorem there (A : Option Addr) (m c : Nat) (x : Int) (b : Bool) (w : World) (hm : m ≤ 1048576) (hb : decide (0 ≤ x ∧ x < m) = b) :
    Calls Try.prog 143 #[.slice A m c, .int .i64 x] w fun e w' => w = w' ∧ e = .returned (.bool b) := by
  by_cases h : 0 ≤ x ∧ x ≤ (m : Int) - 1
  · have hbt : b = true := by rw [← hb]; simp; omega
    subst hbt
    clear hb
    go_enter Try.func143, Try.ntmps143
    go_wp2_with fail
    refine (inYes _ _ _ _ h).mono ?_
    rintro e w' ⟨rfl, rfl⟩
    go_wp2
    go_ret
    exact ⟨rfl, rfl⟩
  · have hbt : b = false := by rw [← hb]; simp; omega
    subst hbt
    clear hb
    go_enter Try.func143, Try.ntmps143
    go_wp2_with fail
    refine (inNo _ _ _ _ h).mono ?_
    rintro e w' ⟨rfl, rfl⟩
    go_wp2
    go_ret
    exact ⟨rfl, rfl⟩

def AnsEndOf (w : World) (sg t : List Int) (x : Int) (e : Ending) (w' : World) : Prop := e = .returned (.int .i64 (endOfI sg t x)) ∧ Below w.heap.size w w'
theorem endOf_no {w w' : World} {sg t : List Int} {x : Int} (h : thereB sg t x = false) (hb : Below w.heap.size w w') : AnsEndOf w sg t x (.returned (.int .i64 (-1))) w' :=
  ⟨by unfold endOfI; rw [if_neg (by rw [h]; simp)], hb⟩
theorem endOf_yes {w w' : World} {sg t : List Int} {x : Int} (h : thereB sg t x = true) (hb : Below w.heap.size w w') : AnsEndOf w sg t x (.returned (.int .i64 (endI sg t x.toNat))) w' :=
  ⟨by unfold endOfI; rw [if_pos h], hb⟩

/-- what cursorAt gives: a new cursor at the place, or nil -/
def AnsAt (w : World) (A : Option Addr) (n c : Nat) (A' : Option Addr) (m c' : Nat) (sg t : List Int) (x : Int) (e : Ending) (w' : World) : Prop :=
  Below w.heap.size w w' ∧ ((thereB sg t x = true ∧ ∃ p, e = .returned (.pointer (some ⟨p, 0, none⟩)) ∧ w.heap.size ≤ p ∧ Cur w' p A n c A' m c' sg t x.toNat) ∨ (thereB sg t x = false ∧ e = .returned (.pointer none)))
theorem at_no {w w' : World} {A A' : Option Addr} {n c m c' : Nat} {sg t : List Int} {x : Int} (h : thereB sg t x = false) (hb : Below w.heap.size w w') : AnsAt w A n c A' m c' sg t x (.returned (.pointer none)) w' := ⟨hb, .inr ⟨h, rfl⟩⟩

set_option maxHeartbeats 1000000 in
theorem cursorAt (A A' : Option Addr) (n c m c' : Nat) (sg t : List Int) (x : Int) (w : World) (h : Seg w w.heap.size A n sg) (h' : Seg w w.heap.size A' m t) (hn : n ≤ 1048576) (hm : m ≤ 1048576) :
    Calls Try.prog 145 #[.agg #[.slice A n c], .slice A' m c', .int .i64 x] w (AnsAt w A n c A' m c' sg t x) := by
  obtain ⟨W, hW⟩ : ∃ W, W = w.alloc (.cells #[.slice A n c] 26) := ⟨_, rfl⟩
  have rA : Row W w.heap.size 26 #[.slice A n c] := by rw [hW]; exact Row.new _ _ _
  have bel : Below w.heap.size w W := by rw [hW]; exact (Below.refl _ _).alloc (Nat.le_refl _) _
  replace h := (h.below bel).more bel.size
  replace h' := (h'.below bel).more bel.size
  have HW := Lib.hid hW
  have HL := Lib.hid h'.1
  clear hW
  have L := Lib.hid (implTermOk A A' n c m c' sg t W h h' hn hm)
  cases hok : termOkB sg t with
  | false =>
    have HS := Lib.hid hok
    clear hok h h'
    go_enter Try.func145, Try.ntmps145
    go_wp2_with fail
    rw [← HW.out]
    refine L.out.mono ?_
    rintro e w1 ⟨he, bb⟩
    rw [HS.out] at he
    subst he
    have F := Lib.hid (fun A n c A' m c' => at_no (A := A) (n := n) (c := c) (A' := A') (m := m) (c' := c') (x := x) (there_no (.inl HS.out)) (next_trans bel bb))
    clear bb bel rA
    go_wp2
    go_ret
    exact F.out _ _ _ _ _ _
  | true =>
    have HS := Lib.hid hok
    clear hok
    by_cases hin : 0 ≤ x ∧ x < (m : Int)
    · have hars := (sig_arities (termOk_parts HS.out).1).1
      have HT := Lib.hid (there_yes HS.out hin.1 (by rw [HL.out]; exact hin.2))
      obtain ⟨k, rfl⟩ := Int.eq_ofNat_of_zero_le hin.1
      obtain ⟨i0, i1⟩ := hin
      go_enter Try.func145, Try.ntmps145
      go_wp2_with fail
      rw [← HW.out]
      refine L.out.mono ?_
      rintro e w1 ⟨he, bb⟩
      rw [HS.out] at he
      subst he
      replace h := h.next bb
      replace h' := h'.next bb
      replace rA := rA.next bb
      replace bel := next_trans bel bb
      have cA : w1.cell? ⟨w.heap.size, 0, none⟩ = some (.slice A n c) := rA.cell 0
      have CN := cur_new (c := c) (c' := c') h h' hn hm hars k (by omega)
      have F : AnsAt w A n c A' m c' sg t (k : Int) (.returned (.pointer (some ⟨w1.heap.size, 0, none⟩))) (w1.alloc (.cells #[.slice A n c, .slice A' m c', .int .i64 k] 83)) :=
        ⟨bel.alloc (Nat.le_of_lt rA.lt) _, .inl ⟨HT.out, _, rfl, Nat.le_of_lt rA.lt, by rw [Int.toNat_natCast]; exact CN⟩⟩
      have HF := Lib.hid F
      clear F CN bb bel rA h h' hars HT
      go_wp2
      go_ret
      exact HF.out
    · have HT := Lib.hid (there_no (sg := sg) (t := t) (x := x) (by rw [HL.out]; omega))
      by_cases hx0 : x < 0
      · clear hin
        go_enter Try.func145, Try.ntmps145
        go_wp2_with fail
        rw [← HW.out]
        refine L.out.mono ?_
        rintro e w1 ⟨he, bb⟩
        rw [HS.out] at he
        subst he
        have F := Lib.hid (fun A n c A' m c' => at_no (A := A) (n := n) (c := c) (A' := A') (m := m) (c' := c') HT.out (next_trans bel bb))
        clear bb bel rA h h'
        go_wp2
        go_ret
        exact F.out _ _ _ _ _ _
      · have hx1 : (m : Int) ≤ x := by omega
        clear hin
        go_enter Try.func145, Try.ntmps145
        go_wp2_with fail
        rw [← HW.out]
        refine L.out.mono ?_
        rintro e w1 ⟨he, bb⟩
        rw [HS.out] at he
        subst he
        have F := Lib.hid (fun A n c A' m c' => at_no (A := A) (n := n) (c := c) (A' := A') (m := m) (c' := c') HT.out (next_trans bel bb))
        clear bb bel rA h h'
        go_wp2
        go_ret
        exact F.out _ _ _ _ _ _

end Go.Proofs.Ytkmhnkljigncmaa.endAt
end

section
/-
  CONTRACTS: spec.SymPlaces, impl.SymPlaces. Conditions: the slices read as lists ('Seg'), at most 1048576 numbers. By an AI agent.
-/
namespace Go.Proofs.Ytkmhnkljigncmaa.sym
open Go.RowKit Go.Proofs.Ytkmhnkljigncmaa.base Go.Proofs.Ytkmhnkljigncmaa.ints Go.Proofs.Ytkmhnkljigncmaa.sig Go.Proofs.Ytkmhnkljigncmaa.term Go.Proofs.Ytkmhnkljigncmaa.termOk Go.Proofs.Ytkmhnkljigncmaa.marks Go.Proofs.Ytkmhnkljigncmaa.app

def symP (t : List Int) (k : Nat) : List Int := ((List.range k).filter fun j => decide (0 ≤ t.getD j 0)).map fun (j : Nat) => (j : Int)
def symI (sg t : List Int) : List Int := if termOkB sg t = true then symP t t.length else []

theorem symP_yes {t : List Int} {k : Nat} {x : Int} (ex : Hid (t.getD k 0 = x)) (h : 0 ≤ x) : symP t (k + 1) = symP t k ++ [(k : Int)] := by
  unfold symP
  rw [List.range_succ, List.filter_append, List.map_append]
  simp only [List.filter_cons, List.filter_nil, ex.out, h, decide_true, if_true, List.map_cons, List.map_nil]
theorem symP_no {t : List Int} {k : Nat} {x : Int} (ex : Hid (t.getD k 0 = x)) (h : ¬ 0 ≤ x) : symP t (k + 1) = symP t k := by
  unfold symP
  rw [List.range_succ, List.filter_append, List.map_append]
  simp only [List.filter_cons, List.filter_nil, ex.out, h, decide_false, List.map_nil, List.append_nil]
  simp
theorem symP_len (t : List Int) (k : Nat) : (symP t k).length ≤ k := by
  unfold symP
  rw [List.length_map]
  exact Nat.le_trans (List.length_filter_le _ _) (by simp)

/-- the head of the loop over the places -/
def HeadSym (w : World) (A : Option Addr) (n c m : Nat) (t : List Int) (out i : Value) (wr : World) : Prop :=
  ∃ (k : Nat) (O : Option Addr) (on oc : Nat), k ≤ m ∧ i = .int .i64 k ∧ out = .slice O on oc ∧ Own wr (w.heap.size + 1) (.slice O on oc) (symP t k) ∧ Row wr w.heap.size 26 #[.slice A n c] ∧ Below w.heap.size w wr

theorem headSym_yes {w w2 : World} {A : Option Addr} {n c m k : Nat} {t : List Int} {x : Int} {O : Option Addr} {on oc : Nat} (hk : k < m) (ex : Hid (t.getD k 0 = x)) (h0 : 0 ≤ x) (ho : Own w2 (w.heap.size + 1) (.slice O on oc) (symP t k ++ [(k : Int)]))
    (hr : Row w2 w.heap.size 26 #[.slice A n c]) (hb : Below w.heap.size w w2) : HeadSym w A n c m t (.slice O on oc) (.int .i64 ((k : Int) + 1)) w2 :=
  ⟨k + 1, O, on, oc, hk, by simp, rfl, by rw [symP_yes ex h0]; exact ho, hr, hb⟩
theorem headSym_no {w w2 : World} {A : Option Addr} {n c m k : Nat} {t : List Int} {x : Int} {O : Option Addr} {on oc : Nat} (hk : k < m) (ex : Hid (t.getD k 0 = x)) (h0 : ¬ 0 ≤ x) (ho : Own w2 (w.heap.size + 1) (.slice O on oc) (symP t k))
    (hr : Row w2 w.heap.size 26 #[.slice A n c]) (hb : Below w.heap.size w w2) : HeadSym w A n c m t (.slice O on oc) (.int .i64 ((k : Int) + 1)) w2 :=
  ⟨k + 1, O, on, oc, hk, by simp, rfl, by rw [symP_no ex h0]; exact ho, hr, hb⟩
theorem symI_len {sg t : List Int} {m : Nat} (h : t.length = m) (hm : m ≤ 1048576) : (symI sg t).length ≤ 1048576 := by
  unfold symI
  split
  · have := symP_len t t.length; omega
  · simp

end Go.Proofs.Ytkmhnkljigncmaa.sym
end

section
/-
  CONTRACTS: spec.l1Copy, slices.Clone at []int64, spec.l1Sub, spec.SubAt, impl.SubAt. Conditions: the slices read as lists ('Seg'), at most 1048576 numbers, a length is at most the capacity. By an AI agent.
-/
namespace Go.Proofs.Ytkmhnkljigncmaa.sub
open Go.RowKit Go.Proofs.Ytkmhnkljigncmaa.base Go.Proofs.Ytkmhnkljigncmaa.ints Go.Proofs.Ytkmhnkljigncmaa.sig Go.Proofs.Ytkmhnkljigncmaa.term Go.Proofs.Ytkmhnkljigncmaa.arity Go.Proofs.Ytkmhnkljigncmaa.endOf Go.Proofs.Ytkmhnkljigncmaa.cursor Go.Proofs.Ytkmhnkljigncmaa.termOk Go.Proofs.Ytkmhnkljigncmaa.endAt Go.Proofs.Ytkmhnkljigncmaa.marks Go.Proofs.Ytkmhnkljigncmaa.app Go.Proofs.Ytkmhnkljigncmaa.sym Go.Proofs.Ytkmhnkljigncmaa.curO

def subL (sg t : List Int) (a : Nat) : List Int := (t.drop a).take (len1 sg t a)
def subI (sg t : List Int) (x : Int) : List Int := if thereB sg t x = true then subL sg t x.toNat else []

set_option maxHeartbeats 1000000 in
theorem l1Sub (A A' : Option Addr) (n c m c' : Nat) (sg t : List Int) (a j : Nat) (w : World) (h : Seg w w.heap.size A n sg) (h' : Seg w w.heap.size A' m t) (hn : n ≤ 1048576) (hm : m ≤ 1048576) (hc' : m ≤ c') (hc2 : c' ≤ 9223372036854775807)
    (hs : Arities sg) (ha : a < m) (hj : scan sg 1 (t.drop a) = some j) (hj1 : 1 ≤ j) (hj2 : a + j ≤ m) :
    Calls Try.prog 103 #[.agg #[.slice A n c], .slice A' m c', .int .i64 (a : Int)] w (AnsList w (subL sg t a)) := by
  obtain ⟨b, off, x, rfl, -, -, -⟩ := h'.spot ha
  obtain ⟨W, hW⟩ : ∃ W, W = w.alloc (.cells #[.slice A n c] 26) := ⟨_, rfl⟩
  have bel : Below w.heap.size w W := by rw [hW]; exact (Below.refl _ _).alloc (Nat.le_refl _) _
  have zW : w.heap.size < W.heap.size := by rw [hW]; simp
  replace h := (h.below bel).more bel.size
  replace h' := (h'.below bel).more bel.size
  have HW := Lib.hid hW
  clear hW
  have L := Lib.hid (specEnd A _ n c m c' sg t (a : Int) W h h' hn hm hs (by omega) (by omega))
  have HE := Lib.hid (endI_some hj)
  have HL := Lib.hid (len1_eq hj)
  have hcut := Seg.cut (a := a) (j := j) h' hj2
  clear h h' hj hs
  have i0 : (0 : Int) ≤ (a : Int) := by omega
  have i1 : (a : Int) ≤ (a : Int) + (j : Int) := by omega
  have i2 : (a : Int) + (j : Int) ≤ (c' : Int) := by omega
  have i3 : ¬ c' = a := by omega
  go_enter Try.func103, Try.ntmps103
  go_wp2_with fail
  rw [← HW.out]
  refine L.out.mono ?_
  rintro e w1 ⟨he, bb⟩
  rw [Int.toNat_natCast, HE.out] at he
  subst he
  replace hcut := hcut.next bb
  replace bel := next_trans bel bb
  clear bb L
  go_wp2_with fail
  refine (copyInts _ j _ _ w1 hcut (fun e => by cases e) (by omega)).mono ?_
  rintro e w2 ⟨A2, n2, c2, rfl, o2, bb⟩
  have F : AnsList w (subL sg t a) (.returned (.slice A2 n2 c2)) w2 := ⟨A2, n2, c2, rfl, by unfold subL; rw [HL.out]; exact Own.lower o2 bel.size, next_trans bel bb⟩
  have HF := Lib.hid F
  clear F o2 bb bel hcut
  go_wp2
  go_ret
  exact HF.out

theorem sub_no {w w' : World} {sg t : List Int} {x : Int} {A : Option Addr} {c : Nat} (h : thereB sg t x = false) (ho : Own w' w.heap.size (.slice A 0 c) []) (hb : Below w.heap.size w w') : AnsList w (subI sg t x) (.returned (.slice A 0 c)) w' :=
  ⟨A, 0, c, rfl, by unfold subI; rw [if_neg (by rw [h]; simp)]; exact ho, hb⟩

set_option maxHeartbeats 1000000 in
theorem implSubAt (A A' : Option Addr) (n c m c' : Nat) (sg t : List Int) (x : Int) (w : World) (h : Seg w w.heap.size A n sg) (h' : Seg w w.heap.size A' m t) (hn : n ≤ 1048576) (hm : m ≤ 1048576) (_ : -9223372036854775808 ≤ x) (_ : x ≤ 9223372036854775807) (hc' : m ≤ c') (hc2 : c' ≤ 9223372036854775807) :
    Calls Try.prog 134 #[.agg #[.slice A n c], .slice A' m c', .int .i64 x] w (AnsList w (subI sg t x)) := by
  obtain ⟨W, hW⟩ : ∃ W, W = w.alloc (.cells #[.slice A n c] 26) := ⟨_, rfl⟩
  have bel : Below w.heap.size w W := by rw [hW]; exact (Below.refl _ _).alloc (Nat.le_refl _) _
  have zW : w.heap.size < W.heap.size := by rw [hW]; simp
  replace h := (h.below bel).more bel.size
  replace h' := (h'.below bel).more bel.size
  have HW := Lib.hid hW
  have HL := Lib.hid h'.1
  clear hW
  have L := Lib.hid (cursorAt A A' n c m c' sg t x W h h' hn hm)
  clear h
  go_enter Try.func134, Try.ntmps134
  go_wp2_with fail
  rw [← HW.out]
  refine L.out.mono ?_
  rintro e w1 ⟨bb, ⟨ht, p, rfl, hp, hc⟩ | ⟨ht, rfl⟩⟩
  · replace h' := h'.next bb
    replace bel := next_trans bel bb
    have HT := Lib.hid ht
    clear ht bb
    obtain ⟨hok, h0, h1⟩ := there_parts HT.out
    have ht := (termOk_parts hok).2.2
    obtain ⟨a, rfl⟩ := Int.eq_ofNat_of_zero_le h0
    rw [Int.toNat_natCast] at hc
    have ham : a < m := by rw [HL.out] at h1; omega
    obtain ⟨j, hj, hj1, hj2⟩ := scan_at ht (a := a) (by rw [HL.out]; exact ham)
    rw [HL.out] at hj2
    obtain ⟨b, off, y, rfl, -, -, -⟩ := h'.spot ham
    have hcut := Seg.cut (a := a) (j := j) h' hj2
    have HJ := Lib.hid hj
    have HLen := Lib.hid (len1_eq hj)
    clear hj ht hok h1
    have i0 : (0 : Int) ≤ (a : Int) := by omega
    have i1 : (a : Int) ≤ (a : Int) + (j : Int) := by omega
    have i2 : (a : Int) + (j : Int) ≤ (c' : Int) := by omega
    have i3 : ¬ c' = a := by omega
    have i4 : a + j ≤ c' := by omega
    go_wp2_with fail
    refine (partC p A n c b off m c' sg t a j _ hc HJ.out hj2 hj1 hc' hc2).mono ?_
    rintro e w2 ⟨rfl, hg, hc2'⟩
    have b2 : Below w.heap.size w w2 := bel.grown hg bel.size (fun k hk => by injection hk; omega)
    have hcut2 : Seg w2 w2.heap.size (some ⟨b, off + a, none⟩) j ((t.drop a).take j) := (Seg.cut (a := a) (j := j) hc2'.s' hj2).more (Nat.le_of_lt hc2'.row.lt)
    clear hc2' hg hcut hc h' bel L
    go_wp2_with fail
    refine (cloneInts b (off + a) j _ _ w2 hcut2 (by omega)).mono ?_
    rintro e w3 ⟨A2, n2, c2, rfl, o2, bb⟩
    have F : AnsList w (subI sg t (a : Int)) (.returned (.slice A2 n2 c2)) w3 := ⟨A2, n2, c2, rfl, by unfold subI; rw [if_pos HT.out, Int.toNat_natCast]; unfold subL; rw [HLen.out]; exact Own.lower o2 b2.size, next_trans b2 bb⟩
    have HF := Lib.hid F
    clear F o2 bb b2 hcut2
    go_wp2
    go_ret
    exact HF.out
  · have F := Lib.hid (sub_no ht (Own.nil w1 w.heap.size) (next_trans bel bb))
    clear bb bel ht h' L
    go_wp2
    go_ret
    exact F.out
theorem subI_len {sg t : List Int} {x : Int} {m : Nat} (h : t.length = m) (hm : m ≤ 1048576) : (subI sg t x).length ≤ 1048576 := by
  unfold subI subL
  split
  · simp only [List.length_take, List.length_drop]; omega
  · simp

end Go.Proofs.Ytkmhnkljigncmaa.sub
end

section
/-
  CONTRACTS: spec.l1Args, spec.ArgsAt, impl.ArgsAt. Conditions: the slices read as lists ('Seg'), at most 1048576 numbers. By an AI agent.
-/
namespace Go.Proofs.Ytkmhnkljigncmaa.args
open Go.RowKit Go.Proofs.Ytkmhnkljigncmaa.base Go.Proofs.Ytkmhnkljigncmaa.ints Go.Proofs.Ytkmhnkljigncmaa.sig Go.Proofs.Ytkmhnkljigncmaa.term Go.Proofs.Ytkmhnkljigncmaa.arity Go.Proofs.Ytkmhnkljigncmaa.endOf Go.Proofs.Ytkmhnkljigncmaa.cursor Go.Proofs.Ytkmhnkljigncmaa.termOk Go.Proofs.Ytkmhnkljigncmaa.endAt Go.Proofs.Ytkmhnkljigncmaa.marks Go.Proofs.Ytkmhnkljigncmaa.app Go.Proofs.Ytkmhnkljigncmaa.sym

/-- the places of the arguments of what begins at a place -/
def argsL (sg t : List Int) (a : Nat) : List Int := places sg t (ar sg (t.getD a 0)).toNat (a + 1)
def argsI (sg t : List Int) (x : Int) : List Int := if thereB sg t x = true then argsL sg t x.toNat else []

/-- so many terms from place p on are still to come; ys is what has been collected of L -/
def Coll (sg t : List Int) (m : Nat) (L ys : List Int) (q p : Nat) : Prop := ys ++ places sg t q p = L ∧ ∃ i, scan sg q (t.drop p) = some i ∧ p + i ≤ m
theorem Coll.first {sg t : List Int} {m : Nat} {L ys : List Int} {q p : Nat} (h : Coll sg t m L ys (q + 1) p) : ∃ j, scan sg 1 (t.drop p) = some j ∧ p + j ≤ m ∧ p < t.length ∧ Coll sg t m L (ys ++ [(p : Int)]) q (p + j) := by
  obtain ⟨h1, i, h2, h3⟩ := h
  obtain ⟨j, e1, e2, e3, e4⟩ := scan_first h2
  have e5 := scan_le h2
  refine ⟨j, e1, by omega, ?_, ?_, i - j, e4, by omega⟩
  · simp only [List.length_drop] at e5; omega
  · rw [← h1, List.append_assoc]
    congr 1
    simp only [places, len1_eq e1, List.singleton_append]
theorem Coll.done {sg t : List Int} {m : Nat} {L ys : List Int} {p : Nat} (h : Coll sg t m L ys 0 p) : ys = L := by
  have := h.1
  simpa [places] using this
theorem Coll.len {sg t : List Int} {m : Nat} {L ys : List Int} {q p : Nat} (h : Coll sg t m L ys q p) : ys.length ≤ L.length := by
  rw [← h.1]; simp
theorem Coll.start {sg t : List Int} {m a j : Nat} (hm : t.length = m) (h : scan sg 1 (t.drop a) = some j) (hj : a + j ≤ m) : ¬ ar sg (t.getD a 0) < 0 ∧ Coll sg t m (argsL sg t a) [] (ar sg (t.getD a 0)).toNat (a + 1) := by
  obtain ⟨i, rfl, _, h2, h3⟩ := scan_args h
  exact ⟨h2, rfl, i, h3, by omega⟩
theorem argsL_len {sg t : List Int} (hs : Arities sg) (a : Nat) : (argsL sg t a).length ≤ 3 := by
  unfold argsL
  rw [places_len]
  have := ar_bd hs (t.getD a 0)
  omega

def HeadArgs (w : World) (A : Option Addr) (n c m : Nat) (sg t : List Int) (L : List Int) (out p k : Value) (wr : World) : Prop :=
  ∃ (q pp : Nat) (O : Option Addr) (on oc : Nat) (ys : List Int), k = .int .i64 q ∧ p = .int .i64 pp ∧ out = .slice O on oc ∧ Own wr (w.heap.size + 1) (.slice O on oc) ys ∧ Coll sg t m L ys q pp ∧ q ≤ 3 ∧ Row wr w.heap.size 26 #[.slice A n c] ∧ Below w.heap.size w wr

set_option maxHeartbeats 1000000 in
theorem l1Args (A A' : Option Addr) (n c m c' : Nat) (sg t : List Int) (a j : Nat) (w : World) (h : Seg w w.heap.size A n sg) (h' : Seg w w.heap.size A' m t) (hn : n ≤ 1048576) (hm : m ≤ 1048576)
    (hs : Arities sg) (ha : a < m) (hj : scan sg 1 (t.drop a) = some j) (hj2 : a + j ≤ m) :
    Calls Try.prog 139 #[.agg #[.slice A n c], .slice A' m c', .int .i64 (a : Int)] w (AnsList w (argsL sg t a)) := by
  have HL := Lib.hid h'.1
  obtain ⟨hneg, hcoll⟩ := Coll.start HL.out hj hj2
  have h3 := argsL_len (t := t) hs a
  obtain ⟨b, off, x, rfl, hbb, hx, ex⟩ := h'.spot ha
  rw [ex.out] at hneg hcoll
  have hzb := ar_bd hs x
  obtain ⟨z, hz⟩ : ∃ z, ar sg x = z := ⟨_, rfl⟩
  rw [hz] at hneg hcoll hzb
  obtain ⟨T, rfl⟩ := Int.eq_ofNat_of_zero_le (show 0 ≤ z by omega)
  rw [Int.toNat_natCast] at hcoll
  have HZ := Lib.hid hz
  obtain ⟨L, hL⟩ : ∃ L, argsL sg t a = L := ⟨_, rfl⟩
  rw [hL] at hcoll h3 ⊢
  obtain ⟨W, hW⟩ : ∃ W, W = (w.alloc (.cells #[.slice A n c] 26)).alloc (.cells #[] 2) := ⟨_, rfl⟩
  have rA : Row W w.heap.size 26 #[.slice A n c] := by rw [hW]; exact (Row.new _ _ _).alloc _
  have bel : Below w.heap.size w W := by rw [hW]; exact ((Below.refl _ _).alloc (Nat.le_refl _) _).alloc (by simp) _
  have ow : Own W (w.heap.size + 1) (.slice (some ⟨w.heap.size + 1, 0, none⟩) 0 0) [] := by
    rw [hW]
    have := own_empty (w.alloc (.cells #[.slice A n c] 26)) (w.heap.size + 1) (by simp)
    simpa using this
  have s : Seg W.drew W.heap.size A n sg := ((h.below bel).more bel.size).drew
  have hx1 : W.cell? ⟨b, off + a, none⟩ = some (.int .i64 x) := (bel.cell (p := ⟨b, off + a, none⟩) hbb).trans hx
  have cA : W.cell? ⟨w.heap.size, 0, none⟩ = some (.slice A n c) := rA.cell 0
  have i0 : (0 : Int) ≤ (a : Int) := by omega
  have i1 : (a : Int) < (m : Int) := by omega
  have HW := Lib.hid hW
  have HS0 := Lib.hid hs
  clear hW hx hL hz hj ex hs
  go_enter Try.func139, Try.ntmps139
  go_wp2_with fail
  rw [← HW.out]
  replace rA := rA.drew
  replace bel := bel.drew
  replace ow := Own.drew ow
  go_region_held3 (fun w' => w'.cell? ⟨w.heap.size, 0, none⟩ = some (.slice A n c) ∧ w'.cell? ⟨b, off + a, none⟩ = some (.int .i64 x))
    (go_keep)
    (first
      | (go_at_call 137; refine (specArity _ _ _ sg x _ s hn).mono ?_; rintro e w2 ⟨he, bb⟩; rw [HZ.out] at he; subst he; replace cA : w2.cell? ⟨w.heap.size, 0, none⟩ = some (.slice A n c) := (rA.next bb).cell 0; have cx' : w2.cell? ⟨b, off + a, none⟩ = some (.int .i64 x) := (bb.cell (p := ⟨b, off + a, none⟩) (Nat.lt_trans hbb rA.lt)).trans hx1))
  have S0 : HeadArgs w A n c m sg t L (.slice (some ⟨w.heap.size + 1, 0, none⟩) 0 0) (.int .i64 ((a + 1 : Nat) : Int)) (.int .i64 (T : Int)) w2 :=
    ⟨T, a + 1, _, _, _, [], rfl, rfl, rfl, Own.next ow bb, hcoll, by omega, rA.next bb, bel.trans (bb.mono (Nat.le_of_lt rA.lt))⟩
  have HS := Lib.hid S0
  clear S0 bb rA bel ow s hx1 cA cx' hcoll
  go_wp2_with fail
  go_loopw [7, 8, 9] (fun out p k wr => HeadArgs w A n c m sg t L out p k wr) (fun _ _ k _ => (intOf k).toNat)
  case atStart => simpa using HS.out
  case round =>
    obtain ⟨q, pp, O, on, oc, ys, rfl, rfl, rfl, ho, hc, hq, hr, hb⟩ := hrel
    clear HS
    have hon : on ≤ 3 := by have := Own.len ho; have := hc.len; omega
    cases q with
    | zero =>
      have F : AnsList w L (.returned (.slice O on oc)) wr := ⟨O, on, oc, rfl, by rw [← hc.done]; exact Own.lower ho (Nat.le_succ _), hb⟩
      have HF := Lib.hid F
      clear F ho hc hr hb h h'
      go_wp2
      go_ret
      exact HF.out
    | succ q =>
      obtain ⟨jj, hj, hj2', hlt, hc'⟩ := hc.first
      have HE := Lib.hid (endI_some hj)
      have hsz := hr.lt
      have e0 : (0 : Int) < ((q + 1 : Nat) : Int) := by omega
      have hpp : pp ≤ 1048576 := by omega
      clear hc hj
      go_wp2_with (at_builtin; refine app1 rfl _ _ rfl (w.heap.size + 1) O on oc ys rfl (Own.alloc ho _) wr.heap.size 1 (pp : Int) rfl ((Row.new _ _ _).cell 0) (by omega) (by simp; omega) ?_; intro O' oc' w2 ho2 b2; have r2 : Row w2 w.heap.size 26 #[.slice A n c] := (hr.alloc _).below b2 (Nat.lt_succ_self _); have bel2 : Below w.heap.size w w2 := (hb.alloc (Nat.le_of_lt hsz) _).trans (b2.mono (Nat.le_succ _)); have cA2 : w2.cell? ⟨w.heap.size, 0, none⟩ = some (.slice A n c) := r2.cell 0)
      have s2 : Seg w2 w2.heap.size A n sg := (h.below bel2).more bel2.size
      have s2' : Seg w2 w2.heap.size (some ⟨b, off, none⟩) m t := (h'.below bel2).more bel2.size
      clear ho b2 hr hb
      refine (specEnd A _ n c m c' sg t (pp : Int) _ s2 s2' hn hm HS0.out (by omega) (by omega)).mono ?_
      rintro e w3 ⟨he, bb⟩
      rw [Int.toNat_natCast, HE.out] at he
      subst he
      have S : HeadArgs w A n c m sg t L (.slice O' (on + 1) oc') (.int .i64 ((pp : Int) + jj)) (.int .i64 (q : Int)) w3 :=
        ⟨q, pp + jj, O', on + 1, oc', _, rfl, by simp, rfl, Own.next ho2 bb, hc', by omega, r2.next bb, next_trans bel2 bb⟩
      have HSS := Lib.hid S
      clear S bb ho2 r2 bel2 cA2 s2 s2' hc'
      go_wp2
      go_roundw
      case rel => first | exact HSS.out | simpa using HSS.out
      case measure => simp [intOf]

theorem args_no {w w' : World} {sg t : List Int} {x : Int} {A : Option Addr} {c : Nat} (h : thereB sg t x = false) (ho : Own w' w.heap.size (.slice A 0 c) []) (hb : Below w.heap.size w w') : AnsList w (argsI sg t x) (.returned (.slice A 0 c)) w' :=
  ⟨A, 0, c, rfl, by unfold argsI; rw [if_neg (by rw [h]; simp)]; exact ho, hb⟩

theorem Cur.keep {w w' : World} {p : Nat} {A : Option Addr} {n c : Nat} {A' : Option Addr} {m c' : Nat} {sg t : List Int} {k : Nat} (h : Cur w p A n c A' m c' sg t k) (hb : Below (p + 1) w w') : Cur w' p A n c A' m c' sg t k :=
  ⟨h.row.below hb (Nat.lt_succ_self _), h.s.below (hb.mono (Nat.le_succ _)), h.s'.below (hb.mono (Nat.le_succ _)), h.le, h.hn, h.hm, h.ars⟩
theorem Cur.alloc {w : World} {p : Nat} {A : Option Addr} {n c : Nat} {A' : Option Addr} {m c' : Nat} {sg t : List Int} {k : Nat} (h : Cur w p A n c A' m c' sg t k) (o : Obj) : Cur (w.alloc o) p A n c A' m c' sg t k :=
  h.below ((Below.refl _ _).alloc (Nat.le_refl _) _)

def HeadImpl (w : World) (p : Nat) (A : Option Addr) (n c : Nat) (A' : Option Addr) (m c' : Nat) (sg t : List Int) (T : Nat) (L : List Int) (out i : Value) (wr : World) : Prop :=
  ∃ (k q pp : Nat) (O : Option Addr) (on oc : Nat) (ys : List Int), i = .int .i64 k ∧ k + q = T ∧ out = .slice O on oc ∧ Own wr (p + 1) (.slice O on oc) ys ∧ Coll sg t m L ys q pp ∧ Cur wr p A n c A' m c' sg t pp ∧ Below w.heap.size w wr

theorem argsI_len {sg t : List Int} {x : Int} : (argsI sg t x).length ≤ 1048576 := by
  unfold argsI
  split
  · rename_i h
    have := argsL_len (t := t) (sig_arities (termOk_parts (there_parts h).1).1).1 x.toNat
    omega
  · simp
end Go.Proofs.Ytkmhnkljigncmaa.args
end

section
/-
  CONTRACTS: spec.l1Max, spec.l1Depth, spec.DepthOf, impl's cursor depth, impl.DepthOf. Conditions: the slices read as lists ('Seg'), at most 1048576 numbers. By an AI agent.
-/
namespace Go.Proofs.Ytkmhnkljigncmaa.depth
open Go.RowKit Go.Proofs.Ytkmhnkljigncmaa.base Go.Proofs.Ytkmhnkljigncmaa.ints Go.Proofs.Ytkmhnkljigncmaa.sig Go.Proofs.Ytkmhnkljigncmaa.term Go.Proofs.Ytkmhnkljigncmaa.arity Go.Proofs.Ytkmhnkljigncmaa.endOf Go.Proofs.Ytkmhnkljigncmaa.cursor Go.Proofs.Ytkmhnkljigncmaa.termOk Go.Proofs.Ytkmhnkljigncmaa.endAt Go.Proofs.Ytkmhnkljigncmaa.marks Go.Proofs.Ytkmhnkljigncmaa.app Go.Proofs.Ytkmhnkljigncmaa.sym Go.Proofs.Ytkmhnkljigncmaa.args

theorem max_any (x y : Int) (w : World) : Calls Try.prog 126 #[.int .i64 x, .int .i64 y] w fun e w' => w = w' ∧ e = .returned (.int .i64 (max x y)) := by
  by_cases h : y < x
  · have e : max x y = x := by omega
    rw [e]
    go_enter Try.func126, Try.ntmps126
    go_wp2
    go_ret
    exact ⟨rfl, rfl⟩
  · have e : max x y = y := by omega
    rw [e]
    go_enter Try.func126, Try.ntmps126
    go_wp2
    go_ret
    exact ⟨rfl, rfl⟩

/-- the greatest of what comes: d so far, q terms from place p on still to come, M in the end -/
def Deep (sg t : List Int) (f : Nat) (M d : Int) (q p : Nat) : Prop := max d (maxOver sg t (dep sg t f) q p) = M ∧ 0 ≤ d ∧ d ≤ f ∧ ∃ i, scan sg q (t.drop p) = some i ∧ i ≤ f ∧ p + i ≤ t.length
theorem Deep.first {sg t : List Int} {f : Nat} {M d : Int} {q p : Nat} (h : Deep sg t f M d (q + 1) p) : ∃ j, scan sg 1 (t.drop p) = some j ∧ j ≤ f ∧ p < t.length ∧ p + j ≤ t.length ∧ Deep sg t f M (max d (dep sg t f p)) q (p + j) := by
  obtain ⟨h1, h2, h3, i, h4, h5, h6⟩ := h
  obtain ⟨j, e1, e2, e3, e4⟩ := scan_first h4
  have hb := dep_bd (sg := sg) (t := t) f p
  refine ⟨j, e1, by omega, by omega, by omega, ?_, by omega, by omega, i - j, e4, by omega, by omega⟩
  simp only [maxOver, len1_eq e1] at h1
  omega
theorem Deep.done {sg t : List Int} {f : Nat} {M d : Int} {p : Nat} (h : Deep sg t f M d 0 p) : d = M := by
  have h1 := h.1
  have h2 := h.2.1
  simp only [maxOver] at h1
  omega
theorem Deep.start {sg t : List Int} {f a j : Nat} (h : scan sg 1 (t.drop a) = some j) (hj : j ≤ f + 1) (hl : a + j ≤ t.length) :
    ¬ ar sg (t.getD a 0) < 0 ∧ Deep sg t f (maxOver sg t (dep sg t f) (ar sg (t.getD a 0)).toNat (a + 1)) 0 (ar sg (t.getD a 0)).toNat (a + 1) := by
  obtain ⟨i, rfl, _, h2, h3⟩ := scan_args h
  have hb := maxOver_bd (sg := sg) (t := t) (g := dep sg t f) (B := f) (by omega) (fun p => dep_bd f p) (ar sg (t.getD a 0)).toNat (a + 1)
  exact ⟨h2, by omega, by omega, by omega, i, h3, by omega, by omega⟩

def AnsDep (w : World) (z : Int) (e : Ending) (w' : World) : Prop := e = .returned (.int .i64 z) ∧ Below w.heap.size w w'

def HeadDep (w : World) (A : Option Addr) (n c : Nat) (O : Option Addr) (T oc : Nat) (ys : List Int) (sg t : List Int) (f : Nat) (M : Int) (deep i : Value) (wr : World) : Prop :=
  ∃ (k q pp : Nat) (d : Int), i = .int .i64 k ∧ deep = .int .i64 d ∧ k + q = T ∧ ys.drop k = places sg t q pp ∧ Deep sg t f M d q pp ∧ Own wr (w.heap.size + 1) (.slice O T oc) ys ∧ Row wr w.heap.size 26 #[.slice A n c] ∧ Below w.heap.size w wr

/-- impl's depth at place k: the depth, and the cursor behind it -/
def AnsCDep (w : World) (p : Nat) (A : Option Addr) (n c : Nat) (A' : Option Addr) (m c' : Nat) (sg t : List Int) (k : Nat) (z : Int) (e : Ending) (w' : World) : Prop :=
  e = .returned (.int .i64 z) ∧ w.grownBy w' (some p) ∧ Cur w' p A n c A' m c' sg t k

def HeadCDep (w : World) (p : Nat) (A : Option Addr) (n c : Nat) (A' : Option Addr) (m c' : Nat) (sg t : List Int) (T f last : Nat) (M : Int) (deep i : Value) (wr : World) : Prop :=
  ∃ (k q pp r : Nat) (d : Int), i = .int .i64 k ∧ deep = .int .i64 d ∧ k + q = T ∧ Deep sg t f M d q pp ∧ scan sg q (t.drop pp) = some r ∧ pp + r = last ∧ Cur wr p A n c A' m c' sg t pp ∧ w.grownBy wr (some p)

/-! ### DepthOf -/
def depthI (sg t : List Int) : Int := if termOkB sg t = true then dep sg t t.length 0 else 0
def AnsDepthOf (w : World) (sg t : List Int) (e : Ending) (w' : World) : Prop := e = .returned (.int .i64 (depthI sg t)) ∧ Below w.heap.size w w'
theorem depth_no {w w' : World} {sg t : List Int} (h : termOkB sg t = false) (hb : Below w.heap.size w w') : AnsDepthOf w sg t (.returned (.int .i64 0)) w' := ⟨by unfold depthI; rw [if_neg (by rw [h]; simp)], hb⟩
theorem depth_yes {w w' : World} {sg t : List Int} {m : Nat} (hm : t.length = m) (h : termOkB sg t = true) (hb : Below w.heap.size w w') : AnsDepthOf w sg t (.returned (.int .i64 (dep sg t m 0))) w' := ⟨by unfold depthI; rw [if_pos h, hm], hb⟩
theorem termOk_pos {sg t : List Int} (h : termOkB sg t = true) : 0 < t.length := by
  have := scan_pos (q := 0) (termOk_parts h).2.2
  exact this

end Go.Proofs.Ytkmhnkljigncmaa.depth
end

section
/-
  PLAIN MATHEMATICS for laws.FnTerms: a subterm is a term, consists of its head and its arguments, and its depth is one more than the deepest of theirs. Conditions: none. By an AI agent.
-/
namespace Go.Proofs.Ytkmhnkljigncmaa.termMath
open Go.Proofs.Ytkmhnkljigncmaa.term Go.Proofs.Ytkmhnkljigncmaa.termOk Go.Proofs.Ytkmhnkljigncmaa.endAt Go.Proofs.Ytkmhnkljigncmaa.sub Go.Proofs.Ytkmhnkljigncmaa.args Go.Proofs.Ytkmhnkljigncmaa.depth Go.Proofs.Ytkmhnkljigncmaa.sig

theorem scan_append {sg : List Int} : ∀ {l r : List Int} {q j : Nat}, scan sg q l = some j → scan sg q (l ++ r) = some j := by
  intro l
  induction l with
  | nil =>
    intro r q j h
    cases q with
    | zero => rw [scan_zero] at h ⊢; exact h
    | succ q => rw [scan_nil] at h; cases h
  | cons x l ih =>
    intro r q j h
    cases q with
    | zero => rw [scan_zero] at h ⊢; exact h
    | succ q =>
      by_cases ha : ar sg x < 0
      · rw [scan_bad ha] at h; cases h
      · rw [scan_step ha] at h
        rw [List.cons_append, scan_step ha]
        obtain ⟨j', hj', rfl⟩ := Option.map_eq_some_iff.1 h
        rw [ih hj']
        rfl
theorem scan_take {sg : List Int} : ∀ {l : List Int} {q j : Nat}, scan sg q l = some j → scan sg q (l.take j) = some j := by
  intro l
  induction l with
  | nil => intro q j h; simpa using h
  | cons x l ih =>
    intro q j h
    cases q with
    | zero => rw [scan_zero] at h ⊢; exact h
    | succ q =>
      by_cases ha : ar sg x < 0
      · rw [scan_bad ha] at h; cases h
      · rw [scan_step ha] at h
        obtain ⟨j', hj', rfl⟩ := Option.map_eq_some_iff.1 h
        rw [List.take_succ_cons, scan_step ha, ih hj']
        rfl
/-- a scan goes by the numbers that it takes alone -/
theorem scan_same {sg l l' : List Int} {q j : Nat} (h : scan sg q l = some j) (e : l.take j = l'.take j) : scan sg q l' = some j := by
  have h1 := scan_take h
  rw [e] at h1
  have h2 := scan_append (r := l'.drop j) h1
  rwa [List.take_append_drop] at h2
theorem take_less {l l' : List Int} {i j : Nat} (e : l.take i = l'.take i) (h : j ≤ i) : l.take j = l'.take j := by
  have : (l.take i).take j = (l'.take i).take j := by rw [e]
  rwa [List.take_take, List.take_take, Nat.min_eq_left h] at this
theorem drop_same {l l' : List Int} {i j : Nat} (e : l.take i = l'.take i) : (l.drop j).take (i - j) = (l'.drop j).take (i - j) := by
  rw [← List.drop_take, ← List.drop_take, e]
theorem get_same {t t' : List Int} {a a' i : Nat} (e : (t.drop a).take i = (t'.drop a').take i) (h : 1 ≤ i) : t.getD a 0 = t'.getD a' 0 := by
  have : ((t.drop a).take i)[0]? = ((t'.drop a').take i)[0]? := by rw [e]
  rw [List.getElem?_take, List.getElem?_take, if_pos (by omega), if_pos (by omega), List.getElem?_drop, List.getElem?_drop] at this
  simpa [List.getD] using congrArg (fun o => o.getD 0) this

theorem max_same {sg t t' : List Int} {f f' : Nat} (hd : ∀ a a' j, (t.drop a).take j = (t'.drop a').take j → scan sg 1 (t.drop a) = some j → j ≤ f → j ≤ f' → dep sg t f a = dep sg t' f' a') :
    ∀ q p p' i, (t.drop p).take i = (t'.drop p').take i → scan sg q (t.drop p) = some i → i ≤ f → i ≤ f' → maxOver sg t (dep sg t f) q p = maxOver sg t' (dep sg t' f') q p'
  | 0, _, _, _, _, _, _, _ => rfl
  | q + 1, p, p', i, e, h, h1, h2 => by
    obtain ⟨j, e1, e2, e3, e4⟩ := scan_first h
    have e5 := scan_same e1 (take_less e e3)
    have hdr : (t.drop (p + j)).take (i - j) = (t'.drop (p' + j)).take (i - j) := by
      have := drop_same (j := j) e
      rwa [List.drop_drop, List.drop_drop] at this
    simp only [maxOver, len1_eq e1, len1_eq e5]
    rw [hd p p' j (take_less e e3) e1 (by omega) (by omega), max_same hd q (p + j) (p' + j) (i - j) hdr e4 (by omega) (by omega)]
/-- the depth goes by the numbers of the term alone -/
theorem dep_same {sg : List Int} : ∀ (f f' : Nat) (t t' : List Int) (a a' j : Nat), (t.drop a).take j = (t'.drop a').take j → scan sg 1 (t.drop a) = some j → j ≤ f → j ≤ f' → dep sg t f a = dep sg t' f' a'
  | 0, _, _, _, _, _, _, _, h, h1, _ => by have := scan_pos (q := 0) h; omega
  | _ + 1, 0, _, _, _, _, _, _, h, _, h2 => by have := scan_pos (q := 0) h; omega
  | f + 1, f' + 1, t, t', a, a', j, e, h, h1, h2 => by
    have hj := scan_pos (q := 0) h
    have hg := get_same e hj
    obtain ⟨i, e1, _, _, e2⟩ := scan_args h
    have hdr : (t.drop (a + 1)).take i = (t'.drop (a' + 1)).take i := by
      have := drop_same (j := 1) e
      rw [List.drop_drop, List.drop_drop] at this
      have e3 : j - 1 = i := by omega
      rwa [e3] at this
    simp only [dep]
    rw [← hg, max_same (fun a a' j e h h1 h2 => dep_same f f' t t' a a' j e h h1 h2) _ (a + 1) (a' + 1) i hdr e2 (by omega) (by omega)]

/-- the subterm at a place of a term -/
theorem sub_term {sg t : List Int} {a : Nat} (hok : termOkB sg t = true) (ha : a < t.length) : termOkB sg (subL sg t a) = true ∧ depthI sg (subL sg t a) = dep sg t (t.length + 1) a ∧ endI sg t a = (a : Int) + ((subL sg t a).length : Int) ∧ 1 ≤ (subL sg t a).length := by
  have hp := termOk_parts hok
  obtain ⟨j, hj, hj1, hj2⟩ := scan_at hp.2.2 ha
  have hl : len1 sg t a = j := len1_eq hj
  have hs : subL sg t a = (t.drop a).take j := by unfold subL; rw [hl]
  have hlen : (subL sg t a).length = j := by rw [hs]; simp; omega
  have hsc : scan sg 1 (subL sg t a) = some (subL sg t a).length := by rw [hlen, hs]; exact scan_take hj
  have hok2 : termOkB sg (subL sg t a) = true := by
    unfold termOkB termB
    rw [hp.1, hsc]
    simp
    omega
  refine ⟨hok2, ?_, by rw [endI_some hj, hlen], by omega⟩
  unfold depthI
  rw [if_pos hok2, hlen]
  refine (dep_same _ _ _ _ _ _ j ?_ ?_ (Nat.le_refl _) (by omega))
  · rw [List.drop_zero, hs, List.take_take, Nat.min_self]
  · rw [List.drop_zero, hsc, hlen]

/-- in the course of the law's loop: q arguments from place pp on are still to come -/
def Loop (sg t : List Int) (a : Nat) (M : Int) (zs args : List Int) (d : Int) (k q pp : Nat) : Prop :=
  args.drop k = places sg t q pp ∧ max d (maxOver sg t (dep sg t t.length) q pp) = M ∧ 0 ≤ d ∧ d ≤ t.length ∧ ∃ i, scan sg q (t.drop pp) = some i ∧ pp + i ≤ t.length ∧ zs ++ (t.drop pp).take i = subL sg t a
theorem Loop.start {sg t : List Int} {a : Nat} (hok : termOkB sg t = true) (ha : a < t.length) :
    Loop sg t a (maxOver sg t (dep sg t t.length) (ar sg (t.getD a 0)).toNat (a + 1)) [t.getD a 0] (argsL sg t a) 0 0 (ar sg (t.getD a 0)).toNat (a + 1) := by
  have hp := termOk_parts hok
  obtain ⟨j, hj, hj1, hj2⟩ := scan_at hp.2.2 ha
  obtain ⟨i, rfl, _, _, hi⟩ := scan_args hj
  have hb := maxOver_bd (sg := sg) (t := t) (g := dep sg t t.length) (B := t.length) (by omega) (fun p => dep_bd t.length p) (ar sg (t.getD a 0)).toNat (a + 1)
  refine ⟨rfl, by omega, by omega, by omega, i, hi, by omega, ?_⟩
  unfold subL
  rw [len1_eq hj, drop_cons ha, List.take_succ_cons]
  rfl
theorem Loop.done {sg t : List Int} {a : Nat} {M : Int} {zs args : List Int} {d : Int} {k pp : Nat} (h : Loop sg t a M zs args d k 0 pp) : zs = subL sg t a ∧ d = M := by
  obtain ⟨_, h2, h3, _, i, h5, _, h7⟩ := h
  rw [scan_zero] at h5
  injection h5 with h5
  subst h5
  simp only [maxOver] at h2
  exact ⟨by simpa using h7, by omega⟩
theorem Loop.step {sg t : List Int} {a : Nat} {M : Int} {zs args : List Int} {d : Int} {k q pp : Nat} (hok : termOkB sg t = true) (h : Loop sg t a M zs args d k (q + 1) pp) :
    pp < t.length ∧ args.getD k 0 = (pp : Int) ∧ ∃ jj, Loop sg t a M (zs ++ subL sg t pp) args (max d (depthI sg (subL sg t pp))) (k + 1) q (pp + jj) := by
  obtain ⟨h1, h2, h3, h4, i, h5, h6, h7⟩ := h
  obtain ⟨j, e1, e2, e3, e4⟩ := scan_first h5
  have hlt : pp < t.length := by omega
  refine ⟨hlt, ?_, j, ?_⟩
  · have : (args.drop k)[0]? = (places sg t (q + 1) pp)[0]? := by rw [h1]
    simp [places] at this
    simp [List.getD, this]
  · have hdep : depthI sg (subL sg t pp) = dep sg t t.length pp := by
      rw [(sub_term hok hlt).2.1]
      exact dep_same _ _ _ _ _ _ j rfl e1 (by omega) (by omega)
    have hb := dep_bd (sg := sg) (t := t) t.length pp
    refine ⟨?_, ?_, by omega, by rw [hdep]; omega, i - j, e4, by omega, ?_⟩
    · have : (args.drop k).drop 1 = (places sg t (q + 1) pp).drop 1 := by rw [h1]
      rw [List.drop_drop] at this
      simpa [places, len1_eq e1] using this
    · rw [hdep]
      simp only [maxOver, len1_eq e1] at h2
      omega
    · rw [← h7, List.append_assoc]
      congr 1
      unfold subL
      rw [len1_eq e1, ← List.drop_drop, ← List.drop_take]
      have := List.take_append_drop j ((t.drop pp).take i)
      rwa [List.take_take, Nat.min_eq_left e3] at this
theorem depth_head {sg t : List Int} {a : Nat} (hok : termOkB sg t = true) (ha : a < t.length) : depthI sg (subL sg t a) = maxOver sg t (dep sg t t.length) (ar sg (t.getD a 0)).toNat (a + 1) + 1 := by
  rw [(sub_term hok ha).2.1]
  rfl
end Go.Proofs.Ytkmhnkljigncmaa.termMath
end

section
/-
  PLAIN MATHEMATICS of valid terms: their parts, the numbers in them. Conditions: none. By an AI agent.
-/
namespace Go.Proofs.Ytkmhnkljigncmaa.termFacts
open Go.Proofs.Ytkmhnkljigncmaa.sig Go.Proofs.Ytkmhnkljigncmaa.term Go.Proofs.Ytkmhnkljigncmaa.termOk

theorem term_parts {sg t : List Int} (h : termOkB sg t = true) : sigOkB sg = true ∧ t.length ≤ 60 ∧ scan sg 1 t = some t.length := by
  unfold termOkB termB at h
  simp only [Bool.and_eq_true, decide_eq_true_eq] at h
  exact h
theorem term_mk {sg t : List Int} (h1 : sigOkB sg = true) (h2 : t.length ≤ 60) (h3 : scan sg 1 t = some t.length) : termOkB sg t = true := by
  unfold termOkB termB
  simp [h1, h2, h3]
theorem term_len {sg t : List Int} (h : termOkB sg t = true) : 1 ≤ t.length ∧ t.length ≤ 60 := ⟨scan_pos (q := 0) (term_parts h).2.2, (term_parts h).2.1⟩
theorem term_ar {sg t : List Int} (h : termOkB sg t = true) {j : Nat} (hj : j < t.length) : ¬ ar sg (t.getD j 0) < 0 := by
  obtain ⟨i, h1, _, _⟩ := scan_at (term_parts h).2.2 hj
  obtain ⟨_, _, _, h2, _⟩ := scan_args h1
  exact h2
/-- each number is a variable or a symbol -/
theorem term_num {sg t : List Int} (h : termOkB sg t = true) {j : Nat} (hj : j < t.length) : -24 ≤ t.getD j 0 ∧ t.getD j 0 < 8 := by
  have h1 := term_ar h hj
  have h2 := (sig_arities (term_parts h).1).2
  unfold ar at h1
  split at h1
  · omega
  · split at h1
    · omega
    · omega
theorem term_mem {sg t : List Int} (h : termOkB sg t = true) {x : Int} (hx : x ∈ t) : -24 ≤ x ∧ x < 8 := by
  obtain ⟨j, hj, rfl⟩ := List.getElem_of_mem hx
  have := term_num h hj
  simpa [List.getD, hj] using this
end Go.Proofs.Ytkmhnkljigncmaa.termFacts
end

section
/-
  PLAIN MATHEMATICS for chapter 3: ways from the root down to a position, what lies above it, paths, the deepest position, and what a replaced subterm does to them. Conditions: none. By an AI agent.
-/
namespace Go.Proofs.Ytkmhnkljigncmaa.posMath
open Go.Proofs.Ytkmhnkljigncmaa.sig Go.Proofs.Ytkmhnkljigncmaa.term Go.Proofs.Ytkmhnkljigncmaa.termOk Go.Proofs.Ytkmhnkljigncmaa.termFacts Go.Proofs.Ytkmhnkljigncmaa.endAt Go.Proofs.Ytkmhnkljigncmaa.sub Go.Proofs.Ytkmhnkljigncmaa.args Go.Proofs.Ytkmhnkljigncmaa.depth Go.Proofs.Ytkmhnkljigncmaa.termMath

theorem scan_cat {sg : List Int} : ∀ {l l' : List Int} {q q' j : Nat}, scan sg q l = some l.length → scan sg q' l' = some j → scan sg (q + q') (l ++ l') = some (l.length + j)
  | [], l', q, q', j, h, h' => by
    cases q with
    | zero => simpa using h'
    | succ q => rw [scan_nil] at h; cases h
  | x :: r, l', q, q', j, h, h' => by
    cases q with
    | zero => rw [scan_zero] at h; simp at h
    | succ q =>
      by_cases ha : ar sg x < 0
      · rw [scan_bad ha] at h; cases h
      · rw [scan_step ha] at h
        obtain ⟨i, hi, e⟩ := Option.map_eq_some_iff.1 h
        have e2 : i = r.length := by simp at e; omega
        subst e2
        have h2 := scan_cat hi h'
        rw [show q + 1 + q' = (q + q') + 1 by omega, List.cons_append, scan_step ha, show q + q' + (ar sg x).toNat = q + (ar sg x).toNat + q' by omega, h2]
        simp
        omega
theorem term_at {sg t : List Int} (h : termOkB sg t = true) {a : Nat} (ha : a < t.length) : scan sg 1 (t.drop a) = some (len1 sg t a) ∧ 1 ≤ len1 sg t a ∧ a + len1 sg t a ≤ t.length := by
  obtain ⟨j, e, h1, h2⟩ := scan_at (term_parts h).2.2 ha
  rw [len1_eq e]
  exact ⟨e, h1, h2⟩
theorem end_at {sg t : List Int} (h : termOkB sg t = true) {a : Nat} (ha : a < t.length) : endI sg t a = ((a + len1 sg t a : Nat) : Int) := by
  rw [endI_some (term_at h ha).1]; omega
/-- what begins within a row of terms ends within it -/
theorem nest {sg t : List Int} {q a i : Nat} (h : scan sg q (t.drop a) = some i) {p : Nat} (h1 : a ≤ p) (h2 : p < a + i) : p + len1 sg t p ≤ a + i ∧ scan sg 1 (t.drop p) = some (len1 sg t p) ∧ 1 ≤ len1 sg t p := by
  obtain ⟨q', hq⟩ := scan_tail h (show p - a < i by omega)
  rw [List.drop_drop, show a + (p - a) = p by omega] at hq
  obtain ⟨j, e, j1, j2, _⟩ := scan_first hq
  rw [len1_eq e]
  exact ⟨by omega, e, j1⟩

/-- where the k-th of the terms from place p on begins -/
def argP (sg t : List Int) : Nat → Nat → Nat
  | 0, p => p
  | k + 1, p => argP sg t k (p + len1 sg t p)
theorem argP_succ {sg t : List Int} : ∀ k p, argP sg t (k + 1) p = argP sg t k p + len1 sg t (argP sg t k p)
  | 0, _ => rfl
  | k + 1, p => by
    show argP sg t (k + 1) (p + len1 sg t p) = _
    rw [argP_succ k]
    rfl
theorem argP_mono {sg t : List Int} {p k : Nat} : ∀ {k' : Nat}, k ≤ k' → argP sg t k p ≤ argP sg t k' p := by
  intro k' h
  induction k' with
  | zero => rw [Nat.le_zero.1 h]; exact Nat.le_refl _
  | succ k' ih =>
    by_cases e : k = k' + 1
    · rw [e]; exact Nat.le_refl _
    · have := ih (by omega)
      rw [argP_succ]
      omega
theorem argP_scan {sg t : List Int} : ∀ {k q p i : Nat}, scan sg q (t.drop p) = some i → k ≤ q → scan sg k (t.drop p) = some (argP sg t k p - p) ∧ p ≤ argP sg t k p ∧ argP sg t k p ≤ p + i := by
  intro k
  induction k with
  | zero => intro q p i _ _; exact ⟨by rw [scan_zero]; simp [argP], Nat.le_refl _, by simp [argP]⟩
  | succ k ih =>
    intro q p i h hk
    obtain ⟨q, rfl⟩ : ∃ q', q = q' + 1 := ⟨q - 1, by omega⟩
    obtain ⟨j, e1, e2, e3, e4⟩ := scan_first h
    have hj := len1_eq e1
    obtain ⟨a1, a2, a3⟩ := ih e4 (show k ≤ q by omega)
    have ea : argP sg t (k + 1) p = argP sg t k (p + j) := by show argP sg t k (p + len1 sg t p) = _; rw [hj]
    have hsc : scan sg (k + 1) (t.drop p) = some (argP sg t (k + 1) p - p) := by
      have hx := scan_cat (l := (t.drop p).take j) (l' := t.drop (p + j)) (q := 1) (q' := k) (j := argP sg t k (p + j) - (p + j))
        (by have := scan_take e1; rw [this]; have hl := scan_le this; have hl2 := scan_le e1; rw [List.length_take, Nat.min_eq_left hl2]) a1
      have hl2 := scan_le e1
      rw [← List.drop_drop, List.take_append_drop, List.length_take, Nat.min_eq_left hl2, Nat.add_comm 1 k] at hx
      rw [hx, ea]
      congr 1
      omega
    rw [ea] at hsc ⊢
    exact ⟨hsc, by omega, by omega⟩
theorem places_get {sg t : List Int} : ∀ {q p k : Nat}, k < q → (places sg t q p).getD k 0 = (argP sg t k p : Int) := by
  intro q
  induction q with
  | zero => intro p k h; omega
  | succ q ih =>
    intro p k h
    cases k with
    | zero => rfl
    | succ k =>
      show ((p : Int) :: places sg t q (p + len1 sg t p)).getD (k + 1) 0 = _
      rw [List.getD_cons_succ, ih (by omega)]
      rfl
theorem find_arg {sg t : List Int} {at_ : Nat} : ∀ {q p i : Nat}, scan sg q (t.drop p) = some i → p ≤ at_ → at_ < p + i → ∃ k, k < q ∧ argP sg t k p ≤ at_ ∧ at_ < argP sg t k p + len1 sg t (argP sg t k p) := by
  intro q
  induction q with
  | zero => intro p i h h1 h2; rw [scan_zero] at h; injection h; omega
  | succ q ih =>
    intro p i h h1 h2
    obtain ⟨j, e1, e2, e3, e4⟩ := scan_first h
    have hj := len1_eq e1
    by_cases hlt : at_ < p + j
    · exact ⟨0, by omega, h1, by show at_ < p + len1 sg t p; omega⟩
    · obtain ⟨k, k1, k2, k3⟩ := ih e4 (by omega) (by omega)
      have e : argP sg t (k + 1) p = argP sg t k (p + j) := by show argP sg t k (p + len1 sg t p) = _; rw [hj]
      exact ⟨k + 1, by omega, by rw [e]; exact k2, by rw [e]; exact k3⟩

/-- the number of arguments of what begins at a place -/
def arN (sg t : List Int) (p : Nat) : Nat := (ar sg (t.getD p 0)).toNat
/-- the way from a place down to another one: what is above it, and the indexes of the arguments -/
inductive Trail (sg t : List Int) (at_ : Nat) : Nat → List Int → List Int → Prop
  | here : Trail sg t at_ at_ [] []
  | down {p k : Nat} {ab pa : List Int} (h1 : p < at_) (h2 : k < arN sg t p) (h3 : argP sg t k (p + 1) ≤ at_) (h4 : at_ < argP sg t k (p + 1) + len1 sg t (argP sg t k (p + 1))) (h5 : p < argP sg t k (p + 1)) (h6 : at_ < p + len1 sg t p) (hw : Trail sg t at_ (argP sg t k (p + 1)) ab pa) : Trail sg t at_ p ((p : Int) :: ab) ((k : Int) :: pa)
theorem head_scan {sg t : List Int} (h : termOkB sg t = true) {p : Nat} (hp : p < t.length) : ¬ ar sg (t.getD p 0) < 0 ∧ ∃ i, len1 sg t p = i + 1 ∧ scan sg (arN sg t p) (t.drop (p + 1)) = some i := by
  obtain ⟨i, e, _, h1, h2⟩ := scan_args (term_at h hp).1
  exact ⟨h1, i, e, h2⟩
theorem arg_at {sg t : List Int} (h : termOkB sg t = true) {p : Nat} (hp : p < t.length) {k : Nat} (hk : k < arN sg t p) : p < argP sg t k (p + 1) ∧ argP sg t k (p + 1) + len1 sg t (argP sg t k (p + 1)) ≤ p + len1 sg t p ∧ argP sg t k (p + 1) < t.length := by
  obtain ⟨_, i, e, hs⟩ := head_scan h hp
  obtain ⟨_, a2, _⟩ := argP_scan hs (Nat.le_of_lt hk)
  obtain ⟨_, _, b3⟩ := argP_scan hs hk
  rw [argP_succ] at b3
  have hm := argP_scan hs (Nat.le_of_lt hk)
  have hl := (term_at h hp).2.2
  refine ⟨by omega, by omega, ?_⟩
  by_cases hx : argP sg t k (p + 1) < p + 1 + i
  · omega
  · exfalso
    have hsc := argP_scan hs hk
    have h0 := argP_succ (sg := sg) (t := t) k (p + 1)
    have hpos : scan sg (arN sg t p) (t.drop (p + 1)) = some (argP sg t k (p + 1) - (p + 1)) := by rw [hs]; congr 1; omega
    obtain ⟨i', _, s1, s2⟩ := scan_split (p := k) (q := arN sg t p - k - 1 + 1) (l := t.drop (p + 1)) (j := i) (by rw [← hs]; congr 1; omega)
    rw [hm.1] at s1
    injection s1 with s1
    have := scan_pos s2
    omega
theorem way_ex {sg t : List Int} (h : termOkB sg t = true) {at_ : Nat} (hat : at_ < t.length) : ∀ (n p : Nat), at_ - p ≤ n → p ≤ at_ → at_ < p + len1 sg t p → ∃ ab pa, Trail sg t at_ p ab pa := by
  intro n
  induction n with
  | zero =>
    intro p hn hp _
    obtain rfl : p = at_ := by omega
    exact ⟨[], [], .here⟩
  | succ n ih =>
    intro p hn hp hl
    by_cases he : p = at_
    · subst he; exact ⟨[], [], .here⟩
    · obtain ⟨_, i, e, hs⟩ := head_scan h (show p < t.length by omega)
      obtain ⟨k, k1, k2, k3⟩ := find_arg hs (show p + 1 ≤ at_ by omega) (by omega)
      have hlt := (arg_at h (show p < t.length by omega) k1).1
      obtain ⟨ab, pa, hw⟩ := ih _ (by omega) k2 k3
      exact ⟨_, _, .down (by omega) k1 k2 k3 hlt hl hw⟩
theorem root_len {sg t : List Int} (h : termOkB sg t = true) : len1 sg t 0 = t.length := by
  have := (term_parts h).2.2
  exact len1_eq (by simpa using this)
theorem way_root {sg t : List Int} (h : termOkB sg t = true) {at_ : Nat} (hat : at_ < t.length) : ∃ ab pa, Trail sg t at_ 0 ab pa :=
  way_ex h hat at_ 0 (by omega) (by omega) (by rw [root_len h]; omega)
theorem Trail.here_eq {sg t : List Int} {at_ : Nat} {ab pa : List Int} (h : Trail sg t at_ at_ ab pa) : ab = [] ∧ pa = [] := by
  cases h with
  | here => exact ⟨rfl, rfl⟩
  | down h1 => omega
theorem arg_one {sg t : List Int} {p at_ k k' : Nat} (h3 : argP sg t k p ≤ at_) (h4 : at_ < argP sg t k p + len1 sg t (argP sg t k p)) (h3' : argP sg t k' p ≤ at_) (h4' : at_ < argP sg t k' p + len1 sg t (argP sg t k' p)) : k = k' := by
  rcases Nat.lt_trichotomy k k' with h | h | h
  · have := argP_mono (sg := sg) (t := t) (p := p) (show k + 1 ≤ k' by omega)
    rw [argP_succ] at this
    omega
  · exact h
  · have := argP_mono (sg := sg) (t := t) (p := p) (show k' + 1 ≤ k by omega)
    rw [argP_succ] at this
    omega
theorem Trail.one {sg t : List Int} {at_ p : Nat} {ab pa : List Int} (h : Trail sg t at_ p ab pa) : ∀ {ab' pa' : List Int}, Trail sg t at_ p ab' pa' → ab = ab' ∧ pa = pa' := by
  induction h with
  | here => intro ab' pa' h'; obtain ⟨rfl, rfl⟩ := h'.here_eq; exact ⟨rfl, rfl⟩
  | @down p k ab pa h1 h2 h3 h4 h5 h6 hw ih =>
    intro ab' pa' h'
    cases h' with
    | here => omega
    | @down _ k' ab' pa' g1 g2 g3 g4 g5 g6 gw =>
      obtain rfl := arg_one h3 h4 g3 g4
      obtain ⟨rfl, rfl⟩ := ih gw
      exact ⟨rfl, rfl⟩
theorem Trail.len {sg t : List Int} {at_ p : Nat} {ab pa : List Int} (h : Trail sg t at_ p ab pa) : ab.length = pa.length := by
  induction h with
  | here => rfl
  | down _ _ _ _ _ _ _ ih => simp [ih]
theorem Trail.le {sg t : List Int} {at_ p : Nat} {ab pa : List Int} (h : Trail sg t at_ p ab pa) : p ≤ at_ ∧ pa.length ≤ at_ - p := by
  induction h with
  | here => simp
  | down h1 _ _ _ h5 _ _ ih => simp only [List.length_cons]; omega

/-- of the n places from p on those that a place is below -/
def upTo (sg t : List Int) (at_ : Nat) : Nat → Nat → List Int
  | _, 0 => []
  | p, n + 1 => (if at_ < p + len1 sg t p then [(p : Int)] else []) ++ upTo sg t at_ (p + 1) n
theorem upTo_add {sg t : List Int} {at_ : Nat} : ∀ n p m, upTo sg t at_ p (n + m) = upTo sg t at_ p n ++ upTo sg t at_ (p + n) m
  | 0, p, m => by simp [upTo]
  | n + 1, p, m => by
    rw [show n + 1 + m = (n + m) + 1 by omega]
    simp only [upTo]
    rw [upTo_add n (p + 1) m, List.append_assoc, show p + 1 + n = p + (n + 1) by omega]
theorem upTo_snoc {sg t : List Int} {at_ : Nat} (n p : Nat) : upTo sg t at_ p (n + 1) = upTo sg t at_ p n ++ (if at_ < (p + n) + len1 sg t (p + n) then [((p + n : Nat) : Int)] else []) := by
  rw [upTo_add]
  simp [upTo]
theorem upTo_skip {sg t : List Int} {at_ : Nat} : ∀ n p, (∀ r, p ≤ r → r < p + n → ¬ at_ < r + len1 sg t r) → upTo sg t at_ p n = []
  | 0, _, _ => rfl
  | n + 1, p, h => by
    simp only [upTo]
    rw [if_neg (h p (by omega) (by omega)), upTo_skip n (p + 1) (fun r h1 h2 => h r (by omega) (by omega))]
    rfl
def aboveL (sg t : List Int) (at_ : Nat) : List Int := upTo sg t at_ 0 at_
theorem Trail.above {sg t : List Int} (hok : termOkB sg t = true) {at_ p : Nat} (hat : at_ < t.length) {ab pa : List Int} (h : Trail sg t at_ p ab pa) : upTo sg t at_ p (at_ - p) = ab := by
  induction h with
  | here => simp [upTo]
  | @down p k ab pa h1 h2 h3 h4 h5 h6 hw ih =>
    obtain ⟨_, i, e, hs⟩ := head_scan hok (show p < t.length by omega)
    obtain ⟨s1, s2, s3⟩ := argP_scan hs (Nat.le_of_lt h2)
    rw [show at_ - p = (argP sg t k (p + 1) - (p + 1)) + (at_ - argP sg t k (p + 1)) + 1 by omega]
    simp only [upTo]
    rw [if_pos h6, upTo_add, upTo_skip (argP sg t k (p + 1) - (p + 1)), show p + 1 + (argP sg t k (p + 1) - (p + 1)) = argP sg t k (p + 1) by omega, ih]
    · rfl
    · intro r r1 r2 r3
      have := (nest s1 r1 (by omega)).1
      omega
theorem Trail.aboveL {sg t : List Int} (hok : termOkB sg t = true) {at_ : Nat} (hat : at_ < t.length) {ab pa : List Int} (h : Trail sg t at_ 0 ab pa) : aboveL sg t at_ = ab := h.above hok hat

/-- where a path leads to, or -1 -/
def walkI (sg t : List Int) : Nat → List Int → Int
  | p, [] => (p : Int)
  | p, s :: r => if 0 ≤ s ∧ s < ar sg (t.getD p 0) then walkI sg t (argP sg t s.toNat (p + 1)) r else -1
theorem walk_step {sg t : List Int} {p k : Nat} {r : List Int} (h : k < arN sg t p) : walkI sg t p ((k : Int) :: r) = walkI sg t (argP sg t k (p + 1)) r := by
  unfold arN at h
  simp only [walkI]
  rw [if_pos (by omega), Int.toNat_natCast]
theorem walk_no {sg t : List Int} {p : Nat} {s : Int} {r : List Int} (h : ¬ (0 ≤ s ∧ s < ar sg (t.getD p 0))) : walkI sg t p (s :: r) = -1 := by
  simp only [walkI]
  rw [if_neg h]
theorem Trail.walk {sg t : List Int} {at_ p : Nat} {ab pa : List Int} (h : Trail sg t at_ p ab pa) : walkI sg t p pa = (at_ : Int) := by
  induction h with
  | here => rfl
  | down _ h2 _ _ _ _ _ ih => rw [walk_step h2, ih]
theorem Trail.prefix_ {sg t : List Int} {at_ p : Nat} {ab pa : List Int} (h : Trail sg t at_ p ab pa) : ∀ i, i < ab.length → ∃ r : Nat, ab.getD i 0 = (r : Int) ∧ walkI sg t p (pa.take i) = (r : Int) ∧ r < at_ ∧ at_ < r + len1 sg t r := by
  induction h with
  | here => intro i hi; simp at hi
  | @down p k ab pa h1 h2 h3 h4 h5 h6 hw ih =>
    intro i hi
    cases i with
    | zero => exact ⟨p, rfl, rfl, h1, h6⟩
    | succ i =>
      obtain ⟨r, e1, e2, e3, e4⟩ := ih i (by simpa using hi)
      exact ⟨r, by rw [List.getD_cons_succ, e1], by rw [List.take_succ_cons, walk_step h2, e2], e3, e4⟩

/-- the number of steps from the root to a place -/
def pl (sg t : List Int) (at_ : Nat) : Nat := (aboveL sg t at_).length
def deepN (sg t : List Int) : Nat → Nat
  | 0 => 0
  | k + 1 => if pl sg t (deepN sg t k) < pl sg t k then k else deepN sg t k
theorem deep_le {sg t : List Int} : ∀ k, deepN sg t k ≤ k - 1
  | 0 => by simp [deepN]
  | k + 1 => by
    have := deep_le (sg := sg) (t := t) k
    simp only [deepN]
    split <;> omega
theorem deep_most {sg t : List Int} : ∀ k r, r < k → pl sg t r ≤ pl sg t (deepN sg t k)
  | 0, r, h => by omega
  | k + 1, r, h => by
    have ih := deep_most (sg := sg) (t := t) k r
    simp only [deepN]
    by_cases e : r = k
    · subst e; split <;> omega
    · have := ih (by omega)
      split <;> omega
theorem over_ge {sg t : List Int} {g : Nat → Int} : ∀ {q k p : Nat}, k < q → g (argP sg t k p) ≤ maxOver sg t g q p := by
  intro q
  induction q with
  | zero => intro k p h; omega
  | succ q ih =>
    intro k p h
    cases k with
    | zero => simp only [maxOver, argP]; omega
    | succ k =>
      have := ih (k := k) (p := p + len1 sg t p) (by omega)
      simp only [maxOver, argP]
      omega
theorem over_nonneg {sg t : List Int} {g : Nat → Int} : ∀ (q p : Nat), 0 ≤ maxOver sg t g q p
  | 0, _ => by simp [maxOver]
  | q + 1, p => by
    have := over_nonneg (sg := sg) (t := t) (g := g) q (p + len1 sg t p)
    simp only [maxOver]
    omega
theorem over_max {sg t : List Int} {g : Nat → Int} : ∀ (q p : Nat), maxOver sg t g q p = 0 ∨ ∃ k, k < q ∧ g (argP sg t k p) = maxOver sg t g q p
  | 0, _ => .inl rfl
  | q + 1, p => by
    simp only [maxOver]
    rcases Int.le_total (g p) (maxOver sg t g q (p + len1 sg t p)) with h | h
    · rw [Int.max_eq_right h]
      rcases over_max (sg := sg) (t := t) (g := g) q (p + len1 sg t p) with e | ⟨k, k1, k2⟩
      · exact .inl e
      · exact .inr ⟨k + 1, by omega, k2⟩
    · rw [Int.max_eq_left h]
      exact .inr ⟨0, by omega, rfl⟩
theorem Trail.depth {sg t : List Int} {at_ p : Nat} {ab pa : List Int} (h : Trail sg t at_ p ab pa) : ∀ f, pa.length < f → (pa.length : Int) + 1 ≤ dep sg t f p := by
  induction h with
  | here =>
    intro f hf
    obtain ⟨f, rfl⟩ : ∃ f', f = f' + 1 := ⟨f - 1, by simp at hf; omega⟩
    have := over_nonneg (sg := sg) (t := t) (g := dep sg t f) (ar sg (t.getD at_ 0)).toNat (at_ + 1)
    simp only [dep, List.length_nil]
    omega
  | @down p k ab pa h1 h2 h3 h4 h5 h6 hw ih =>
    intro f hf
    simp only [List.length_cons] at hf ⊢
    obtain ⟨f, rfl⟩ : ∃ f', f = f' + 1 := ⟨f - 1, by omega⟩
    have e := ih f (by omega)
    have e2 := over_ge (sg := sg) (t := t) (g := dep sg t f) (p := p + 1) h2
    unfold arN at e2
    simp only [dep]
    omega
theorem depth_way {sg t : List Int} (hok : termOkB sg t = true) : ∀ f p, p < t.length → ∃ at_ ab pa, p ≤ at_ ∧ at_ < p + len1 sg t p ∧ Trail sg t at_ p ab pa ∧ (pa.length : Int) + 1 = dep sg t (f + 1) p := by
  intro f
  induction f with
  | zero =>
    intro p hp
    refine ⟨p, [], [], Nat.le_refl _, by have := (term_at hok hp).2.1; omega, .here, ?_⟩
    have : dep sg t (0 + 1) p = 1 := by
      have e : dep sg t (0 + 1) p = maxOver sg t (dep sg t 0) (ar sg (t.getD p 0)).toNat (p + 1) + 1 := rfl
      have h1 := (dep_bd (sg := sg) (t := t) (0 + 1) p).2
      have h0 := over_nonneg (sg := sg) (t := t) (g := dep sg t 0) (ar sg (t.getD p 0)).toNat (p + 1)
      rw [e] at h1 ⊢
      omega
    rw [this]; rfl
  | succ f ih =>
    intro p hp
    have hl := (term_at hok hp).2
    rcases over_max (sg := sg) (t := t) (g := dep sg t (f + 1)) (arN sg t p) (p + 1) with e | ⟨k, k1, k2⟩
    · refine ⟨p, [], [], Nat.le_refl _, by omega, .here, ?_⟩
      rw [show dep sg t (f + 1 + 1) p = maxOver sg t (dep sg t (f + 1)) (arN sg t p) (p + 1) + 1 from rfl, e]
      rfl
    · obtain ⟨a1, a2, a3⟩ := arg_at hok hp k1
      obtain ⟨at_, ab, pa, b1, b2, b3, b4⟩ := ih _ a3
      refine ⟨at_, _, _, by omega, by omega, .down (by omega) k1 b1 b2 a1 (by omega) b3, ?_⟩
      rw [show dep sg t (f + 1 + 1) p = maxOver sg t (dep sg t (f + 1)) (arN sg t p) (p + 1) + 1 from rfl, ← k2, ← b4]
      simp
/-- the deepest position's path is one shorter than the term is deep -/
theorem deep_depth {sg t : List Int} (hok : termOkB sg t = true) : (pl sg t (deepN sg t t.length) : Int) = depthI sg t - 1 := by
  have h1 := (term_len hok).1
  have hd := deep_le (sg := sg) (t := t) t.length
  have hD : depthI sg t = dep sg t t.length 0 := by unfold depthI; rw [if_pos hok]
  rw [hD]
  obtain ⟨ab, pa, hw⟩ := way_root hok (show deepN sg t t.length < t.length by omega)
  have e1 := hw.depth t.length (by have := hw.le; omega)
  have e2 : pl sg t (deepN sg t t.length) = pa.length := by unfold pl; rw [hw.aboveL hok (by omega), hw.len]
  obtain ⟨f, hf⟩ : ∃ f, t.length = f + 1 := ⟨t.length - 1, by omega⟩
  obtain ⟨at_, ab', pa', b1, b2, b3, b4⟩ := depth_way hok f 0 (by omega)
  have hat : at_ < t.length := by rw [root_len hok] at b2; omega
  have e3 : pl sg t at_ = pa'.length := by unfold pl; rw [b3.aboveL hok hat, b3.len]
  have e4 := deep_most (sg := sg) (t := t) t.length at_ hat
  rw [← hf] at b4
  omega
end Go.Proofs.Ytkmhnkljigncmaa.posMath
end

section
/-
  PLAIN MATHEMATICS of the variables of a term: a number put into a rising list ('into'), all of them ('vars'); sorted and compacted it is the same list. Conditions: none. By an AI agent.
-/
namespace Go.Proofs.Ytkmhnkljigncmaa.varsMath
open Go.Proofs.Ytkmhnkljigncmaa.term Go.Proofs.Ytkmhnkljigncmaa.termOk

/-- with one more, rising -/
def into : List Int → Int → List Int
  | [], n => [n]
  | y :: r, n => if y < n then y :: into r n else if y = n then y :: r else n :: y :: r
theorem into_end : ∀ {xs : List Int} {n : Int}, (∀ j, j < xs.length → xs.getD j 0 < n) → into xs n = xs ++ [n]
  | [], _, _ => rfl
  | y :: r, n, h => by
    have h0 : y < n := by simpa using h 0 (by simp)
    rw [into, if_pos h0, into_end (fun j hj => by simpa using h (j + 1) (by simpa using hj))]
    rfl
theorem into_at : ∀ {xs : List Int} {n : Int} {k : Nat}, k < xs.length → (∀ j, j < k → xs.getD j 0 < n) → xs.getD k 0 = n → into xs n = xs
  | [], _, _, hk, _, _ => absurd hk (Nat.not_lt_zero _)
  | y :: r, n, 0, _, _, e => by
    have e : y = n := by simpa using e
    rw [into, if_neg (by omega), if_pos e]
  | y :: r, n, k + 1, hk, h, e => by
    have h0 : y < n := by simpa using h 0 (by simp)
    rw [into, if_pos h0, into_at (k := k) (by simpa using hk) (fun j hj => by simpa using h (j + 1) (by omega)) (by simpa using e)]
theorem into_mid : ∀ {xs : List Int} {n : Int} {k : Nat}, k < xs.length → (∀ j, j < k → xs.getD j 0 < n) → n < xs.getD k 0 → into xs n = (xs.take k ++ [n]) ++ xs.drop k
  | [], _, _, hk, _, _ => absurd hk (Nat.not_lt_zero _)
  | y :: r, n, 0, _, _, e => by
    have e : n < y := by simpa using e
    rw [into, if_neg (by omega), if_neg (by omega)]
    rfl
  | y :: r, n, k + 1, hk, h, e => by
    have h0 : y < n := by simpa using h 0 (by simp)
    rw [into, if_pos h0, into_mid (k := k) (by simpa using hk) (fun j hj => by simpa using h (j + 1) (by omega)) (by simpa using e)]
    rfl
theorem into_mem {xs : List Int} {n x : Int} : x ∈ into xs n ↔ x = n ∨ x ∈ xs := by
  induction xs with
  | nil => simp [into]
  | cons y r ih =>
    rw [into]
    split
    · rw [List.mem_cons, ih, List.mem_cons]
      constructor
      · rintro (h | h | h)
        · exact .inr (.inl h)
        · exact .inl h
        · exact .inr (.inr h)
      · rintro (h | h | h)
        · exact .inr (.inl h)
        · exact .inl h
        · exact .inr (.inr h)
    · split
      · rename_i h1 h2
        subst h2
        simp
      · simp
theorem into_len (xs : List Int) (n : Int) : (into xs n).length ≤ xs.length + 1 := by
  induction xs with
  | nil => simp [into]
  | cons y r ih =>
    rw [into]
    split
    · simp; omega
    · split <;> simp
/-- rising -/
abbrev Rises (xs : List Int) : Prop := xs.Pairwise (· < ·)
theorem into_rises {xs : List Int} {n : Int} (h : Rises xs) : Rises (into xs n) := by
  induction xs with
  | nil => simp [into, Rises]
  | cons y r ih =>
    have h1 := List.pairwise_cons.1 h
    rw [into]
    split
    · rename_i hy
      refine List.pairwise_cons.2 ⟨fun z hz => ?_, ih h1.2⟩
      rcases into_mem.1 hz with e | e
      · omega
      · exact h1.1 z e
    · split
      · exact h
      · rename_i a b
        refine List.pairwise_cons.2 ⟨fun z hz => ?_, h⟩
        rcases List.mem_cons.1 hz with e | e
        · omega
        · have := h1.1 z e; omega
/-- two rising lists of the same numbers are one -/
theorem rises_unique : ∀ {xs ys : List Int}, Rises xs → Rises ys → (∀ x, x ∈ xs ↔ x ∈ ys) → xs = ys
  | [], [], _, _, _ => rfl
  | [], y :: r, _, _, h => by have := (h y).2 (List.mem_cons_self ..); cases this
  | x :: r, [], _, _, h => by have := (h x).1 (List.mem_cons_self ..); cases this
  | x :: r, y :: q, hx, hy, h => by
    have h1 := List.pairwise_cons.1 hx
    have h2 := List.pairwise_cons.1 hy
    have e : x = y := by
      have a := (h x).1 (List.mem_cons_self ..)
      have b := (h y).2 (List.mem_cons_self ..)
      rcases List.mem_cons.1 a with a | a
      · exact a
      · rcases List.mem_cons.1 b with b | b
        · exact b.symm
        · have := h1.1 y b
          have := h2.1 x a
          omega
    subst e
    rw [rises_unique h1.2 h2.2 (fun z => ?_)]
    constructor
    · intro hz
      rcases List.mem_cons.1 ((h z).1 (List.mem_cons_of_mem _ hz)) with e | e
      · have := h1.1 z hz; omega
      · exact e
    · intro hz
      rcases List.mem_cons.1 ((h z).2 (List.mem_cons_of_mem _ hz)) with e | e
      · have := h2.1 z hz; omega
      · exact e

/-- the variables' numbers, in the order in which they stand -/
def negs (t : List Int) : List Int := (t.filter fun n => decide (n < 0)).map fun n => -1 - n
/-- the variables' numbers, rising -/
def vars (t : List Int) : List Int := (negs t).foldl into []
theorem negs_snoc_yes {t : List Int} {x : Int} (h : x < 0) : negs (t ++ [x]) = negs t ++ [-1 - x] := by simp [negs, h]
theorem negs_snoc_no {t : List Int} {x : Int} (h : ¬ x < 0) : negs (t ++ [x]) = negs t := by simp [negs, h]
theorem take_snoc {t : List Int} {k : Nat} (hk : k < t.length) {x : Int} (hx : t.getD k 0 = x) : t.take (k + 1) = t.take k ++ [x] := by
  rw [List.take_succ_eq_append_getElem hk, ← hx]
  simp [List.getD, hk]
theorem negs_yes {t : List Int} {k : Nat} {x : Int} (hk : k < t.length) (hx : t.getD k 0 = x) (h : x < 0) : negs (t.take (k + 1)) = negs (t.take k) ++ [-1 - x] := by rw [take_snoc hk hx, negs_snoc_yes h]
theorem negs_no {t : List Int} {k : Nat} {x : Int} (hk : k < t.length) (hx : t.getD k 0 = x) (h : ¬ x < 0) : negs (t.take (k + 1)) = negs (t.take k) := by rw [take_snoc hk hx, negs_snoc_no h]
theorem vars_yes {t : List Int} {k : Nat} {x : Int} (hk : k < t.length) (hx : t.getD k 0 = x) (h : x < 0) : vars (t.take (k + 1)) = into (vars (t.take k)) (-1 - x) := by
  unfold vars; rw [negs_yes hk hx h, List.foldl_append]; rfl
theorem vars_no {t : List Int} {k : Nat} {x : Int} (hk : k < t.length) (hx : t.getD k 0 = x) (h : ¬ x < 0) : vars (t.take (k + 1)) = vars (t.take k) := by unfold vars; rw [negs_no hk hx h]
theorem negs_len (t : List Int) : (negs t).length ≤ t.length := by unfold negs; rw [List.length_map]; exact List.length_filter_le _ _
theorem fold_len : ∀ (l xs : List Int), (l.foldl into xs).length ≤ xs.length + l.length
  | [], _ => by simp
  | n :: l, xs => by have := fold_len l (into xs n); have := into_len xs n; simp; omega
theorem vars_len (t : List Int) : (vars t).length ≤ t.length := by have := fold_len (negs t) []; have := negs_len t; unfold vars; simp at *; omega
theorem fold_mem {x : Int} : ∀ {l xs : List Int}, x ∈ l.foldl into xs ↔ x ∈ xs ∨ x ∈ l
  | [], _ => by simp
  | n :: l, xs => by
    rw [List.foldl_cons, fold_mem, into_mem, List.mem_cons]
    constructor
    · rintro ((h | h) | h)
      · exact .inr (.inl h)
      · exact .inl h
      · exact .inr (.inr h)
    · rintro (h | h | h)
      · exact .inl (.inr h)
      · exact .inl (.inl h)
      · exact .inr h
theorem fold_rises : ∀ {l xs : List Int}, Rises xs → Rises (l.foldl into xs)
  | [], _, h => h
  | n :: l, xs, h => by rw [List.foldl_cons]; exact fold_rises (into_rises h)
theorem vars_mem {t : List Int} {x : Int} : x ∈ vars t ↔ x ∈ negs t := by unfold vars; rw [fold_mem]; simp
theorem vars_rises (t : List Int) : Rises (vars t) := fold_rises List.Pairwise.nil

/-! ### sorted and compacted -/
/-- what VarsOf answers -/
def varsI (sg t : List Int) : List Int := if termOkB sg t = true then vars t else []
theorem varsI_len {sg t : List Int} {m : Nat} (h : t.length = m) (hm : m ≤ 1048576) : (varsI sg t).length ≤ 1048576 := by
  unfold varsI
  split
  · have := vars_len t; omega
  · simp
end Go.Proofs.Ytkmhnkljigncmaa.varsMath
end

section
/-
  PLAIN MATHEMATICS of replacing: a list with each variable replaced ('fillL'), by a substitution ('gives'), by a shift; terms stay terms. Conditions: none. By an AI agent.
-/
namespace Go.Proofs.Ytkmhnkljigncmaa.fillMath
open Go.Proofs.Ytkmhnkljigncmaa.sig Go.Proofs.Ytkmhnkljigncmaa.term Go.Proofs.Ytkmhnkljigncmaa.termOk Go.Proofs.Ytkmhnkljigncmaa.termFacts Go.Proofs.Ytkmhnkljigncmaa.varsMath

/-- the term that is variable i -/
def vt (i : Nat) : List Int := [-1 - (i : Int)]
/-- one number replaced -/
def rep (L : Nat → List Int) (n : Int) : List Int := if 0 ≤ n then [n] else L (-1 - n).toNat
/-- a list with each variable replaced -/
def fillL (L : Nat → List Int) (t : List Int) : List Int := t.flatMap (rep L)
theorem rep_sym {L : Nat → List Int} {n : Int} (h : 0 ≤ n) : rep L n = [n] := by unfold rep; rw [if_pos h]
theorem rep_var {L : Nat → List Int} {n : Int} (h : n < 0) : rep L n = L (-1 - n).toNat := by unfold rep; rw [if_neg (by omega)]
theorem fill_nil (L : Nat → List Int) : fillL L [] = [] := rfl
theorem fill_cons (L : Nat → List Int) (x : Int) (r : List Int) : fillL L (x :: r) = rep L x ++ fillL L r := by simp [fillL]
theorem fill_append (L : Nat → List Int) (a b : List Int) : fillL L (a ++ b) = fillL L a ++ fillL L b := by simp [fillL]
theorem fill_take {L : Nat → List Int} {t : List Int} {k : Nat} {x : Int} (hk : k < t.length) (hx : t.getD k 0 = x) : fillL L (t.take (k + 1)) = fillL L (t.take k) ++ rep L x := by
  rw [take_snoc hk hx, fill_append, fill_cons, fill_nil, List.append_nil]
theorem rep_len {L : Nat → List Int} {M : Nat} (h1 : 1 ≤ M) (hM : ∀ i, (L i).length ≤ M) (n : Int) : (rep L n).length ≤ M := by
  unfold rep
  split
  · simpa using h1
  · exact hM _
theorem fill_len {L : Nat → List Int} {M : Nat} (h1 : 1 ≤ M) (hM : ∀ i, (L i).length ≤ M) : ∀ t : List Int, (fillL L t).length ≤ t.length * M
  | [] => by simp [fill_nil]
  | x :: r => by
    have h2 := rep_len h1 hM x
    have h3 := fill_len h1 hM r
    rw [fill_cons, List.length_append, List.length_cons, Nat.add_mul]
    omega
/-- nothing grows shorter -/
theorem fill_ge {L : Nat → List Int} (h1 : ∀ i, 1 ≤ (L i).length) : ∀ t : List Int, t.length ≤ (fillL L t).length
  | [] => by simp
  | x :: r => by
    have h3 := fill_ge h1 r
    have h2 : 1 ≤ (rep L x).length := by
      unfold rep
      split
      · simp
      · exact h1 _
    rw [fill_cons, List.length_append, List.length_cons]
    omega
theorem fill_ext {L L' : Nat → List Int} : ∀ {t : List Int}, (∀ x ∈ t, x < 0 → L (-1 - x).toNat = L' (-1 - x).toNat) → fillL L t = fillL L' t
  | [], _ => rfl
  | x :: r, h => by
    rw [fill_cons, fill_cons, fill_ext (fun y hy => h y (List.mem_cons_of_mem _ hy))]
    congr 1
    unfold rep
    split
    · rfl
    · exact h x (List.mem_cons_self ..) (by omega)
/-- one after the other -/
theorem fill_fill {L U : Nat → List Int} : ∀ t : List Int, fillL U (fillL L t) = fillL (fun i => fillL U (L i)) t
  | [] => rfl
  | x :: r => by
    rw [fill_cons, fill_append, fill_cons, fill_fill r]
    congr 1
    unfold rep
    by_cases h : 0 ≤ x
    · rw [if_pos h, if_pos h, fill_cons, fill_nil, List.append_nil, rep_sym h]
    · rw [if_neg h, if_neg h]

/-! ### terms stay terms -/
theorem scan_join {sg : List Int} : ∀ {l l' : List Int} {q q' j : Nat}, scan sg q l = some l.length → scan sg q' l' = some j → scan sg (q + q') (l ++ l') = some (l.length + j)
  | [], l', q, q', j, h, h' => by
    cases q with
    | zero => simpa using h'
    | succ q => rw [scan_nil] at h; cases h
  | x :: r, l', q, q', j, h, h' => by
    cases q with
    | zero => rw [scan_zero] at h; simp at h
    | succ q =>
      by_cases ha : ar sg x < 0
      · rw [scan_bad ha] at h; cases h
      · rw [scan_step ha] at h
        obtain ⟨i, hi, e⟩ := Option.map_eq_some_iff.1 h
        have e2 : i = r.length := by simp at e; omega
        subst e2
        have h2 := scan_join hi h'
        rw [show q + 1 + q' = (q + q') + 1 by omega, List.cons_append, scan_step ha, show q + q' + (ar sg x).toNat = q + (ar sg x).toNat + q' by omega, h2]
        simp
        omega
theorem scan_fill {sg : List Int} {L : Nat → List Int} : ∀ {t : List Int} {q : Nat}, scan sg q t = some t.length → (∀ x ∈ t, x < 0 → scan sg 1 (L (-1 - x).toNat) = some (L (-1 - x).toNat).length) → scan sg q (fillL L t) = some (fillL L t).length
  | [], q, h, _ => h
  | x :: r, q, h, hL => by
    cases q with
    | zero => rw [scan_zero] at h; simp at h
    | succ q =>
      by_cases ha : ar sg x < 0
      · rw [scan_bad ha] at h; cases h
      · rw [scan_step ha] at h
        obtain ⟨i, hi, e⟩ := Option.map_eq_some_iff.1 h
        have e2 : i = r.length := by simp at e; omega
        subst e2
        have h2 := scan_fill hi (fun y hy => hL y (List.mem_cons_of_mem _ hy))
        rw [fill_cons]
        by_cases hx : 0 ≤ x
        · rw [rep_sym hx, List.singleton_append, scan_step ha, h2]
          simp
        · have h3 := hL x (List.mem_cons_self ..) (by omega)
          have h0 : ar sg x = 0 := by
            unfold ar at ha ⊢
            split
            · rfl
            · rename_i h4
              rw [if_neg h4] at ha
              split at ha
              · omega
              · omega
          rw [h0] at h2
          rw [rep_var (by omega), Nat.add_comm q 1]
          have h4 := scan_join h3 (by simpa using h2)
          rw [h4, List.length_append]
theorem fill_term {sg t : List Int} {L : Nat → List Int} (h : termOkB sg t = true) (hL : ∀ x ∈ t, x < 0 → termOkB sg (L (-1 - x).toNat) = true) (h60 : (fillL L t).length ≤ 60) : termOkB sg (fillL L t) = true :=
  term_mk (term_parts h).1 h60 (scan_fill (term_parts h).2.2 (fun x hx h0 => (term_parts (hL x hx h0)).2.2))
theorem var_term {sg : List Int} {i : Nat} (hs : sigOkB sg = true) (hi : i < 24) : termOkB sg (vt i) = true := by
  refine term_mk hs (by simp [vt]) ?_
  have h0 : ar sg (-1 - (i : Int)) = 0 := ar_var (by omega)
  show scan sg 1 [-1 - (i : Int)] = some 1
  rw [scan_step (by omega), h0]
  rfl

/-! ### a shift -/
def sh (k x : Int) : Int := if x < 0 then x - k else x
def shiftL (k : Int) (t : List Int) : List Int := t.map (sh k)
def shiftB (k : Int) (t : List Int) : Bool := t.all fun x => decide (-24 ≤ sh k x)
theorem shift_fill {k : Nat} : ∀ t : List Int, fillL (fun i => vt (i + k)) t = shiftL (k : Int) t
  | [] => rfl
  | x :: r => by
    rw [fill_cons, shift_fill r]
    show _ = sh k x :: shiftL k r
    unfold rep sh
    by_cases h : 0 ≤ x
    · rw [if_pos h, if_neg (by omega)]; rfl
    · rw [if_neg h, if_pos (by omega)]
      show [-1 - (((-1 - x).toNat + k : Nat) : Int)] ++ _ = _
      rw [show (-1 - (((-1 - x).toNat + k : Nat) : Int) : Int) = x - k by omega]
      rfl
theorem shift_len (k : Int) (t : List Int) : (shiftL k t).length = t.length := by simp [shiftL]
theorem shift_ok {sg t : List Int} {k : Nat} (h : termOkB sg t = true) : termOkB sg (shiftL (k : Int) t) = shiftB k t := by
  cases hb : shiftB (k : Int) t with
  | true =>
    unfold shiftB at hb
    rw [List.all_eq_true] at hb
    rw [← shift_fill]
    refine fill_term h (fun x hx h0 => ?_) (by rw [shift_fill, shift_len]; exact (term_len h).2)
    have h1 := hb x hx
    have h2 : -24 ≤ x - k := by simpa [sh, h0] using h1
    exact var_term (term_parts h).1 (by omega)
  | false =>
    cases ho : termOkB sg (shiftL (k : Int) t) with
    | false => rfl
    | true =>
      exfalso
      unfold shiftB at hb
      rw [List.all_eq_false] at hb
      obtain ⟨x, hx, h1⟩ := hb
      have h2 := (term_mem ho (x := sh k x) (by unfold shiftL; exact List.mem_map.2 ⟨x, hx, rfl⟩)).1
      simp at h1
      omega
theorem shift_take {k : Int} {t : List Int} {j : Nat} {x : Int} (hk : j < t.length) (hx : t.getD j 0 = x) : shiftL k (t.take (j + 1)) = shiftL k (t.take j) ++ [sh k x] := by
  rw [take_snoc hk hx]
  simp [shiftL]
theorem shiftB_no {k x : Int} {t : List Int} (hx : x ∈ t) (h : sh k x < -24) : shiftB k t = false := by
  unfold shiftB
  rw [List.all_eq_false]
  exact ⟨x, hx, by simp; omega⟩
theorem shiftB_yes {k : Int} {t : List Int} (h : ∀ j, j < t.length → -24 ≤ sh k (t.getD j 0)) : shiftB k t = true := by
  unfold shiftB
  rw [List.all_eq_true]
  intro x hx
  obtain ⟨j, hj, rfl⟩ := List.getElem_of_mem hx
  have := h j hj
  simpa [List.getD, hj] using this
/-- what Shifted answers -/
def shiftedB (sg t : List Int) (k : Int) : Bool := termOkB sg t && decide (0 ≤ k ∧ k ≤ 24) && shiftB k t
def shiftedL (sg t : List Int) (k : Int) : List Int := if shiftedB sg t k = true then shiftL k t else []
theorem shifted_len {sg t : List Int} {k : Int} {m : Nat} (h : t.length = m) (hm : m ≤ 1048576) : (shiftedL sg t k).length ≤ 1048576 := by
  unfold shiftedL
  split
  · rw [shift_len]; omega
  · simp
end Go.Proofs.Ytkmhnkljigncmaa.fillMath
end

section
/-
  PLAIN MATHEMATICS of renaming: the order in which variables stand first ('orderL'), the place in it ('idx'), a term renamed ('renL'). Conditions: none. By an AI agent.
-/
namespace Go.Proofs.Ytkmhnkljigncmaa.renMath
open Go.Proofs.Ytkmhnkljigncmaa.sig Go.Proofs.Ytkmhnkljigncmaa.term Go.Proofs.Ytkmhnkljigncmaa.termOk Go.Proofs.Ytkmhnkljigncmaa.termFacts Go.Proofs.Ytkmhnkljigncmaa.varsMath Go.Proofs.Ytkmhnkljigncmaa.fillMath

/-- the first place of a number -/
def idx : List Int → Int → Nat
  | [], _ => 0
  | y :: r, x => if y = x then 0 else idx r x + 1
theorem idx_lt : ∀ {o : List Int} {x : Int}, x ∈ o → idx o x < o.length
  | y :: r, x, h => by
    rw [idx]
    split
    · simp
    · rename_i h1
      rcases List.mem_cons.1 h with e | e
      · exact absurd e.symm h1
      · have := idx_lt e; simp; omega
theorem idx_not : ∀ {o : List Int} {x : Int}, x ∉ o → idx o x = o.length
  | [], _, _ => rfl
  | y :: r, x, h => by
    have h1 : ¬ y = x := fun e => h (by rw [e]; exact List.mem_cons_self ..)
    rw [idx, if_neg h1, idx_not (fun e => h (List.mem_cons_of_mem _ e))]
    rfl
theorem idx_get : ∀ {o : List Int} {x : Int}, x ∈ o → o.getD (idx o x) 0 = x
  | y :: r, x, h => by
    rw [idx]
    split
    · rename_i h1; simpa using h1
    · rename_i h1
      rcases List.mem_cons.1 h with e | e
      · exact absurd e.symm h1
      · simpa using idx_get e
theorem idx_first : ∀ {o : List Int} {x : Int} {k : Nat}, k < o.length → (∀ j, j < k → o.getD j 0 ≠ x) → o.getD k 0 = x → idx o x = k
  | y :: r, x, 0, _, _, h => by
    have h : y = x := by simpa using h
    rw [idx, if_pos h]
  | y :: r, x, k + 1, hk, hl, h => by
    have h0 : ¬ y = x := by simpa using hl 0 (by omega)
    rw [idx, if_neg h0, idx_first (k := k) (by simpa using hk) (fun j hj => by simpa using hl (j + 1) (by omega)) (by simpa using h)]
theorem idx_app_mem : ∀ {o q : List Int} {x : Int}, x ∈ o → idx (o ++ q) x = idx o x
  | y :: r, q, x, h => by
    rw [List.cons_append, idx, idx]
    split
    · rfl
    · rename_i h1
      rcases List.mem_cons.1 h with e | e
      · exact absurd e.symm h1
      · rw [idx_app_mem e]
theorem idx_app_new {o : List Int} {x : Int} (h : x ∉ o) : idx (o ++ [x]) x = o.length := by
  refine idx_first (by simp) (fun j hj => ?_) (by simp)
  have e : (o ++ [x]).getD j 0 = o[j] := by simp [List.getD, List.getElem?_append_left hj, hj]
  rw [e]
  exact fun e2 => h (by rw [← e2]; exact List.getElem_mem hj)
theorem idx_map {f : Int → Int} (hf : ∀ a b, f a = f b → a = b) : ∀ (o : List Int) (x : Int), idx (o.map f) (f x) = idx o x
  | [], _ => rfl
  | y :: r, x => by
    rw [List.map_cons, idx, idx]
    by_cases h : y = x
    · rw [if_pos h, if_pos (by rw [h])]
    · rw [if_neg h, if_neg (fun e => h (hf _ _ e)), idx_map hf r x]
theorem mem_map_inj {f : Int → Int} (hf : ∀ a b, f a = f b → a = b) {o : List Int} {x : Int} : f x ∈ o.map f ↔ x ∈ o := by
  rw [List.mem_map]
  exact ⟨fun ⟨y, hy, e⟩ => by rw [← hf _ _ e]; exact hy, fun h => ⟨x, h, rfl⟩⟩

/-- with one more, unless it is there -/
def ext (o : List Int) (x : Int) : List Int := if x ∈ o then o else o ++ [x]
/-- with a number's variable, if it is one -/
def extV (o : List Int) (x : Int) : List Int := if x < 0 then ext o x else o
/-- the variables in the order in which they stand first -/
def orderL (t : List Int) : List Int := t.foldl extV []
theorem order_take {t : List Int} {k : Nat} {x : Int} (hk : k < t.length) (hx : t.getD k 0 = x) : orderL (t.take (k + 1)) = extV (orderL (t.take k)) x := by
  unfold orderL
  rw [take_snoc hk hx, List.foldl_append]
  rfl
theorem ext_mem {o : List Int} {x y : Int} : y ∈ ext o x ↔ y = x ∨ y ∈ o := by
  unfold ext
  split
  · rename_i h
    exact ⟨fun e => .inr e, fun e => by rcases e with e | e; exact e ▸ h; exact e⟩
  · rw [List.mem_append, List.mem_singleton, or_comm]
theorem extV_mem {o : List Int} {x y : Int} : y ∈ extV o x ↔ (y = x ∧ x < 0) ∨ y ∈ o := by
  unfold extV
  split
  · rename_i h
    rw [ext_mem]
    exact ⟨fun e => by rcases e with e | e; exact .inl ⟨e, h⟩; exact .inr e, fun e => by rcases e with e | e; exact .inl e.1; exact .inr e⟩
  · rename_i h
    exact ⟨fun e => .inr e, fun e => by rcases e with e | e; exact absurd e.2 h; exact e⟩
theorem fold_ext_mem {y : Int} : ∀ {l o : List Int}, y ∈ l.foldl extV o ↔ (y ∈ l ∧ y < 0) ∨ y ∈ o
  | [], o => by simp
  | x :: l, o => by
    rw [List.foldl_cons, fold_ext_mem, extV_mem, List.mem_cons]
    constructor
    · rintro (⟨h, h0⟩ | ⟨rfl, h0⟩ | h)
      · exact .inl ⟨.inr h, h0⟩
      · exact .inl ⟨.inl rfl, h0⟩
      · exact .inr h
    · rintro (⟨rfl | h, h0⟩ | h)
      · exact .inr (.inl ⟨rfl, h0⟩)
      · exact .inl ⟨h, h0⟩
      · exact .inr (.inr h)
theorem order_mem {t : List Int} {y : Int} : y ∈ orderL t ↔ y ∈ t ∧ y < 0 := by unfold orderL; rw [fold_ext_mem]; simp
theorem ext_nodup {o : List Int} {x : Int} (h : o.Nodup) : (ext o x).Nodup := by
  unfold ext
  split
  · exact h
  · rename_i hx
    rw [List.nodup_append]
    exact ⟨h, by simp, fun a ha b hb => by simp at hb; subst hb; exact fun e => hx (e ▸ ha)⟩
theorem fold_nodup : ∀ {l o : List Int}, o.Nodup → (l.foldl extV o).Nodup
  | [], _, h => h
  | x :: l, o, h => by
    rw [List.foldl_cons]
    refine fold_nodup ?_
    unfold extV
    split
    · exact ext_nodup h
    · exact h
theorem order_nodup (t : List Int) : (orderL t).Nodup := fold_nodup List.nodup_nil
theorem ext_len (o : List Int) (x : Int) : (ext o x).length ≤ o.length + 1 := by unfold ext; split <;> simp
theorem fold_ext_len : ∀ (l o : List Int), (l.foldl extV o).length ≤ o.length + l.length
  | [], _ => by simp
  | x :: l, o => by
    have h1 := fold_ext_len l (extV o x)
    have h2 : (extV o x).length ≤ o.length + 1 := by unfold extV; split; exact ext_len o x; simp
    simp
    omega
theorem order_len (t : List Int) : (orderL t).length ≤ t.length := by have := fold_ext_len t []; simpa [orderL] using this

/-- a number by an order -/
def ren (o : List Int) (n : Int) : Int := if n < 0 then -1 - (idx o n : Int) else n
/-- a term renamed -/
def renL (t : List Int) : List Int := t.map (ren (orderL t))
theorem ren_ext {o : List Int} {x n : Int} (h : n < 0 → n ∈ o) : ren (extV o x) n = ren o n := by
  unfold ren
  split
  · rename_i h0
    unfold extV ext
    split
    · split
      · rfl
      · rw [idx_app_mem (h h0)]
    · rfl
  · rfl
theorem ren_take {t : List Int} {k : Nat} {x : Int} (hk : k < t.length) (hx : t.getD k 0 = x) : renL (t.take (k + 1)) = renL (t.take k) ++ [ren (extV (orderL (t.take k)) x) x] := by
  unfold renL
  rw [order_take hk hx, take_snoc hk hx, List.map_append]
  congr 1
  refine List.map_congr_left (fun n hn => ren_ext (fun h0 => order_mem.2 ⟨hn, h0⟩))
theorem ren_len (t : List Int) : (renL t).length = t.length := by simp [renL]
/-- what Renamed answers -/
def renI (sg t : List Int) : List Int := if termOkB sg t = true then renL t else []
theorem renI_len {sg t : List Int} {m : Nat} (h : t.length = m) (hm : m ≤ 1048576) : (renI sg t).length ≤ 1048576 := by
  unfold renI
  split
  · rw [ren_len]; omega
  · simp
/-- a place of an order without a number twice -/
theorem idx_nodup {o : List Int} (h : o.Nodup) {k : Nat} (hk : k < o.length) {x : Int} (hx : o.getD k 0 = x) : idx o x = k := by
  refine idx_first hk (fun j hj e => ?_) hx
  have h1 : o[j]'(by omega) = o[k] := by
    have a : o.getD j 0 = o[j]'(by omega) := by simp [List.getD, show j < o.length by omega]
    have b : o.getD k 0 = o[k] := by simp [List.getD, hk]
    rw [← a, ← b, e, hx]
  exact (List.pairwise_iff_getElem.1 h) j k (by omega) hk hj h1
end Go.Proofs.Ytkmhnkljigncmaa.renMath
end

section
/-
  PLAIN MATHEMATICS of matching (chapter 4): the walk along a pattern and a term finds the substitution that turns the one into the other, if there is one; being an instance is transitive, variants are instances of each other, every pattern is an instance of one of the most general ones. Conditions: none. By an AI agent.
-/
namespace Go.Proofs.Ytkmhnkljigncmaa.matchMath
open Go.Proofs.Ytkmhnkljigncmaa.sig Go.Proofs.Ytkmhnkljigncmaa.term Go.Proofs.Ytkmhnkljigncmaa.termOk Go.Proofs.Ytkmhnkljigncmaa.termFacts Go.Proofs.Ytkmhnkljigncmaa.endAt Go.Proofs.Ytkmhnkljigncmaa.sub Go.Proofs.Ytkmhnkljigncmaa.termMath Go.Proofs.Ytkmhnkljigncmaa.fillMath Go.Proofs.Ytkmhnkljigncmaa.posMath Go.Proofs.Ytkmhnkljigncmaa.renMath

/-- what a list of 24 places holds for a variable -/
def vr (x : Int) : Nat := (-1 - x).toNat
/-- the walk: the pattern's numbers, the place in the term, what each variable must give so far -/
def mst (sg t : List Int) : List Int → Nat → List (List Int) → Option (List (List Int))
  | [], _, s => some s
  | x :: r, k, s =>
    if t.length ≤ k then none
    else if 0 ≤ x then (if x = t.getD k 0 then mst sg t r (k + 1) s else none)
    else if (s.getD (vr x) []).length ≠ 0 ∧ s.getD (vr x) [] ≠ subL sg t k then none
    else mst sg t r (k + (subL sg t k).length) (s.set (vr x) (subL sg t k))
section
variable {sg t : List Int} {r : List Int} {x : Int} {k : Nat} {s : List (List Int)}
theorem mst_out (h : t.length ≤ k) : mst sg t (x :: r) k s = none := by simp only [mst]; rw [if_pos h]
theorem mst_sym (h : ¬ t.length ≤ k) (hx : 0 ≤ x) (he : x = t.getD k 0) : mst sg t (x :: r) k s = mst sg t r (k + 1) s := by simp only [mst]; rw [if_neg h, if_pos hx, if_pos he]
theorem mst_symNo (h : ¬ t.length ≤ k) (hx : 0 ≤ x) (he : ¬ x = t.getD k 0) : mst sg t (x :: r) k s = none := by simp only [mst]; rw [if_neg h, if_pos hx, if_neg he]
theorem mst_var (h : ¬ t.length ≤ k) (hx : ¬ 0 ≤ x) (he : ¬ ((s.getD (vr x) []).length ≠ 0 ∧ s.getD (vr x) [] ≠ subL sg t k)) : mst sg t (x :: r) k s = mst sg t r (k + (subL sg t k).length) (s.set (vr x) (subL sg t k)) := by simp only [mst]; rw [if_neg h, if_neg hx, if_neg he]
theorem mst_varNo (h : ¬ t.length ≤ k) (hx : ¬ 0 ≤ x) (he : (s.getD (vr x) []).length ≠ 0 ∧ s.getD (vr x) [] ≠ subL sg t k) : mst sg t (x :: r) k s = none := by simp only [mst]; rw [if_neg h, if_neg hx, if_pos he]
end
theorem set_get {s : List (List Int)} {i j : Nat} {v : List Int} : (s.set i v).getD j [] = if i = j ∧ i < s.length then v else s.getD j [] := by
  simp only [List.getD_eq_getElem?_getD, List.getElem?_set]
  by_cases h : i = j
  · subst h
    by_cases h2 : i < s.length
    · simp [h2]
    · simp [h2]
  · simp [h]
theorem vr_lt {x : Int} (h0 : ¬ 0 ≤ x) (h : -24 ≤ x) : vr x < 24 := by unfold vr; omega
/-- what is known of a variable stays -/
theorem mst_ext {sg t : List Int} : ∀ {p : List Int} {k : Nat} {s s' : List (List Int)}, mst sg t p k s = some s' → s.length = 24 → (∀ x ∈ p, -24 ≤ x) → s'.length = 24 ∧ ∀ i, (s.getD i []).length ≠ 0 → s'.getD i [] = s.getD i [] := by
  intro p
  induction p with
  | nil => intro k s s' h hl _; injection h with h; subst h; exact ⟨hl, fun _ _ => rfl⟩
  | cons x r ih =>
    intro k s s' h hl hx
    have hr : ∀ y ∈ r, -24 ≤ y := fun y hy => hx y (List.mem_cons_of_mem _ hy)
    by_cases h1 : t.length ≤ k
    · rw [mst_out h1] at h; cases h
    · by_cases h2 : 0 ≤ x
      · by_cases h3 : x = t.getD k 0
        · rw [mst_sym h1 h2 h3] at h; exact ih h hl hr
        · rw [mst_symNo h1 h2 h3] at h; cases h
      · by_cases h3 : (s.getD (vr x) []).length ≠ 0 ∧ s.getD (vr x) [] ≠ subL sg t k
        · rw [mst_varNo h1 h2 h3] at h; cases h
        · rw [mst_var h1 h2 h3] at h
          obtain ⟨e1, e2⟩ := ih h (by rw [List.length_set]; exact hl) hr
          refine ⟨e1, fun i hi => ?_⟩
          have hs : (s.set (vr x) (subL sg t k)).getD i [] = s.getD i [] := by
            rw [set_get]
            split
            · rename_i hc
              obtain ⟨rfl, _⟩ := hc
              by_cases e : s.getD (vr x) [] = subL sg t k
              · exact e.symm
              · exact absurd ⟨hi, e⟩ h3
            · rfl
          rw [← hs] at hi ⊢
          exact e2 i hi
theorem sub_len1 {sg t : List Int} (hok : termOkB sg t = true) {k : Nat} (hk : k < t.length) : (subL sg t k).length = len1 sg t k ∧ t.drop k = subL sg t k ++ t.drop (k + (subL sg t k).length) ∧ scan sg 1 (subL sg t k) = some (subL sg t k).length := by
  have h := term_at hok hk
  have hl : (subL sg t k).length = len1 sg t k := by unfold subL; rw [List.length_take, List.length_drop]; omega
  refine ⟨hl, ?_, (term_parts (sub_term hok hk).1).2.2⟩
  rw [hl, ← List.drop_drop]
  exact (List.take_append_drop _ _).symm
/-- what is found turns the pattern into what the term goes on with -/
theorem mst_sound {sg t : List Int} (hok : termOkB sg t = true) : ∀ {p : List Int} {k : Nat} {s s' : List (List Int)}, mst sg t p k s = some s' → s.length = 24 → (∀ x ∈ p, -24 ≤ x) →
    (∃ rest, t.drop k = fillL (fun i => s'.getD i []) p ++ rest) ∧ ∀ x ∈ p, x < 0 → scan sg 1 (s'.getD (vr x) []) = some (s'.getD (vr x) []).length := by
  intro p
  induction p with
  | nil => intro k s s' _ _ _; exact ⟨⟨t.drop k, by rw [fill_nil, List.nil_append]⟩, fun x hx => absurd hx (List.not_mem_nil)⟩
  | cons x r ih =>
    intro k s s' h hl hx
    have hr : ∀ y ∈ r, -24 ≤ y := fun y hy => hx y (List.mem_cons_of_mem _ hy)
    have hx0 : -24 ≤ x := hx x (List.mem_cons_self ..)
    by_cases h1 : t.length ≤ k
    · rw [mst_out h1] at h; cases h
    · by_cases h2 : 0 ≤ x
      · by_cases h3 : x = t.getD k 0
        · rw [mst_sym h1 h2 h3] at h
          obtain ⟨⟨rest, e⟩, hv⟩ := ih h hl hr
          refine ⟨⟨rest, ?_⟩, fun y hy h0 => ?_⟩
          · rw [drop_cons (by omega), e, ← h3, fill_cons, rep_sym h2]; rfl
          · rcases List.mem_cons.1 hy with rfl | hy
            · omega
            · exact hv y hy h0
        · rw [mst_symNo h1 h2 h3] at h; cases h
      · by_cases h3 : (s.getD (vr x) []).length ≠ 0 ∧ s.getD (vr x) [] ≠ subL sg t k
        · rw [mst_varNo h1 h2 h3] at h; cases h
        · rw [mst_var h1 h2 h3] at h
          have hl' : (s.set (vr x) (subL sg t k)).length = 24 := by rw [List.length_set]; exact hl
          obtain ⟨⟨rest, e⟩, hv⟩ := ih h hl' hr
          obtain ⟨_, e2⟩ := mst_ext h hl' hr
          obtain ⟨l1, l2, l3⟩ := sub_len1 hok (show k < t.length by omega)
          have hpos := (sub_term hok (show k < t.length by omega)).2.2.2
          have hg : (s.set (vr x) (subL sg t k)).getD (vr x) [] = subL sg t k := by rw [set_get, if_pos ⟨rfl, by rw [hl]; exact vr_lt h2 hx0⟩]
          have hgx : s'.getD (vr x) [] = subL sg t k := by rw [e2 (vr x) (by rw [hg]; omega), hg]
          refine ⟨⟨rest, ?_⟩, fun y hy h0 => ?_⟩
          · rw [l2, e, fill_cons, rep_var (by omega), List.append_assoc]
            congr 1
            exact hgx.symm
          · rcases List.mem_cons.1 hy with rfl | hy
            · rw [hgx]; exact l3
            · exact hv y hy h0
/-- where a substitution turns the pattern into what the term goes on with, the walk finds it -/
theorem mst_full {sg t : List Int} {L : Nat → List Int} : ∀ {p : List Int} {k : Nat} {s : List (List Int)} {rest : List Int}, t.drop k = fillL L p ++ rest → s.length = 24 → (∀ x ∈ p, -24 ≤ x) → (∀ x ∈ p, x < 0 → scan sg 1 (L (vr x)) = some (L (vr x)).length) → (∀ i, (s.getD i []).length ≠ 0 → s.getD i [] = L i) →
    ∃ s', mst sg t p k s = some s' ∧ (∀ i, (s'.getD i []).length ≠ 0 → s'.getD i [] = L i) ∧ ∀ x ∈ p, x < 0 → s'.getD (vr x) [] = L (vr x) := by
  intro p
  induction p with
  | nil => intro k s rest _ _ _ _ hc; exact ⟨s, rfl, hc, fun x hx => absurd hx (List.not_mem_nil)⟩
  | cons x r ih =>
    intro k s rest h hl hx hL hc
    have hr : ∀ y ∈ r, -24 ≤ y := fun y hy => hx y (List.mem_cons_of_mem _ hy)
    have hLr : ∀ y ∈ r, y < 0 → scan sg 1 (L (vr y)) = some (L (vr y)).length := fun y hy => hL y (List.mem_cons_of_mem _ hy)
    have hx0 : -24 ≤ x := hx x (List.mem_cons_self ..)
    rw [fill_cons, List.append_assoc] at h
    by_cases h2 : 0 ≤ x
    · rw [rep_sym h2] at h
      have hk : k < t.length := by
        by_cases hk : k < t.length
        · exact hk
        · rw [List.drop_eq_nil_of_le (by omega)] at h; cases h
      rw [drop_cons hk] at h
      injection h with e1 e2
      obtain ⟨s', m1, m2, m3⟩ := ih e2 hl hr hLr hc
      exact ⟨s', by rw [mst_sym (by omega) h2 e1.symm]; exact m1, m2, fun y hy h0 => by
        rcases List.mem_cons.1 hy with rfl | hy
        · omega
        · exact m3 y hy h0⟩
    · rw [rep_var (by omega)] at h
      change t.drop k = L (vr x) ++ (fillL L r ++ rest) at h
      have hsc := hL x (List.mem_cons_self ..) (by omega)
      have hpos := scan_pos (q := 0) hsc
      have hk : k < t.length := by
        by_cases hk : k < t.length
        · exact hk
        · rw [List.drop_eq_nil_of_le (by omega)] at h
          have := congrArg List.length h
          simp only [List.length_nil, List.length_append] at this
          omega
      have hsub : subL sg t k = L (vr x) := by
        unfold subL
        have e : len1 sg t k = (L (vr x)).length := len1_eq (by rw [h]; exact scan_append hsc)
        rw [e, h, List.take_left' rfl]
      have hnext : t.drop (k + (subL sg t k).length) = fillL L r ++ rest := by rw [← List.drop_drop, h, hsub, List.drop_left' rfl]
      have hno : ¬ ((s.getD (vr x) []).length ≠ 0 ∧ s.getD (vr x) [] ≠ subL sg t k) := fun ⟨g1, g2⟩ => g2 (by rw [hsub]; exact hc _ g1)
      have hl' : (s.set (vr x) (subL sg t k)).length = 24 := by rw [List.length_set]; exact hl
      obtain ⟨s', m1, m2, m3⟩ := ih hnext hl' hr hLr (fun i hi => by
        rw [set_get] at hi ⊢
        split
        · rename_i hcc; rw [hsub, ← hcc.1]
        · rename_i hcc; rw [if_neg hcc] at hi; exact hc i hi)
      refine ⟨s', by rw [mst_var (by omega) h2 hno]; exact m1, m2, fun y hy h0 => ?_⟩
      rcases List.mem_cons.1 hy with rfl | hy
      · have hg : (s.set (vr y) (subL sg t k)).getD (vr y) [] = L (vr y) := by rw [set_get, if_pos ⟨rfl, by rw [hl]; exact vr_lt h2 hx0⟩, hsub]
        rw [(mst_ext m1 hl' hr).2 (vr y) (by rw [hg]; omega), hg]
      · exact m3 y hy h0

def s0 : List (List Int) := List.replicate 24 []
theorem s0_get (i : Nat) : s0.getD i [] = [] := by
  unfold s0
  rw [List.getD_eq_getElem?_getD, List.getElem?_replicate]
  split <;> rfl
def matchO (sg p t : List Int) : Option (List (List Int)) := if (termOkB sg p && termOkB sg t) = true then mst sg t p 0 s0 else none
def instB (sg p t : List Int) : Bool := (matchO sg p t).isSome
theorem match_yes {sg p t : List Int} (h1 : termOkB sg p = true) (h2 : termOkB sg t = true) : matchO sg p t = mst sg t p 0 s0 := by unfold matchO; rw [if_pos (by rw [h1, h2]; rfl)]
theorem match_no {sg p t : List Int} (h : termOkB sg p = false ∨ termOkB sg t = false) : matchO sg p t = none := by
  unfold matchO
  rw [if_neg]
  rcases h with h | h <;> rw [h] <;> simp
theorem inst_no {sg p t : List Int} (h : termOkB sg p = false ∨ termOkB sg t = false) : instB sg p t = false := by unfold instB; rw [match_no h]; rfl
theorem inst_ok {sg p t : List Int} (h : instB sg p t = true) : termOkB sg p = true ∧ termOkB sg t = true := by
  cases h1 : termOkB sg p with
  | false => rw [inst_no (.inl h1)] at h; cases h
  | true =>
    cases h2 : termOkB sg t with
    | false => rw [inst_no (.inr h2)] at h; cases h
    | true => exact ⟨rfl, rfl⟩
/-- a substitution that turns p into t -/
def Turns (sg p t : List Int) (L : Nat → List Int) : Prop := fillL L p = t ∧ ∀ x ∈ p, x < 0 → scan sg 1 (L (vr x)) = some (L (vr x)).length
theorem match_turns {sg p t : List Int} {s' : List (List Int)} (h : matchO sg p t = some s') : s'.length = 24 ∧ Turns sg p t (fun i => s'.getD i []) := by
  have h12 : termOkB sg p = true ∧ termOkB sg t = true := inst_ok (by unfold instB; rw [h]; rfl)
  obtain ⟨h1, h2⟩ := h12
  rw [match_yes h1 h2] at h
  have hx : ∀ x ∈ p, -24 ≤ x := fun x hx => (term_mem h1 hx).1
  obtain ⟨⟨rest, e⟩, hv⟩ := mst_sound h2 h (by rfl) hx
  refine ⟨(mst_ext h (by rfl) hx).1, ?_, hv⟩
  rw [List.drop_zero] at e
  have hs := scan_fill (L := fun i => s'.getD i []) (term_parts h1).2.2 hv
  have hs2 := scan_append (r := rest) hs
  rw [← e, (term_parts h2).2.2] at hs2
  injection hs2 with hs2
  have hl := congrArg List.length e
  rw [List.length_append] at hl
  have hr : rest = [] := List.eq_nil_of_length_eq_zero (by omega)
  rw [e, hr, List.append_nil]
theorem turns_match {sg p t : List Int} {L : Nat → List Int} (h1 : termOkB sg p = true) (h2 : termOkB sg t = true) (h : Turns sg p t L) : ∃ s', matchO sg p t = some s' ∧ ∀ x ∈ p, x < 0 → s'.getD (vr x) [] = L (vr x) := by
  rw [match_yes h1 h2]
  obtain ⟨s', m1, _, m3⟩ := mst_full (sg := sg) (t := t) (L := L) (p := p) (k := 0) (s := s0) (rest := []) (by rw [List.drop_zero, List.append_nil, h.1]) (by rfl) (fun x hx => (term_mem h1 hx).1) h.2 (fun i hi => by rw [s0_get] at hi; exact absurd rfl hi)
  exact ⟨s', m1, m3⟩
theorem inst_iff {sg p t : List Int} (h1 : termOkB sg p = true) (h2 : termOkB sg t = true) : instB sg p t = true ↔ ∃ L, Turns sg p t L := by
  constructor
  · intro h
    unfold instB at h
    obtain ⟨s', hs⟩ := Option.isSome_iff_exists.1 h
    exact ⟨_, (match_turns hs).2⟩
  · rintro ⟨L, h⟩
    obtain ⟨s', hs, _⟩ := turns_match h1 h2 h
    unfold instB
    rw [hs]; rfl
theorem rep_mem {L : Nat → List Int} : ∀ {p : List Int} {x y : Int}, x ∈ p → x < 0 → y ∈ L (vr x) → y ∈ fillL L p
  | z :: r, x, y, hx, h0, hy => by
    rw [fill_cons]
    rcases List.mem_cons.1 hx with rfl | hx
    · exact List.mem_append_left _ (by rw [rep_var h0]; exact hy)
    · exact List.mem_append_right _ (rep_mem hx h0 hy)
theorem turns_trans {sg p q t : List Int} {L M : Nat → List Int} (h : Turns sg p q L) (h' : Turns sg q t M) : Turns sg p t (fun i => fillL M (L i)) := by
  refine ⟨by rw [← fill_fill, h.1, h'.1], fun x hx h0 => ?_⟩
  refine scan_fill (h.2 x hx h0) (fun y hy hy0 => ?_)
  exact h'.2 y (by rw [← h.1]; exact rep_mem hx h0 hy) hy0
theorem inst_trans {sg p q t : List Int} (h : instB sg p q = true) (h' : instB sg q t = true) : instB sg p t = true := by
  obtain ⟨h1, h2⟩ := inst_ok h
  obtain ⟨_, h3⟩ := inst_ok h'
  obtain ⟨L, hL⟩ := (inst_iff h1 h2).1 h
  obtain ⟨M, hM⟩ := (inst_iff h2 h3).1 h'
  exact (inst_iff h1 h3).2 ⟨_, turns_trans hL hM⟩
theorem fill_vt : ∀ p : List Int, fillL vt p = p
  | [] => rfl
  | x :: r => by
    rw [fill_cons, fill_vt r]
    by_cases h : 0 ≤ x
    · rw [rep_sym h]; rfl
    · rw [rep_var (by omega)]
      show [-1 - (((-1 - x).toNat : Nat) : Int)] ++ r = x :: r
      rw [show (-1 - (((-1 - x).toNat : Nat) : Int) : Int) = x by omega]
      rfl
theorem scan_one {sg : List Int} {y : Int} (h : -24 ≤ y ∧ y ≤ -1) : scan sg 1 [y] = some [y].length := by
  rw [scan_step (by rw [ar_var h]; omega), ar_var h]
  rfl
theorem inst_refl {sg p : List Int} (h : termOkB sg p = true) : instB sg p p = true :=
  (inst_iff h h).2 ⟨vt, fill_vt p, fun x hx h0 => by
    have := (term_mem h hx).1
    exact scan_one (by unfold vr; omega)⟩
/-- variants: the one's variables in the place of the other one's -/
theorem ren_pair {oa ob : List Int} : ∀ {l l' : List Int}, l.map (ren oa) = l'.map (ren ob) → (∀ y ∈ l', y < 0 → y ∈ ob) → fillL (fun i => [ob.getD (idx oa (-1 - (i : Int))) 0]) l = l' ∧ ∀ x ∈ l, x < 0 → ∃ y ∈ l', y < 0 ∧ ob.getD (idx oa x) 0 = y
  | [], [], _, _ => ⟨rfl, fun _ h => absurd h (List.not_mem_nil)⟩
  | [], _ :: _, h, _ => by cases h
  | _ :: _, [], h, _ => by cases h
  | x :: l, y :: l', h, hm => by
    rw [List.map_cons, List.map_cons] at h
    injection h with e1 e2
    obtain ⟨f1, f2⟩ := ren_pair e2 (fun z hz => hm z (List.mem_cons_of_mem _ hz))
    by_cases hx : x < 0
    · have hy : y < 0 := by
        by_cases hy : y < 0
        · exact hy
        · unfold ren at e1; rw [if_pos hx, if_neg hy] at e1; omega
      have hi : idx oa x = idx ob y := by unfold ren at e1; rw [if_pos hx, if_pos hy] at e1; omega
      have hg : ob.getD (idx oa x) 0 = y := by rw [hi]; exact idx_get (hm y (List.mem_cons_self ..) hy)
      refine ⟨?_, fun z hz h0 => ?_⟩
      · rw [fill_cons, f1, rep_var hx]
        show [ob.getD (idx oa (-1 - ((-1 - x).toNat : Int))) 0] ++ l' = y :: l'
        rw [show (-1 - ((-1 - x).toNat : Int) : Int) = x by omega, hg]
        rfl
      · rcases List.mem_cons.1 hz with rfl | hz
        · exact ⟨y, List.mem_cons_self .., hy, hg⟩
        · obtain ⟨y', g1, g2⟩ := f2 z hz h0
          exact ⟨y', List.mem_cons_of_mem _ g1, g2⟩
    · have hy : ¬ y < 0 := by
        intro hy
        unfold ren at e1; rw [if_neg hx, if_pos hy] at e1; omega
      have e : x = y := by unfold ren at e1; rwa [if_neg hx, if_neg hy] at e1
      refine ⟨?_, fun z hz h0 => ?_⟩
      · rw [fill_cons, f1, rep_sym (by omega), e]; rfl
      · rcases List.mem_cons.1 hz with rfl | hz
        · exact absurd h0 hx
        · obtain ⟨y', g1, g2⟩ := f2 z hz h0
          exact ⟨y', List.mem_cons_of_mem _ g1, g2⟩
theorem inst_variant {sg a b : List Int} (h1 : termOkB sg a = true) (h2 : termOkB sg b = true) (h : renL a = renL b) : instB sg a b = true := by
  unfold renL at h
  obtain ⟨f1, f2⟩ := ren_pair h (fun y hy h0 => order_mem.2 ⟨hy, h0⟩)
  refine (inst_iff h1 h2).2 ⟨_, f1, fun x hx h0 => ?_⟩
  obtain ⟨y, g1, g2, g3⟩ := f2 x hx h0
  show scan sg 1 [(orderL b).getD (idx (orderL a) (-1 - ((vr x : Nat) : Int))) 0] = some _
  rw [show (-1 - ((vr x : Nat) : Int) : Int) = x by unfold vr; omega, g3]
  exact scan_one ⟨(term_mem h2 g1).1, by omega⟩

/-- more general -/
def moreB (sg a b : List Int) : Bool := instB sg a b && !instB sg b a
theorem more_parts {sg a b : List Int} (h : moreB sg a b = true) : instB sg a b = true ∧ instB sg b a = false := by
  unfold moreB at h
  simpa using h
theorem more_trans {sg a b c : List Int} (h : instB sg a b = true) (h' : moreB sg b c = true) : moreB sg a c = true := by
  obtain ⟨g1, g2⟩ := more_parts h'
  have e1 := inst_trans h g1
  have e2 : instB sg c a = false := by
    cases e : instB sg c a with
    | false => rfl
    | true => rw [inst_trans e h] at g2; cases g2
  unfold moreB
  rw [e1, e2]; rfl
theorem more_irrefl {sg a : List Int} : moreB sg a a = false := by
  unfold moreB
  cases instB sg a a <;> rfl
/-- nothing in the list is more general than i, and no earlier one is a variant -/
def bestB (sg : List Int) (ps : List (List Int)) (i : Nat) : Bool := (List.range ps.length).all fun k => !(moreB sg (ps.getD k []) (ps.getD i []) || (decide (k < i) && (termOkB sg (ps.getD k []) && (termOkB sg (ps.getD i []) && decide (renL (ps.getD k []) = renL (ps.getD i []))))))
theorem best_yes {sg : List Int} {ps : List (List Int)} {i : Nat} (h : ∀ k, k < ps.length → moreB sg (ps.getD k []) (ps.getD i []) = false ∧ (k < i → renL (ps.getD k []) ≠ renL (ps.getD i []))) : bestB sg ps i = true := by
  unfold bestB
  rw [List.all_eq_true]
  intro k hk
  rw [List.mem_range] at hk
  obtain ⟨h1, h2⟩ := h k hk
  rw [h1]
  by_cases hki : k < i
  · rw [decide_eq_false (h2 hki)]; simp
  · rw [decide_eq_false hki]; simp
/-- how many are more general -/
def manyMore (sg : List Int) (ps : List (List Int)) (i : Nat) : Nat := (List.range ps.length).countP fun k => moreB sg (ps.getD k []) (ps.getD i [])
theorem count_less {l : List Nat} {f g : Nat → Bool} (h : ∀ x ∈ l, f x = true → g x = true) {y : Nat} (hy : y ∈ l) (h1 : f y = false) (h2 : g y = true) : l.countP f < l.countP g := by
  induction l with
  | nil => exact absurd hy (List.not_mem_nil)
  | cons a r ih =>
    have hr : ∀ x ∈ r, f x = true → g x = true := fun x hx => h x (List.mem_cons_of_mem _ hx)
    have hle : r.countP f ≤ r.countP g := List.countP_mono_left hr
    rw [List.countP_cons, List.countP_cons]
    rcases List.mem_cons.1 hy with rfl | hy
    · rw [h1, h2]; simp; omega
    · have := ih hr hy
      have ha := h a (List.mem_cons_self ..)
      cases hf : f a with
      | false => cases hg : g a <;> simp <;> omega
      | true => rw [ha hf]; simp; omega
/-- every pattern is an instance of one of the most general ones -/
theorem best_ex {sg : List Int} {ps : List (List Int)} (hok : ∀ k, k < ps.length → termOkB sg (ps.getD k []) = true) : ∀ (n i : Nat), manyMore sg ps i ≤ n → i < ps.length → ∃ k, k < ps.length ∧ bestB sg ps k = true ∧ instB sg (ps.getD k []) (ps.getD i []) = true := by
  intro n
  induction n with
  | zero =>
    intro i hn hi
    have hno : ∀ k, k < ps.length → moreB sg (ps.getD k []) (ps.getD i []) = false := fun k hk => by
      cases e : moreB sg (ps.getD k []) (ps.getD i []) with
      | false => rfl
      | true =>
        have : 0 < manyMore sg ps i := List.countP_pos_iff.2 ⟨k, List.mem_range.2 hk, e⟩
        omega
    -- the first variant of i
    have hfirst : ∀ m, m ≤ i → renL (ps.getD m []) = renL (ps.getD i []) → ∃ k, k ≤ i ∧ renL (ps.getD k []) = renL (ps.getD i []) ∧ ∀ j, j < k → renL (ps.getD j []) ≠ renL (ps.getD i []) := by
      intro m
      induction m using Nat.strongRecOn with
      | ind m ihm =>
        intro hm he
        by_cases hx : ∃ j, j < m ∧ renL (ps.getD j []) = renL (ps.getD i [])
        · obtain ⟨j, j1, j2⟩ := hx
          exact ihm j j1 (by omega) j2
        · exact ⟨m, hm, he, fun j hj e => hx ⟨j, hj, e⟩⟩
    obtain ⟨k, k1, k2, k3⟩ := hfirst i (Nat.le_refl _) rfl
    have hkn : k < ps.length := by omega
    have hki := inst_variant (hok k hkn) (hok i hi) k2
    refine ⟨k, hkn, best_yes (fun j hj => ⟨?_, fun hjk e => k3 j hjk (e.trans k2)⟩), hki⟩
    cases e : moreB sg (ps.getD j []) (ps.getD k []) with
    | false => rfl
    | true =>
      obtain ⟨g1, g2⟩ := more_parts e
      have hik := inst_variant (hok i hi) (hok k hkn) k2.symm
      have := hno j hj
      have e2 : moreB sg (ps.getD j []) (ps.getD i []) = true := by
        have a1 := inst_trans g1 hki
        have a2 : instB sg (ps.getD i []) (ps.getD j []) = false := by
          cases e3 : instB sg (ps.getD i []) (ps.getD j []) with
          | false => rfl
          | true => rw [inst_trans hki e3] at g2; cases g2
        unfold moreB
        rw [a1, a2]; rfl
      rw [this] at e2; cases e2
  | succ n ih =>
    intro i hn hi
    by_cases hx : ∃ k, k < ps.length ∧ moreB sg (ps.getD k []) (ps.getD i []) = true
    · obtain ⟨k, k1, k2⟩ := hx
      have hlt : manyMore sg ps k < manyMore sg ps i := count_less (fun j _ hj => more_trans (more_parts hj).1 k2) (List.mem_range.2 k1) more_irrefl k2
      obtain ⟨m, m1, m2, m3⟩ := ih k (by omega) k1
      exact ⟨m, m1, m2, inst_trans m3 (more_parts k2).1⟩
    · refine ih i ?_ hi
      have : manyMore sg ps i = 0 := by
        unfold manyMore
        rw [List.countP_eq_zero]
        intro k hk e
        exact hx ⟨k, List.mem_range.1 hk, e⟩
      omega
end Go.Proofs.Ytkmhnkljigncmaa.matchMath
end

section
/-
  PLAIN MATHEMATICS of plain substitutions: what is left of a list of lists without the empty ones at its end ('strip'), the plain form of a look-up ('plainL'). Conditions: none. By an AI agent.
-/
namespace Go.Proofs.Ytkmhnkljigncmaa.plainMath
open Go.Proofs.Ytkmhnkljigncmaa.fillMath

/-- without the empty lists at its end -/
def strip : List (List Int) → List (List Int)
  | [] => []
  | x :: r => if strip r = [] then (if x = [] then [] else [x]) else x :: strip r
theorem strip_snoc : ∀ (l : List (List Int)) (x : List Int), strip (l ++ [x]) = if x = [] then strip l else l ++ [x]
  | [], x => by
    show strip [x] = _
    by_cases h : x = [] <;> simp [strip, h]
  | y :: r, x => by
    rw [List.cons_append, strip, strip_snoc r x]
    by_cases h : x = []
    · simp [h, strip]
    · simp [h]
theorem strip_len : ∀ l : List (List Int), (strip l).length ≤ l.length
  | [] => by simp [strip]
  | x :: r => by
    have h := strip_len r
    rw [strip]
    split
    · split <;> simp
    · simp; omega
theorem strip_pad : ∀ l : List (List Int), strip l ++ List.replicate (l.length - (strip l).length) [] = l
  | [] => by simp [strip]
  | x :: r => by
    have h := strip_pad r
    rw [strip]
    by_cases h1 : strip r = []
    · rw [h1] at h
      rw [if_pos h1]
      have h2 : List.replicate r.length ([] : List Int) = r := by simpa using h
      by_cases h3 : x = []
      · rw [if_pos h3]
        subst h3
        simp only [List.length_cons, List.length_nil, Nat.sub_zero, List.nil_append]
        rw [List.replicate_succ, h2]
      · rw [if_neg h3]
        simp only [List.length_cons, List.length_nil]
        rw [show r.length + 1 - (0 + 1) = r.length by omega, h2]
        rfl
    · rw [if_neg h1]
      simp only [List.length_cons, List.cons_append]
      rw [show r.length + 1 - ((strip r).length + 1) = r.length - (strip r).length by omega, h]
theorem strip_last {l : List (List Int)} {q : Nat} (hq : q < l.length) (h : l.getD q [] ≠ []) : strip (l.take (q + 1)) = l.take (q + 1) := by
  have e : l.take (q + 1) = l.take q ++ [l.getD q []] := by
    rw [List.take_succ_eq_append_getElem hq]
    simp [List.getD, hq]
  rw [e, strip_snoc, if_neg h]
theorem strip_drop {l : List (List Int)} {q : Nat} (hq : q < l.length) (h : l.getD q [] = []) : strip (l.take (q + 1)) = strip (l.take q) := by
  have e : l.take (q + 1) = l.take q ++ [l.getD q []] := by
    rw [List.take_succ_eq_append_getElem hq]
    simp [List.getD, hq]
  rw [e, strip_snoc, if_pos h]
theorem strip_end : ∀ (l : List (List Int)), strip l = [] ∨ ∃ q, (strip l).length = q + 1 ∧ (strip l).getD q [] ≠ []
  | [] => .inl rfl
  | x :: r => by
    rw [strip]
    rcases strip_end r with h | ⟨q, h1, h2⟩
    · rw [if_pos h]
      by_cases hx : x = []
      · rw [if_pos hx]; exact .inl rfl
      · rw [if_neg hx]; exact .inr ⟨0, rfl, by simpa using hx⟩
    · have hne : strip r ≠ [] := fun e => by rw [e] at h1; cases h1
      rw [if_neg hne]
      exact .inr ⟨q + 1, by simp [h1], by simpa using h2⟩

/-- what replaces variable i, nothing where it stays -/
def bare (L : Nat → List Int) (i : Nat) : List Int := if L i = vt i then [] else L i
def rowsL (L : Nat → List Int) (m : Nat) : List (List Int) := (List.range m).map (bare L)
/-- the plain form -/
def plainL (L : Nat → List Int) (m : Nat) : List (List Int) := strip (rowsL L m)
theorem rows_len (L : Nat → List Int) (m : Nat) : (rowsL L m).length = m := by simp [rowsL]
theorem rows_get {L : Nat → List Int} {m i : Nat} (h : i < m) : (rowsL L m).getD i [] = bare L i := by simp [rowsL, List.getD, h]
theorem rows_succ (L : Nat → List Int) (m : Nat) : rowsL L (m + 1) = rowsL L m ++ [bare L m] := by simp [rowsL, List.range_succ]
theorem plain_same {L : Nat → List Int} {m : Nat} (h : L m = vt m) : plainL L (m + 1) = plainL L m := by
  unfold plainL
  rw [rows_succ, strip_snoc, if_pos (by unfold bare; rw [if_pos h])]
theorem plain_new {L : Nat → List Int} {m : Nat} (h : L m ≠ vt m) (hne : 1 ≤ (L m).length) : plainL L (m + 1) = rowsL L m ++ [L m] := by
  unfold plainL
  have hb : bare L m = L m := by unfold bare; rw [if_neg h]
  rw [rows_succ, strip_snoc, hb, if_neg (fun e => by rw [e] at hne; simp at hne)]
theorem plain_len (L : Nat → List Int) (m : Nat) : (plainL L m).length ≤ m := by have := strip_len (rowsL L m); rw [rows_len] at this; exact this
theorem plain_pad (L : Nat → List Int) (m : Nat) : plainL L m ++ List.replicate (m - (plainL L m).length) [] = rowsL L m := by
  have := strip_pad (rowsL L m)
  rw [rows_len] at this
  exact this
theorem plain_ext {L L' : Nat → List Int} {m : Nat} (h : ∀ i, i < m → L i = L' i) : plainL L m = plainL L' m := by
  unfold plainL rowsL
  congr 1
  refine List.map_congr_left (fun i hi => ?_)
  unfold bare
  rw [h i (List.mem_range.1 hi)]
theorem plain_more {L : Nat → List Int} {m : Nat} : ∀ {k : Nat}, (∀ i, m ≤ i → L i = vt i) → plainL L (m + k) = plainL L m
  | 0, _ => rfl
  | k + 1, h => by rw [← Nat.add_assoc, plain_same (h _ (by omega)), plain_more h]
theorem plain_24 {L : Nat → List Int} {m : Nat} (hm : m ≤ 24) (h : ∀ i, m ≤ i → L i = vt i) : plainL L 24 = plainL L m := by
  have := plain_more (k := 24 - m) h
  rwa [show m + (24 - m) = 24 by omega] at this
/-- an element of the plain form -/
theorem plain_get (L : Nat → List Int) (m i : Nat) : (plainL L m).getD i [] = (rowsL L m).getD i [] := by
  have h := plain_pad L m
  rw [← h]
  by_cases hi : i < (plainL L m).length
  · simp [List.getD, List.getElem?_append_left hi]
  · have e1 : (plainL L m)[i]? = none := List.getElem?_eq_none (by omega)
    simp only [List.getD, e1, Option.getD_none]
    rw [List.getElem?_append_right (by omega)]
    by_cases h2 : i - (plainL L m).length < m - (plainL L m).length
    · simp [List.getElem?_replicate, h2]
    · simp [List.getElem?_replicate, h2]
theorem rows_each {L : Nat → List Int} {m M : Nat} (hM : ∀ i, (L i).length ≤ M) (i : Nat) : ((rowsL L m).getD i []).length ≤ M := by
  by_cases h : i < m
  · rw [rows_get h]
    unfold bare
    split
    · simp
    · exact hM i
  · rw [show (rowsL L m).getD i [] = [] by simp [List.getD, rows_len, h]]
    simp
theorem plain_each {L : Nat → List Int} {m M : Nat} (hM : ∀ i, (L i).length ≤ M) (i : Nat) : ((plainL L m).getD i []).length ≤ M := by rw [plain_get]; exact rows_each hM i
end Go.Proofs.Ytkmhnkljigncmaa.plainMath
end
