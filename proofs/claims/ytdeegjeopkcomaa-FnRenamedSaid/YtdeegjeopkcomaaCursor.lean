/-
  CONTRACTS of impl's cursor: next reads a number, pass reads a term. Conditions: the slices read as lists ('Seg') below the cursor's block, the arities lie between 0 and 3, at most 1048576 numbers. By an AI agent.
-/
import Derived.Test.YtdeegjeopkcomaaArity
import Derived.Deep.AppendLies
namespace Go.Proofs.Ytdeegjeopkcomaa.cursor
open Go.RowKit Go.Proofs.Ytdeegjeopkcomaa.base Go.Proofs.Ytdeegjeopkcomaa.ints Go.Proofs.Ytdeegjeopkcomaa.sig Go.Proofs.Ytdeegjeopkcomaa.term Go.Proofs.Ytdeegjeopkcomaa.arity

/-- the cursor in block p stands at place k -/
structure Cur (w : World) (p : Nat) (A : Option Addr) (n c : Nat) (A' : Option Addr) (m c' : Nat) (sg t : List Int) (k : Nat) : Prop where
  row : Row w p 99 #[.slice A n c, .slice A' m c', .int .i64 k]
  s : Seg w p A n sg
  s' : Seg w p A' m t
  le : k ≤ m
  hn : n ≤ 1048576
  hm : m ≤ 1048576
  ars : Arities sg

theorem seg_grown {w w' : World} {p : Nat} {A : Option Addr} {n : Nat} {xs : List Int} (h : Seg w p A n xs) (hg : w.grownBy w' (some p)) (hp : p < w.heap.size) : Seg w' p A n xs :=
  h.keep fun q hq => World.cell?_of_block (hg.block q.block (by omega) (by simp; omega))
theorem grown_trans {a b c : World} {r : Option Nat} (h : a.grownBy b r) (k : b.grownBy c r) : a.grownBy c r :=
  ⟨k.os.trans h.os, k.tape.trans h.tape, k.output.trans h.output, Nat.le_trans h.size k.size, fun i hi hn => (k.block i (Nat.lt_of_lt_of_le hi h.size) hn).trans (h.block i hi hn)⟩
theorem grown_below {a b : World} (h : Below a.heap.size a b) (r : Option Nat) : a.grownBy b r := ⟨h.os, h.tape, h.output, h.size, fun i hi _ => h.block i hi⟩
theorem grown_drewN {a b : World} {r : Option Nat} (h : a.grownBy b r) (d : Nat) : a.grownBy (b.drewN d) r := ⟨h.os, h.tape, h.output, h.size, h.block⟩
theorem grown_put {a b : World} {p : Nat} (h : a.grownBy b (some p)) (i : Nat) (u : Value) : a.grownBy (b.setCell ⟨p, i, none⟩ u) (some p) :=
  ⟨h.os, h.tape, h.output, by simpa [World.setCell] using h.size, fun k hk hn => (Below.heap_setCell _ _ _ _ (by intro e; exact hn (by rw [e]))).trans (h.block k hk hn)⟩

/-- what next gives at place k: the arity and a step on; -1 at the end -/
def AnsNext (w : World) (p : Nat) (A : Option Addr) (n c : Nat) (A' : Option Addr) (m c' : Nat) (sg t : List Int) (k : Nat) (e : Ending) (w' : World) : Prop :=
  w.grownBy w' (some p) ∧ ((k < m ∧ e = .returned (.int .i64 (ar sg (t.getD k 0))) ∧ Cur w' p A n c A' m c' sg t (k + 1)) ∨ (k = m ∧ e = .returned (.int .i64 (-1)) ∧ Cur w' p A n c A' m c' sg t k))

theorem Cur.below {w w' : World} {p : Nat} {A : Option Addr} {n c : Nat} {A' : Option Addr} {m c' : Nat} {sg t : List Int} {k : Nat} (h : Cur w p A n c A' m c' sg t k) (hb : Below w.heap.size w w') : Cur w' p A n c A' m c' sg t k :=
  have hp := h.row.lt
  ⟨h.row.next hb, h.s.below (hb.mono (Nat.le_of_lt hp)), h.s'.below (hb.mono (Nat.le_of_lt hp)), h.le, h.hn, h.hm, h.ars⟩
theorem Cur.drewN {w : World} {p : Nat} {A : Option Addr} {n c : Nat} {A' : Option Addr} {m c' : Nat} {sg t : List Int} {k : Nat} (h : Cur w p A n c A' m c' sg t k) (d : Nat) : Cur (w.drewN d) p A n c A' m c' sg t k :=
  ⟨h.row, h.s, h.s', h.le, h.hn, h.hm, h.ars⟩
theorem Cur.step {w : World} {p : Nat} {A : Option Addr} {n c : Nat} {A' : Option Addr} {m c' : Nat} {sg t : List Int} {k : Nat} (h : Cur w p A n c A' m c' sg t k) (hk : k < m) (d : Nat) :
    Cur ((w.drewN d).setCell ⟨p, 2, none⟩ (.int .i64 ((k : Int) + 1))) p A n c A' m c' sg t (k + 1) := by
  have r := (h.row.drewN d).put 2 (.int .i64 ((k : Int) + 1))
  refine ⟨?_, (h.s.drewN d).put (p := ⟨p, 2, none⟩) (Nat.le_refl _) _, (h.s'.drewN d).put (p := ⟨p, 2, none⟩) (Nat.le_refl _) _, hk, h.hn, h.hm, h.ars⟩
  have e : (.int .i64 ((k : Int) + 1) : Value) = .int .i64 ((k + 1 : Nat) : Int) := by simp
  rw [← e]
  exact r

set_option maxHeartbeats 1000000 in
theorem next (p : Nat) (A : Option Addr) (n c : Nat) (A' : Option Addr) (m c' : Nat) (sg t : List Int) (k : Nat) (w : World) (h : Cur w p A n c A' m c' sg t k) :
    Calls Try.prog 117 #[.pointer (some ⟨p, 0, none⟩)] w (AnsNext w p A n c A' m c' sg t k) := by
  have hr := h.row
  have hk := h.le
  have hm := h.hm
  have hp : p < w.heap.size := hr.lt
  have c0 : w.cell? ⟨p, 0, none⟩ = some (.slice A n c) := hr.cell 0
  have c1 : w.cell? ⟨p, 1, none⟩ = some (.slice A' m c') := hr.cell 1
  have c2 : w.cell? ⟨p, 2, none⟩ = some (.int .i64 k) := hr.cell 2
  have f2 : w.frozen? ⟨p, 2, none⟩ = false := hr.free 2
  by_cases hlt : k < m
  · obtain ⟨b, off, x, rfl, hbb, hx, ex⟩ := h.s'.spot hlt
    have i0 : (0 : Int) ≤ (k : Int) := by omega
    have i1 : (k : Int) < (m : Int) := by omega
    have HS := Lib.hid (fun d => h.step hlt d)
    have HG := Lib.hid (fun d => grown_put (grown_drewN (World.grownBy.refl w (some p)) d) 2 (.int .i64 ((k : Int) + 1)))
    clear hr h
    go_enter Try.func117, Try.ntmps117
    go_wp2
    go_quiet (fail)
    go_wp2
    go_quiet (fail)
    go_wp2_with fail
    refine (implArity A n c sg x _ ((HS.out _).s.more (Nat.le_of_lt (HS.out _).row.lt)) (HS.out 0).hn).mono ?_
    rintro e w' ⟨rfl, bb⟩
    have F : AnsNext w p A n c (some ⟨b, off, none⟩) m c' sg t k (.returned (.int .i64 (ar sg x))) w' :=
      ⟨grown_trans (HG.out _) (grown_below bb _), .inl ⟨hlt, by rw [ex.out], (HS.out _).below bb⟩⟩
    have HF := Lib.hid F
    clear F HG HS bb ex
    go_wp2
    go_ret
    exact HF.out
  · have e : k = m := by omega
    have HS := Lib.hid (fun d => h.drewN d)
    have HE := Lib.hid e
    have i2 : decide (m ≤ k) = true := by simp; omega
    clear e hr h
    go_enter Try.func117, Try.ntmps117
    go_wp2
    go_quiet (fail)
    go_wp2
    go_ret
    exact ⟨grown_drewN (World.grownBy.refl w (some p)) _, .inr ⟨HE.out, rfl, HS.out _⟩⟩

/-- what pass gives at place k -/
def AnsPass (w : World) (p : Nat) (A : Option Addr) (n c : Nat) (A' : Option Addr) (m c' : Nat) (sg t : List Int) (k : Nat) (e : Ending) (w' : World) : Prop :=
  w.grownBy w' (some p) ∧ ((∃ j, scan sg 1 (t.drop k) = some j ∧ e = .returned (.bool true) ∧ Cur w' p A n c A' m c' sg t (k + j)) ∨ (scan sg 1 (t.drop k) = none ∧ e = .returned (.bool false) ∧ ∃ k', Cur w' p A n c A' m c' sg t k'))

/-- the head of the loop: q terms are still missing -/
def HeadPass (w : World) (p : Nat) (A : Option Addr) (n c : Nat) (A' : Option Addr) (m c' : Nat) (sg t : List Int) (a : Nat) (q : Value) (wr : World) : Prop :=
  ∃ k q' : Nat, q = .int .i64 q' ∧ q' ≤ 3 * k + 1 ∧ Scn sg t a k q' ∧ Cur wr p A n c A' m c' sg t k ∧ w.grownBy wr (some p)

def placeOf (p : Nat) (wr : World) : Nat := (intOf ((wr.cell? ⟨p, 2, none⟩).getD undef)).toNat
theorem placeOf_cur {w : World} {p : Nat} {A : Option Addr} {n c : Nat} {A' : Option Addr} {m c' : Nat} {sg t : List Int} {k : Nat} (h : Cur w p A n c A' m c' sg t k) : placeOf p w = k := by
  have c2 : w.cell? ⟨p, 2, none⟩ = some (.int .i64 k) := h.row.cell 2
  unfold placeOf
  rw [c2]
  simp [intOf]

set_option maxHeartbeats 1000000 in
theorem pass (p : Nat) (A : Option Addr) (n c : Nat) (A' : Option Addr) (m c' : Nat) (sg t : List Int) (a : Nat) (w : World) (h : Cur w p A n c A' m c' sg t a) :
    Calls Try.prog 104 #[.pointer (some ⟨p, 0, none⟩)] w (AnsPass w p A n c A' m c' sg t a) := by
  have hm := h.hm
  have HL := Lib.hid h.s'.1
  have hs := h.ars
  have H0 : HeadPass w p A n c A' m c' sg t a (.int .i64 1) w := ⟨a, 1, rfl, by omega, Scn.start (by rw [HL.out]; exact h.le), h, World.grownBy.refl _ _⟩
  have HH := Lib.hid H0
  clear H0 h
  go_enter Try.func104, Try.ntmps104
  go_wp2_with fail
  go_loopw [3, 4] (fun q _ wr => HeadPass w p A n c A' m c' sg t a q wr) (fun _ _ wr => m - placeOf p wr)
  case atStart => exact HH.out
  case round =>
    obtain ⟨k, q, rfl, hq, hl, hc, hg⟩ := hrel
    clear HH
    have hk := hc.le
    by_cases h0 : q = 0
    · subst h0
      have S : AnsPass w p A n c A' m c' sg t a (.returned (.bool true)) wr := ⟨hg, .inl ⟨k - a, hl.done, rfl, by rw [show a + (k - a) = k by have := hl.1; omega]; exact hc⟩⟩
      have HS := Lib.hid S
      clear S hl hc hg
      go_wp2
      go_ret
      exact HS.out
    · obtain ⟨q1, rfl⟩ : ∃ q1, q = q1 + 1 := ⟨q - 1, by omega⟩
      have hq0 : (0 : Int) < ((q1 + 1 : Nat) : Int) := by omega
      go_wp2_with fail
      refine (next p A n c A' m c' sg t k wr hc).mono ?_
      rintro e w2 ⟨g2, ⟨hlt, rfl, hc2⟩ | ⟨hk', rfl, hc2⟩⟩
      · obtain ⟨z, hz⟩ : ∃ z, ar sg (t.getD k 0) = z := ⟨_, rfl⟩
        have hzb := ar_bd hs (t.getD k 0)
        rw [hz] at hzb ⊢
        by_cases hneg : z < 0
        · have S : AnsPass w p A n c A' m c' sg t a (.returned (.bool false)) w2 := ⟨grown_trans hg g2, .inr ⟨hl.bad (by rw [HL.out]; exact hlt) rfl (by rw [hz]; exact hneg), rfl, _, hc2⟩⟩
          have HS := Lib.hid S
          clear S hl hc hg hc2 g2 hz
          go_wp2
          go_ret
          exact HS.out
        · have hl' := hl.step (by rw [HL.out]; exact hlt) rfl (by rw [hz]; exact hneg)
          rw [hz] at hl'
          have S : HeadPass w p A n c A' m c' sg t a (.int .i64 ((q1 : Int) + z)) w2 := ⟨k + 1, q1 + z.toNat, by congr 1; omega, by omega, hl', hc2, grown_trans hg g2⟩
          have HS := Lib.hid S
          have M := Lib.hid (show m - placeOf p w2 < m - placeOf p wr by rw [placeOf_cur hc, placeOf_cur hc2]; omega)
          have hz1 := hzb.1
          have hz2 := hzb.2
          have hq2 : (q1 : Int) ≤ 3145728 := by omega
          clear S hl hc hg hc2 g2 hz hl' hzb
          go_wp2
          go_roundw
          case rel => rw [show (q1 : Int) + 1 + z - 1 = (q1 : Int) + z by omega]; exact HS.out
          case measure => exact M.out
      · have S : AnsPass w p A n c A' m c' sg t a (.returned (.bool false)) w2 := ⟨grown_trans hg g2, .inr ⟨hl.out (by rw [HL.out]; omega), rfl, _, hc2⟩⟩
        have HS := Lib.hid S
        clear S hl hc hg hc2 g2
        go_wp2
        go_ret
        exact HS.out
end Go.Proofs.Ytdeegjeopkcomaa.cursor
