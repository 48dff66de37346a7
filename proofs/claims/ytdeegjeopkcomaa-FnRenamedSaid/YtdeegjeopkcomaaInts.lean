/-
  CONTRACTS of the laws' helpers on []int64: toInt64S copies, eqInt64S compares. Conditions: the slice reads as a list ('Seg'), at most 1048576 elements. By an AI agent.
-/
import Derived.Test.YtdeegjeopkcomaaRows
import Derived.Test.YtdeegjeopkcomaaBase
import Derived.Deep.QuietTactic
import Derived.BigQuiet
namespace Go.Proofs.Ytdeegjeopkcomaa.ints
open Go.RowKit Go.Proofs.Ytdeegjeopkcomaa.base

theorem info_i64 : (Try.prog.info? 2).map (fun i => (i.zero, i.size, i.bytes)) = some (some (.int .i64 0), 1, 8) := by kernel_rfl

/-- make([]int64, n) -/
theorem run_make_i64 (n : Nat) (hn : n ≤ 1048576) (W : World) : (Instr.makeSlice 24 (.int .i64 (n : Int)) (.int .i64 (n : Int))).run Try.prog W =
    .ok (.slice (some ⟨W.heap.size, 0, none⟩) n n) (W.alloc (.cells (madeCells #[.int .i64 0] n) 2)) := by
  obtain ⟨i0, hi, hz0, hz1, hz2⟩ := info_parts info_i64
  have hr := run_make (P := Try.prog) W 24 2 i0 _ Try.underlying24 hi hz0 .i64 .i64 n n (by omega) (by omega) (by rw [hz2]; omega) (by omega)
  simpa [hz1, Value.cells] using hr

/-- the head of the copying loop: the first k cells are copied -/
def Copied (w : World) (n : Nat) (xs : List Int) (i : Value) (wr : World) : Prop :=
  ∃ (k : Nat) (cs : Array Value), k ≤ n ∧ i = .int .i64 k ∧ Row wr w.heap.size 2 cs ∧ cs.size = n ∧ (∀ j, j < k → cs[j]? = some (.int .i64 (xs.getD j 0))) ∧ wr.heap.size = w.heap.size + 1 ∧ Below w.heap.size w wr

theorem copied_start (w : World) (n : Nat) (xs : List Int) : Copied w n xs (.int .i64 0) (w.alloc (.cells (madeCells #[.int .i64 0] n) 2)) :=
  ⟨0, _, Nat.zero_le _, rfl, Row.new _ _ _, size_madeCells _ _, fun j h => absurd h (Nat.not_lt_zero _), by simp, (Below.refl _ _).alloc (Nat.le_refl _) _⟩

theorem copied_step {w wr : World} {n k : Nat} {xs : List Int} {cs : Array Value} (hk : k < n) (hr : Row wr w.heap.size 2 cs) (hs : cs.size = n) (hc : ∀ j, j < k → cs[j]? = some (.int .i64 (xs.getD j 0)))
    (hz : wr.heap.size = w.heap.size + 1) (hb : Below w.heap.size w wr) : Copied w n xs (.int .i64 ((k : Int) + 1)) (wr.setCell ⟨w.heap.size, k, none⟩ (.int .i64 (xs.getD k 0))) := by
  refine ⟨k + 1, _, hk, by simp, hr.put k _, by simp [hs], fun j hj => ?_, by simpa using hz, hb.setCell (Nat.le_refl _) _⟩
  rw [Array.getElem?_setIfInBounds]
  by_cases e : k = j
  · subst e; simp [hs, hk]
  · simp [e]; exact hc j (by omega)

set_option maxHeartbeats 400000 in
theorem toInts (A : Option Addr) (n c : Nat) (xs : List Int) (w : World) (h : Seg w w.heap.size A n xs) (hn : n ≤ 1048576) :
    Calls Try.prog 51 #[.slice A n c] w fun e w' => ∃ cs, e = .returned (.slice (some ⟨w.heap.size, 0, none⟩) n n) ∧ Row w' w.heap.size 2 cs ∧ cs.size = n ∧
      (∀ j, j < n → cs[j]? = some (.int .i64 (xs.getD j 0))) ∧ w'.heap.size = w.heap.size + 1 ∧ Below w.heap.size w w' := by
  have hmk := run_make_i64 n hn
  go_enter Try.func51, Try.ntmps51
  go_wp2
  clear hmk
  go_loopw [4] (fun i wr => Copied w n xs i wr) (fun i _ => n - (intOf i).toNat)
  case atStart => exact copied_start w n xs
  case round =>
    obtain ⟨k, cs, hk, rfl, hr, hs, hc, hz, hb⟩ := hrel
    by_cases hlt : k < n
    · obtain ⟨b, off, rfl, hbB, hx⟩ := h.round hlt
      have hx' : wr.cell? ⟨b, off + k, none⟩ = some (.int .i64 (xs.getD k 0)) := (hb.cell (p := ⟨b, off + k, none⟩) hbB).trans hx
      obtain ⟨u, hu⟩ : ∃ u, wr.cell? ⟨w.heap.size, k, none⟩ = some u := ⟨_, (hr.cell k).trans (Array.getElem?_eq_getElem (by omega))⟩
      have hf : wr.frozen? ⟨w.heap.size, k, none⟩ = false := hr.free k
      have S := Lib.hid (copied_step hlt hr hs hc hz hb)
      clear hx hr hs hc hz hb h
      go_wp2
      go_roundw
      case rel => exact S.out
      case measure => simp [intOf]; omega
    · go_wp2
      go_ret
      have : k = n := by omega
      subst this
      exact ⟨cs, rfl, hr, hs, hc, hz, hb⟩

/-- a copy, read as a list -/
theorem toSeg (A : Option Addr) (n c : Nat) (xs : List Int) (w : World) (h : Seg w w.heap.size A n xs) (hn : n ≤ 1048576) :
    Calls Try.prog 51 #[.slice A n c] w fun e w' => ∃ g, e = .returned (.slice (some ⟨g, 0, none⟩) n n) ∧ Seg w' w'.heap.size (some ⟨g, 0, none⟩) n xs ∧ Below w.heap.size w w' :=
  (toInts A n c xs w h hn).mono fun _ _ ⟨_, he, hr, _, hc, _, hb⟩ => ⟨_, he, hr.seg h.1 hr.lt hc, hb⟩

/-! ### two slices compared -/
theorem lists_eq {xs ys : List Int} {n : Nat} (hx : xs.length = n) (hy : ys.length = n) (h : ∀ j, j < n → xs.getD j 0 = ys.getD j 0) : xs = ys := by
  subst hx
  refine List.ext_getElem hy.symm fun j h1 h2 => ?_
  have := h j h1
  simpa [List.getD, h1, h2] using this

/-- the head of a comparing loop: the first k numbers are equal -/
def HeadSame (w : World) (n : Nat) (xs ys : List Int) (i : Value) (wr : World) : Prop :=
  ∃ (k d : Nat), k ≤ n ∧ i = .int .i64 k ∧ wr = w.drewN d ∧ ∀ j, j < k → xs.getD j 0 = ys.getD j 0

theorem alike_step {w : World} {n k : Nat} {xs ys : List Int} {x : Int} (hk : k < n) (h : ∀ j, j < k → xs.getD j 0 = ys.getD j 0) (hx : Hid (xs.getD k 0 = x)) (hy : Hid (ys.getD k 0 = x)) (d : Nat) :
    HeadSame w n xs ys (.int .i64 ((k : Int) + 1)) (w.drewN d) :=
  ⟨k + 1, d, hk, by simp, rfl, fun j hj => by
    by_cases e : j = k
    · subst e; rw [hx.out, hy.out]
    · exact h j (by omega)⟩

def AnsSame (w : World) (xs ys : List Int) (e : Ending) (w' : World) : Prop := e = .returned (.bool (decide (xs = ys))) ∧ ∃ d, w' = w.drewN d
theorem same_not {w : World} {xs ys : List Int} {k : Nat} {x y : Int} (hx : Hid (xs.getD k 0 = x)) (hy : Hid (ys.getD k 0 = y)) (h : ¬ x = y) (d : Nat) : AnsSame w xs ys (.returned (.bool false)) (w.drewN d) :=
  ⟨by rw [decide_eq_false (fun e => h (by rw [← hx.out, ← hy.out, e]))], d, rfl⟩
theorem same_yes {w : World} {xs ys : List Int} {n k : Nat} (hx : xs.length = n) (hy : ys.length = n) (hn : ¬ k < n) (h : ∀ j, j < k → xs.getD j 0 = ys.getD j 0) (d : Nat) : AnsSame w xs ys (.returned (.bool true)) (w.drewN d) :=
  ⟨by rw [decide_eq_true (lists_eq hx hy (fun j hj => h j (by omega)))], d, rfl⟩
theorem same_len {w : World} {xs ys : List Int} {n m : Nat} (hx : xs.length = n) (hy : ys.length = m) (h : ¬ n = m) : AnsSame w xs ys (.returned (.bool false)) w :=
  ⟨by rw [decide_eq_false (fun e => h (by rw [← hx, ← hy, e]))], 0, rfl⟩

set_option maxHeartbeats 400000 in
theorem eqInts (A A' : Option Addr) (n m c c' : Nat) (xs ys : List Int) (w : World) (h : Seg w w.heap.size A n xs) (h' : Seg w w.heap.size A' m ys) (hn : n ≤ 1048576) (hm : m ≤ 1048576) :
    Calls Try.prog 52 #[.slice A n c, .slice A' m c'] w (AnsSame w xs ys) := by
  by_cases hnm : n = m
  · subst hnm
    go_enter Try.func52, Try.ntmps52
    go_wp2
    go_loopw [5] (fun i wr => HeadSame w n xs ys i wr) (fun i _ => n - (intOf i).toNat)
    case atStart => exact ⟨0, 0, Nat.zero_le _, rfl, rfl, fun j h => absurd h (Nat.not_lt_zero _)⟩
    case round =>
      obtain ⟨k, d, hk, rfl, rfl, hc⟩ := hrel
      by_cases hlt : k < n
      · obtain ⟨b, off, x, rfl, -, hx, ex⟩ := h.spot hlt
        obtain ⟨b', off', y, rfl, -, hx', ey⟩ := h'.spot hlt
        by_cases he : x = y
        · subst he
          have S := Lib.hid (alike_step (w := w) hlt hc ex ey)
          clear hc h h' ex ey
          go_wp2
          go_quiet (fail)
          go_wp2
          go_roundw
          case rel => exact S.out _
          case measure => simp [intOf]; omega
        · have S := Lib.hid (same_not (w := w) ex ey he)
          have hne : (x != y) = true := by simp [he]
          clear hc h h' ex ey he
          go_wp2
          go_quiet (fail)
          go_wp2
          go_ret
          rw [World.drewN_drewN]
          exact S.out _
      · have S := Lib.hid (same_yes (w := w) h.1 h'.1 hlt hc)
        clear hc h h'
        go_wp2
        go_ret
        exact S.out _
  · have S := Lib.hid (same_len (w := w) h.1 h'.1 hnm)
    have hne : ((n : Int) != (m : Int)) = true := by simp; omega
    clear h h'
    go_enter Try.func52, Try.ntmps52
    go_wp2
    go_ret
    exact S.out

/-- two readings of one list are equal -/
theorem eqYes (A A' : Option Addr) (n c c' : Nat) (xs : List Int) (w : World) (h : Seg w w.heap.size A n xs) (h' : Seg w w.heap.size A' n xs) (hn : n ≤ 1048576) :
    Calls Try.prog 52 #[.slice A n c, .slice A' n c'] w fun e w' => e = .returned (.bool true) ∧ ∃ d, w' = w.drewN d :=
  (eqInts A A' n n c c' xs xs w h h' hn hn).mono fun _ _ ⟨he, hd⟩ => ⟨by rw [he]; simp, hd⟩

/-- what a law's walk ends in -/
def Fine (w : World) (e : Ending) (w' : World) : Prop := e = .returned (.bool true) ∧ Below w.heap.size w w'
end Go.Proofs.Ytdeegjeopkcomaa.ints
