/-
  A SLICE OF THE CALL's OWN ('Own'), and the laws' helpers that mark it: markInt64S, markSig, heldInt64S. Conditions: at most 1048576 elements, marks from 0 to 16777216. By an AI agent.
-/
import Derived.Test.YtdeegjeopkcomaaSig
import Derived.Test.YtdeegjeopkcomaaCursor
namespace Go.Proofs.Ytdeegjeopkcomaa.marks
open Go.RowKit Go.Proofs.Ytdeegjeopkcomaa.base Go.Proofs.Ytdeegjeopkcomaa.ints Go.Proofs.Ytdeegjeopkcomaa.sig Go.Proofs.Ytdeegjeopkcomaa.cursor

/-- the slice value v holds the numbers xs in a block of the call's own, from block base on -/
def Own (w : World) (base : Nat) (v : Value) (xs : List Int) : Prop := w.ownsRow base 2 1 v xs.length (xs.map (Value.int .i64))

theorem Own.nil (w : World) (base : Nat) : Own w base (.slice none 0 0) [] := World.ownsRow_nil w base 2 1
/-- what it looks like -/
theorem Own.form {w : World} {base : Nat} {v : Value} {xs : List Int} (h : Own w base v xs) : (v = .slice none 0 0 ∧ xs = []) ∨
    ∃ g c cur, v = .slice (some ⟨g, 0, none⟩) xs.length c ∧ base ≤ g ∧ Row w g 2 cur ∧ xs.length ≤ cur.size ∧ ∀ j, j < xs.length → cur[j]? = some (.int .i64 (xs.getD j 0)) := by
  obtain ⟨h1, h2⟩ := h
  rcases h2 with ⟨rfl, h0⟩ | ⟨g, cap, cur, rfl, hb, hg, hn, _, hs, ht⟩
  · exact .inl ⟨rfl, List.eq_nil_of_length_eq_zero h0⟩
  · refine .inr ⟨g, cap, cur, rfl, hb, hg, by omega, fun j hj => ?_⟩
    have h3 : (cur.toList.take (xs.length * 1))[j]? = (xs.map (Value.int .i64))[j]? := by rw [ht]
    rw [List.getElem?_take, if_pos (by omega)] at h3
    simpa [List.getD, hj] using h3
theorem Own.slice {w : World} {base : Nat} {v : Value} {xs : List Int} (h : Own w base v xs) : ∃ A c, v = .slice A xs.length c := by
  rcases h.form with ⟨rfl, rfl⟩ | ⟨g, c, _, rfl, _⟩
  · exact ⟨none, 0, rfl⟩
  · exact ⟨_, c, rfl⟩
theorem Own.seg {w : World} {base : Nat} {A : Option Addr} {n c : Nat} {xs : List Int} (h : Own w base (.slice A n c) xs) : Seg w w.heap.size A n xs := by
  rcases h.form with ⟨e, rfl⟩ | ⟨g, c', cur, e, hb, hr, hs, hc⟩
  · injection e with e1 e2 e3
    subst e1 e2
    exact Seg.empty
  · injection e with e1 e2 e3
    subst e1 e2
    exact hr.seg rfl hr.lt hc
theorem Own.next {w w' : World} {base : Nat} {v : Value} {xs : List Int} (h : Own w base v xs) (hb : Below w.heap.size w w') : Own w' base v xs :=
  World.ownsRow.kept h ⟨hb.os, hb.tape, hb.output, hb.size, fun k hk _ => hb.block k hk⟩ (row := none) (by cases v.ownBlock <;> simp)
/-- a row of numbers is owned -/
theorem Own.of_row {w : World} {base g n c : Nat} {cs : Array Value} {xs : List Int} (hr : Row w g 2 cs) (hl : xs.length = n) (hs : cs.size = c) (hn : n ≤ c) (hm : c ≤ 9223372036854775807) (hb : base ≤ g) (hc : ∀ j, j < n → cs[j]? = some (.int .i64 (xs.getD j 0))) : Own w base (.slice (some ⟨g, 0, none⟩) n c) xs := by
  subst hl
  refine ⟨by simp, .inr ⟨g, c, cs, rfl, hb, hr, hn, by unfold maxLen; omega, by omega, ?_⟩⟩
  refine List.ext_getElem? fun j => ?_
  rw [List.getElem?_take]
  by_cases hj : j < xs.length
  · rw [if_pos (by omega)]
    have := hc j hj
    simp [List.getD, hj] at this ⊢
    exact this
  · rw [if_neg (by omega)]
    have : (xs.map (Value.int .i64))[j]? = none := List.getElem?_eq_none (by simp; omega)
    rw [this]

/-- block of a slice's address -/
def blk (A : Option Addr) : Option Nat := A.map (·.block)
theorem Seg.far {w w' : World} {B n : Nat} {A : Option Addr} {xs : List Int} {r : Option Nat} (h : Seg w B A n xs) (hg : w.grownBy w' r) (hB : B ≤ w.heap.size) (hr : ∀ k, r = some k → B ≤ k) : Seg w' B A n xs :=
  h.keep fun q hq => World.cell?_of_block (hg.block q.block (by omega) (fun e => by have := hr _ e.symm; omega))
/-- a slice of the call's own stays, where another block is written -/
theorem Own.far {w w' : World} {base : Nat} {v : Value} {xs : List Int} {r : Option Nat} (h : Own w base v xs) (hg : w.grownBy w' r) (hr : ∀ k, r = some k → k < base) : Own w' base v xs := by
  refine World.ownsRow.kept h hg ?_
  cases hv : v.ownBlock with
  | none => exact .inl rfl
  | some g =>
    right
    intro e
    have h1 := World.ownsRow.lt h g hv
    have h2 := hr g e.symm
    omega
theorem Row.away {w w' : World} {g : Nat} {t : TypeId} {cs : Array Value} {r : Option Nat} (h : Row w g t cs) (hg : w.grownBy w' r) (hr : r ≠ some g) : Row w' g t cs := (hg.block g h.lt (fun e => hr e.symm)).trans h

theorem Own.ge {w : World} {base : Nat} {A : Option Addr} {n c : Nat} {xs : List Int} (h : Own w base (.slice A n c) xs) : ∀ k, blk A = some k → base ≤ k := fun k hk => by
  refine (World.ownsRow.lt h k ?_).1
  cases A with
  | none => cases hk
  | some a => exact hk
theorem Own.drewN {w : World} {base : Nat} {v : Value} {xs : List Int} (h : Own w base v xs) (d : Nat) : Own (w.drewN d) base v xs := h
theorem Own.drew {w : World} {base : Nat} {v : Value} {xs : List Int} (h : Own w base v xs) : Own w.drew base v xs := h
/-- a buffer that may be written: nothing, or the head of a row of numbers -/
def Buf (w : World) (A : Option Addr) (n : Nat) : Prop := n = 0 ∨ ∃ g cs, A = some ⟨g, 0, none⟩ ∧ Row w g 2 cs ∧ n ≤ cs.size
theorem Own.buf {w : World} {base : Nat} {A : Option Addr} {n c : Nat} {xs : List Int} (h : Own w base (.slice A n c) xs) : Buf w A n := by
  rcases h.form with ⟨e, rfl⟩ | ⟨g, c', cur, e, hb, hr, hs, hc⟩
  · injection e with e1 e2 e3
    exact .inl e2
  · injection e with e1 e2 e3
    subst e1 e2
    exact .inr ⟨g, cur, rfl, hr, hs⟩

/-- the marks: k, k + 1, .. -/
def marks (k : Int) (n : Nat) : List Int := (List.range n).map fun (j : Nat) => k + (j : Int)
theorem marks_len (k : Int) (n : Nat) : (marks k n).length = n := by simp [marks]
theorem marks_get {k : Int} {n j : Nat} (h : j < n) : (marks k n).getD j 0 = k + (j : Int) := by simp [marks, List.getD, h]

/-- the head of the marking loop -/
def HeadMark (w : World) (g n : Nat) (k : Int) (z : Nat) (kk i : Value) (wr : World) : Prop :=
  ∃ (j : Nat) (cs : Array Value), j ≤ n ∧ i = .int .i64 j ∧ kk = .int .i64 (k + (j : Int)) ∧ Row wr g 2 cs ∧ cs.size = z ∧ (∀ q, q < j → cs[q]? = some (.int .i64 (k + (q : Int)))) ∧ w.grownBy wr (some g)
theorem headMark_step {w wr : World} {g n : Nat} {k : Int} {z j : Nat} {cs : Array Value} (hj : j < n) (hz : n ≤ z) (hr : Row wr g 2 cs) (hs : cs.size = z) (hc : ∀ q, q < j → cs[q]? = some (.int .i64 (k + (q : Int)))) (hg : w.grownBy wr (some g)) :
    HeadMark w g n k z (.int .i64 (k + (j : Int) + 1)) (.int .i64 ((j : Int) + 1)) (wr.setCell ⟨g, j, none⟩ (.int .i64 (k + (j : Int)))) := by
  refine ⟨j + 1, _, hj, by simp, congrArg (Value.int .i64) (by omega), hr.put j _, by simp [hs], fun q hq => ?_, grown_put hg _ _⟩
  rw [Array.getElem?_setIfInBounds]
  by_cases e : j = q
  · subst e; simp [hs]; try omega
  · simp [e]; exact hc q (by omega)

/-- what marking leaves -/
def AnsMark (w : World) (A : Option Addr) (n : Nat) (k : Int) (e : Ending) (w' : World) : Prop :=
  e = .returned (.int .i64 (k + (n : Int))) ∧ w.grownBy w' (blk A) ∧ Seg w' w'.heap.size A n (marks k n) ∧ Buf w' A n

set_option maxHeartbeats 400000 in
theorem markInts (A : Option Addr) (n c : Nat) (k : Int) (w : World) (h : Buf w A n) (hn : n ≤ 1048576) (hk0 : 0 ≤ k) (hk : k ≤ 16777216) :
    Calls Try.prog 53 #[.slice A n c, .int .i64 k] w (AnsMark w A n k) := by
  by_cases h0 : n = 0
  · subst h0
    clear h
    go_enter Try.func53, Try.ntmps53
    go_wp2
    go_loop [1, 5] (fun kk i => kk = .int .i64 k ∧ i = .int .i64 0) (fun _ _ => 0)
    case atStart => exact ⟨rfl, rfl⟩
    case round =>
      obtain ⟨rfl, rfl⟩ := hrel
      go_wp2
      go_ret
      exact ⟨by simp, World.grownBy.refl _ _, by simpa [marks] using Seg.empty, .inl rfl⟩
  · rcases h with h | ⟨g, cs0, rfl, hr0, hz⟩
    · exact absurd h h0
    · obtain ⟨z, hz0⟩ : ∃ z, cs0.size = z := ⟨_, rfl⟩
      rw [hz0] at hz
      have S0 : HeadMark w g n k z (.int .i64 k) (.int .i64 0) w := ⟨0, cs0, Nat.zero_le _, rfl, by simp, hr0, hz0, fun q hq => absurd hq (Nat.not_lt_zero _), World.grownBy.refl _ _⟩
      have HS0 := Lib.hid S0
      clear S0 hz0 hr0
      go_enter Try.func53, Try.ntmps53
      go_wp2
      go_loopw [1, 5] (fun kk i wr => HeadMark w g n k z kk i wr) (fun _ i _ => n - (intOf i).toNat)
      case atStart => exact HS0.out
      case round =>
        obtain ⟨j, cs, hj, rfl, rfl, hr, hs, hc, hg⟩ := hrel
        clear HS0
        by_cases hlt : j < n
        · have S := Lib.hid (headMark_step (k := k) hlt hz hr hs hc hg)
          obtain ⟨u, hu⟩ : ∃ u, wr.cell? ⟨g, j, none⟩ = some u := ⟨_, (hr.cell j).trans (Array.getElem?_eq_getElem (by omega))⟩
          have hf : wr.frozen? ⟨g, j, none⟩ = false := hr.free j
          clear hr hs hc hg
          go_wp2
          go_roundw
          case rel => exact S.out
          case measure => simp [intOf]; omega
        · have e : j = n := by omega
          subst e
          have F : AnsMark w (some ⟨g, 0, none⟩) j k (.returned (.int .i64 (k + (j : Int)))) wr :=
            ⟨rfl, hg, hr.seg (marks_len _ _) hr.lt (fun q hq => by rw [marks_get hq]; exact hc q hq), .inr ⟨g, cs, rfl, hr, by omega⟩⟩
          have HF := Lib.hid F
          clear F hr hs hc hg
          go_wp2
          go_ret
          exact HF.out

set_option maxHeartbeats 400000 in
theorem markSig (A : Option Addr) (n c : Nat) (k : Int) (w : World) (h : Buf w A n) (hn : n ≤ 1048576) (hk0 : 0 ≤ k) (hk : k ≤ 16777216) :
    Calls Try.prog 47 #[.agg #[.slice A n c], .int .i64 k] w (AnsMark w A n k) := by
  obtain ⟨W, hW⟩ : ∃ W, W = w.alloc (.cells #[.slice A n c] 26) := ⟨_, rfl⟩
  have bel : w.grownBy W (blk A) := by rw [hW]; exact World.grownBy_alloc _ _ _
  have hb : Buf W A n := by
    rcases h with h | ⟨g, cs, rfl, hr, hz⟩
    · exact .inl h
    · exact .inr ⟨g, cs, rfl, by rw [hW]; exact hr.alloc _, hz⟩
  have HW := Lib.hid hW
  have L := Lib.hid (markInts A n c k W hb hn hk0 hk)
  clear hW h hb
  go_enter Try.func47, Try.ntmps47
  go_wp2_with fail
  rw [← HW.out]
  refine L.out.mono ?_
  rintro e w' ⟨rfl, hg, hs, hb⟩
  have F : AnsMark w A n k (.returned (.int .i64 (k + (n : Int)))) w' := ⟨rfl, grown_trans bel hg, hs, hb⟩
  have HF := Lib.hid F
  clear F hg hs hb bel
  go_wp2
  go_ret
  exact HF.out

/-- the marks are found again -/
theorem heldInts (A : Option Addr) (n c : Nat) (k : Int) (w : World) (h : Seg w w.heap.size A n (marks k n)) (hn : n ≤ 1048576) (hk0 : 0 ≤ k) (hk : k ≤ 16777216) :
    Calls Try.prog 54 #[.slice A n c, .int .i64 k] w fun e w' => w = w' ∧ e = .returned (.int .i64 (k + (n : Int))) := by
  go_enter Try.func54, Try.ntmps54
  go_wp2
  go_loop [1, 5] (fun kk i => ∃ j : Nat, j ≤ n ∧ i = .int .i64 j ∧ kk = .int .i64 (k + (j : Int))) (fun _ i => n - (intOf i).toNat)
  case atStart => exact ⟨0, Nat.zero_le _, rfl, by simp⟩
  case round =>
    obtain ⟨j, hj, rfl, rfl⟩ := hrel
    by_cases hlt : j < n
    · obtain ⟨b, off, x, rfl, -, hx, ex⟩ := h.spot hlt
      have e1 : x = k + (j : Int) := by rw [← ex.out, marks_get hlt]
      subst e1
      have e2 : (k + (j : Int) != k + (j : Int)) = false := by simp
      clear h ex
      go_wp2
      go_round
      case rel => exact ⟨j + 1, hlt, by go_num, congrArg (Value.int .i64) (by omega)⟩
      case measure => simp [intOf]; omega
    · have e : j = n := by omega
      subst e
      clear h
      go_wp2
      go_ret
      exact ⟨rfl, rfl⟩
end Go.Proofs.Ytdeegjeopkcomaa.marks
