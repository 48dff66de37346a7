/-
  MERGED: my texts Base, Open, Ints, Sig, LpoMath, RankMath, Term, Arity, End, Cursor, TermOk, Term2, EndOf, Marks, Append, List, Sym, Copy, CurO, Sub, Args, Depth, TermMath, TermFacts, PosMath, VarsMath, FillMath, RenMath, MatchMath, PlainMath, UnifMath, Forest, Nodes, AppAt, Segs, Vars, AnsB, VarsOf, CountL, Linear, RuleMath, PutMath, SegsHelp, SegsMark, Kinds, Look, SubstOk, Gives, StepMath, WalkMath, ParMath, LpoLink, KboMath, Shape, Shape2, KindsR, one behind the other, as they are. By an AI agent.
-/
import Derived.WalkKit
import Derived.Lib.Hide
import Derived.Deep.Draws
import Derived.ProofKit
import Derived.OpenShut
import Derived.Lib.SmallJoins
import Derived.Test.YtiimbmkofpnebaaRows
import Derived.Deep.QuietTactic
import Derived.BigQuiet
import Derived.Deep.RegionHeld3
import Derived.Deep.AppendLies
import Derived.Laws.AppendOwnNone
import Derived.WalkSpells
import Derived.Maps.AppendAt
import Derived.Shelf.Abstract
namespace Go.Proofs.Ytiimbmkofpnebaa
section
namespace base
open Go.RowKit
def Seg (w : World) (B : Nat) (A : Option Addr) (n : Nat) (xs : List Int) : Prop :=
 xs.length = n ∧ (0 < n → ∃ b off, A = some ⟨b, off, none⟩ ∧ b < B ∧ ∀ j, j < n → w.cell? ⟨b, off + j, none⟩ = some (.int .i64 (xs.getD j 0)))
def Row (w : World) (g : Nat) (t : TypeId) (cs : Array Value) : Prop := w.heap[g]? = some (.cells cs t (0, 0))
section
variable {w w' : World} {B B' n : Nat} {A : Option Addr} {xs : List Int}
theorem Seg.round (h : Seg w B A n xs) {k : Nat} (hk : k < n) : ∃ b off, A = some ⟨b, off, none⟩ ∧ b < B ∧ w.cell? ⟨b, off + k, none⟩ = some (.int .i64 (xs.getD k 0)) := by
 obtain ⟨b, off, e, hb, hc⟩ := h.2 (by omega)
 exact ⟨b, off, e, hb, hc k hk⟩
theorem Seg.spot (h : Seg w B A n xs) {k : Nat} (hk : k < n) : ∃ b off x, A = some ⟨b, off, none⟩ ∧ b < B ∧ w.cell? ⟨b, off + k, none⟩ = some (.int .i64 x) ∧ Hid (xs.getD k 0 = x) := by
 obtain ⟨b, off, e, hb, hc⟩ := h.2 (by omega)
 exact ⟨b, off, _, e, hb, hc k hk, Lib.hid rfl⟩
theorem Seg.keep (h : Seg w B A n xs) (hk : ∀ p : Addr, p.block < B → w'.cell? p = w.cell? p) : Seg w' B A n xs :=
 ⟨h.1, fun hn => by
  obtain ⟨b, off, e, hb, hc⟩ := h.2 hn
  exact ⟨b, off, e, hb, fun j hj => (hk ⟨b, off + j, none⟩ hb).trans (hc j hj)⟩⟩
theorem Seg.more (h : Seg w B A n xs) (hB : B ≤ B') : Seg w B' A n xs :=
 ⟨h.1, fun hn => by
  obtain ⟨b, off, e, hb, hc⟩ := h.2 hn
  exact ⟨b, off, e, by omega, hc⟩⟩
theorem Seg.below (h : Seg w B A n xs) (hb : Below B w w') : Seg w' B A n xs := h.keep fun _ hp => hb.cell hp
theorem Seg.next (h : Seg w w.heap.size A n xs) (hb : Below w.heap.size w w') : Seg w' w'.heap.size A n xs := (h.below hb).more hb.size
theorem Row.lt {g : Nat} {t : TypeId} {cs : Array Value} (h : Row w g t cs) : g < w.heap.size := by
 unfold Row at h
 exact (Array.getElem?_eq_some_iff.1 h).1
theorem Row.cell {g : Nat} {t : TypeId} {cs : Array Value} (h : Row w g t cs) (i : Nat) : w.cell? ⟨g, i, none⟩ = cs[i]? := cell_of_row w g i cs t (0, 0) h
theorem Row.free {g : Nat} {t : TypeId} {cs : Array Value} (h : Row w g t cs) (i : Nat) : w.frozen? ⟨g, i, none⟩ = false := by
 unfold Row at h
 simp [World.frozen?, h]
theorem Row.new (w : World) (t : TypeId) (cs : Array Value) : Row (w.alloc (.cells cs t)) w.heap.size t cs := heap_alloc_new w _
theorem Row.put {g : Nat} {t : TypeId} {cs : Array Value} (h : Row w g t cs) (i : Nat) (u : Value) : Row (w.setCell ⟨g, i, none⟩ u) g t (cs.setIfInBounds i u) := by
 unfold Row at h ⊢
 simp [World.setCell, Array.getElem?_modify, h]
theorem Row.far {g : Nat} {t : TypeId} {cs : Array Value} (h : Row w g t cs) {p : Addr} (hp : g ≠ p.block) (u : Value) : Row (w.setCell p u) g t cs := (Below.heap_setCell w p u g hp).trans h
theorem Row.alloc {g : Nat} {t : TypeId} {cs : Array Value} (h : Row w g t cs) (o : Obj) : Row (w.alloc o) g t cs := (Below.heap_alloc w o g h.lt).trans h
theorem Row.drew {g : Nat} {t : TypeId} {cs : Array Value} (h : Row w g t cs) : Row w.drew g t cs := h
theorem Row.below {g : Nat} {t : TypeId} {cs : Array Value} (h : Row w g t cs) (hb : Below B w w') (hg : g < B) : Row w' g t cs := (hb.block g hg).trans h
theorem Row.next {g : Nat} {t : TypeId} {cs : Array Value} (h : Row w g t cs) (hb : Below w.heap.size w w') : Row w' g t cs := h.below hb h.lt
theorem next_trans {a b c : World} (h : Below a.heap.size a b) (k : Below b.heap.size b c) : Below a.heap.size a c := h.trans (k.mono h.size)
end
end base
end
section
namespace openArgs
open Go.ChangeShapes Go.WideShapes Go.ChangeAt Go.RowKit base
section
variable {H : Type} {enc : TypeId × Value → H} {P : Program} {w : World}
end
end openArgs
end
section
namespace ints
open Go.RowKit base
theorem info_i64 : (Try.prog.info? 2).map (fun i => (i.zero, i.size, i.bytes)) = some (some (.int .i64 0), 1, 8) := by kernel_rfl
theorem run_make_i64 (n : Nat) (hn : n ≤ 1048576) (W : World) : (Instr.makeSlice 27 (.int .i64 (n : Int)) (.int .i64 (n : Int))).run Try.prog W =
  .ok (.slice (some ⟨W.heap.size, 0, none⟩) n n) (W.alloc (.cells (madeCells #[.int .i64 0] n) 2)) := by
 obtain ⟨i0, hi, hz0, hz1, hz2⟩ := info_parts info_i64
 have hr := run_make (P := Try.prog) W 27 2 i0 _ Try.underlying27 hi hz0 .i64 .i64 n n (by omega) (by omega) (by rw [hz2]; omega) (by omega)
 simpa [hz1, Value.cells] using hr
def Copied (w : World) (n : Nat) (xs : List Int) (i : Value) (wr : World) : Prop :=
 ∃ (k : Nat) (cs : Array Value), k ≤ n ∧ i = .int .i64 k ∧ Row wr w.heap.size 2 cs ∧ cs.size = n ∧ (∀ j, j < k → cs[j]? = some (.int .i64 (xs.getD j 0))) ∧ wr.heap.size = w.heap.size + 1 ∧ Below w.heap.size w wr
theorem copied_start (w : World) (n : Nat) (xs : List Int) : Copied w n xs (.int .i64 0) (w.alloc (.cells (madeCells #[.int .i64 0] n) 2)) :=
 ⟨0, _, Nat.zero_le _, rfl, Row.new _ _ _, size_madeCells _ _, fun j h => absurd h (Nat.not_lt_zero _), by simp, (Below.refl _ _).alloc (Nat.le_refl _) _⟩
theorem copied_step {w wr : World} {n k : Nat} {xs : List Int} {cs : Array Value} (hk : k < n) (hr : Row wr w.heap.size 2 cs) (hs : cs.size = n) (hc : ∀ j, j < k → cs[j]? = some (.int .i64 (xs.getD j 0)))
  (hz : wr.heap.size = w.heap.size + 1) (hb : Below w.heap.size w wr) : Copied w n xs (.int .i64 ((k : Int) + 1)) (wr.setCell ⟨w.heap.size, k, none⟩ (.int .i64 (xs.getD k 0))) := by
 refine ⟨k + 1, _, hk, by simp, hr.put k _, by simp [hs], fun j hj => ?_, by simpa using hz, hb.setCell (Nat.le_refl _) _⟩
 rw [Array.getElem?_setIfInBounds]
 by_cases e : k = j
 ·subst e; simp [hs, hk]
 ·simp [e]; exact hc j (by omega)
set_option maxHeartbeats 400000 in
theorem toInts (A : Option Addr) (n c : Nat) (xs : List Int) (w : World) (h : Seg w w.heap.size A n xs) (hn : n ≤ 1048576) :
  Calls Try.prog 43 #[.slice A n c] w fun e w' => ∃ cs, e = .returned (.slice (some ⟨w.heap.size, 0, none⟩) n n) ∧ Row w' w.heap.size 2 cs ∧ cs.size = n ∧
   (∀ j, j < n → cs[j]? = some (.int .i64 (xs.getD j 0))) ∧ w'.heap.size = w.heap.size + 1 ∧ Below w.heap.size w w' := by
 have hmk := run_make_i64 n hn
 go_enter Try.func43, Try.ntmps43
 go_wp2
 clear hmk
 go_loopw [4] (fun i wr => Copied w n xs i wr) (fun i _ => n - (intOf i).toNat)
 case atStart => exact copied_start w n xs
 case round =>
  obtain ⟨k, cs, hk, rfl, hr, hs, hc, hz, hb⟩ := hrel
  by_cases hlt : k < n
  ·obtain ⟨b, off, rfl, hbB, hx⟩ := h.round hlt
   have hx' : wr.cell? ⟨b, off + k, none⟩ = some (.int .i64 (xs.getD k 0)) := (hb.cell (p := ⟨b, off + k, none⟩) hbB).trans hx
   obtain ⟨u, hu⟩ : ∃ u, wr.cell? ⟨w.heap.size, k, none⟩ = some u := ⟨_, (hr.cell k).trans (Array.getElem?_eq_getElem (by omega))⟩
   have hf : wr.frozen? ⟨w.heap.size, k, none⟩ = false := hr.free k
   have S := Lib.hid (copied_step hlt hr hs hc hz hb)
   clear hx hr hs hc hz hb h
   go_wp2
   go_roundw
   case rel => exact S.out
   case measure => simp [intOf]; omega
  ·go_wp2
   go_ret
   have : k = n := by omega
   subst this
   exact ⟨cs, rfl, hr, hs, hc, hz, hb⟩
theorem lists_eq {xs ys : List Int} {n : Nat} (hx : xs.length = n) (hy : ys.length = n) (h : ∀ j, j < n → xs.getD j 0 = ys.getD j 0) : xs = ys := by
 subst hx
 refine List.ext_getElem hy.symm fun j h1 h2 => ?_
 have := h j h1
 simpa [List.getD, h1, h2] using this
def HeadSame (w : World) (n : Nat) (xs ys : List Int) (i : Value) (wr : World) : Prop :=
 ∃ (k d : Nat), k ≤ n ∧ i = .int .i64 k ∧ wr = w.drewN d ∧ ∀ j, j < k → xs.getD j 0 = ys.getD j 0
theorem alike_step {w : World} {n k : Nat} {xs ys : List Int} {x : Int} (hk : k < n) (h : ∀ j, j < k → xs.getD j 0 = ys.getD j 0) (hx : Hid (xs.getD k 0 = x)) (hy : Hid (ys.getD k 0 = x)) (d : Nat) :
  HeadSame w n xs ys (.int .i64 ((k : Int) + 1)) (w.drewN d) :=
 ⟨k + 1, d, hk, by simp, rfl, fun j hj => by
  by_cases e : j = k
  ·subst e; rw [hx.out, hy.out]
  ·exact h j (by omega)⟩
def AnsSame (w : World) (xs ys : List Int) (e : Ending) (w' : World) : Prop := e = .returned (.bool (decide (xs = ys))) ∧ ∃ d, w' = w.drewN d
theorem same_not {w : World} {xs ys : List Int} {k : Nat} {x y : Int} (hx : Hid (xs.getD k 0 = x)) (hy : Hid (ys.getD k 0 = y)) (h : ¬ x = y) (d : Nat) : AnsSame w xs ys (.returned (.bool false)) (w.drewN d) :=
 ⟨by rw [decide_eq_false (fun e => h (by rw [← hx.out, ← hy.out, e]))], d, rfl⟩
theorem same_yes {w : World} {xs ys : List Int} {n k : Nat} (hx : xs.length = n) (hy : ys.length = n) (hn : ¬ k < n) (h : ∀ j, j < k → xs.getD j 0 = ys.getD j 0) (d : Nat) : AnsSame w xs ys (.returned (.bool true)) (w.drewN d) :=
 ⟨by rw [decide_eq_true (lists_eq hx hy (fun j hj => h j (by omega)))], d, rfl⟩
theorem same_len {w : World} {xs ys : List Int} {n m : Nat} (hx : xs.length = n) (hy : ys.length = m) (h : ¬ n = m) : AnsSame w xs ys (.returned (.bool false)) w :=
 ⟨by rw [decide_eq_false (fun e => h (by rw [← hx, ← hy, e]))], 0, rfl⟩
set_option maxHeartbeats 400000 in
theorem eqInts (A A' : Option Addr) (n m c c' : Nat) (xs ys : List Int) (w : World) (h : Seg w w.heap.size A n xs) (h' : Seg w w.heap.size A' m ys) (hn : n ≤ 1048576) (hm : m ≤ 1048576) :
  Calls Try.prog 44 #[.slice A n c, .slice A' m c'] w (AnsSame w xs ys) := by
 by_cases hnm : n = m
 ·subst hnm
  go_enter Try.func44, Try.ntmps44
  go_wp2
  go_loopw [5] (fun i wr => HeadSame w n xs ys i wr) (fun i _ => n - (intOf i).toNat)
  case atStart => exact ⟨0, 0, Nat.zero_le _, rfl, rfl, fun j h => absurd h (Nat.not_lt_zero _)⟩
  case round =>
   obtain ⟨k, d, hk, rfl, rfl, hc⟩ := hrel
   by_cases hlt : k < n
   ·obtain ⟨b, off, x, rfl, -, hx, ex⟩ := h.spot hlt
    obtain ⟨b', off', y, rfl, -, hx', ey⟩ := h'.spot hlt
    by_cases he : x = y
    ·subst he
     have S := Lib.hid (alike_step (w := w) hlt hc ex ey)
     clear hc h h' ex ey
     go_wp2
     go_quiet (fail)
     go_wp2
     go_roundw
     case rel => exact S.out _
     case measure => simp [intOf]; omega
    ·have S := Lib.hid (same_not (w := w) ex ey he)
     have hne : (x != y) = true := by simp [he]
     clear hc h h' ex ey he
     go_wp2
     go_quiet (fail)
     go_wp2
     go_ret
     rw [World.drewN_drewN]
     exact S.out _
   ·have S := Lib.hid (same_yes (w := w) h.1 h'.1 hlt hc)
    clear hc h h'
    go_wp2
    go_ret
    exact S.out _
 ·have S := Lib.hid (same_len (w := w) h.1 h'.1 hnm)
  have hne : ((n : Int) != (m : Int)) = true := by simp; omega
  clear h h'
  go_enter Try.func44, Try.ntmps44
  go_wp2
  go_ret
  exact S.out
theorem eqYes (A A' : Option Addr) (n c c' : Nat) (xs : List Int) (w : World) (h : Seg w w.heap.size A n xs) (h' : Seg w w.heap.size A' n xs) (hn : n ≤ 1048576) :
  Calls Try.prog 44 #[.slice A n c, .slice A' n c'] w fun e w' => e = .returned (.bool true) ∧ ∃ d, w' = w.drewN d :=
 (eqInts A A' n n c c' xs xs w h h' hn hn).mono fun _ _ ⟨he, hd⟩ => ⟨by rw [he]; simp, hd⟩
def Fine (w : World) (e : Ending) (w' : World) : Prop := e = .returned (.bool true) ∧ Below w.heap.size w w'
end ints
end
section
open Go.Lib (hid)
namespace sig
open Go.RowKit base ints
theorem szInts (A : Option Addr) (n c : Nat) (left : Int) (w : World) (hn : n ≤ 9223372036854775807) (h0 : 0 ≤ left) (h1 : left ≤ 1048576) :
  Calls Try.prog 83 #[.slice A n c, .int .i64 left] w fun e w' => w = w' ∧ e = .returned (.int .i64 (if left - n < 0 then -1 else left - n)) := by
 by_cases h : left - n < 0
 ·rw [if_pos h]
  go_enter Try.func83, Try.ntmps83
  go_wp2
  go_ret
  exact ⟨rfl, rfl⟩
 ·rw [if_neg h]
  go_enter Try.func83, Try.ntmps83
  go_wp2
  go_ret
  exact ⟨rfl, rfl⟩
theorem szSig (A : Option Addr) (n c : Nat) (left : Int) (w : World) (hn : n ≤ 9223372036854775807) (h0 : 0 ≤ left) (h1 : left ≤ 1048576) :
  Calls Try.prog 35 #[.agg #[.slice A n c], .int .i64 left] w fun e w' => e = .returned (.int .i64 (if left - n < 0 then -1 else left - n)) ∧ Below w.heap.size w w' := by
 have L := fun W => hid (szInts A n c left W hn h0 h1)
 have hb : Below w.heap.size w (w.alloc (.cells #[.slice A n c] 58)) := (Below.refl _ _).alloc (Nat.le_refl _) _
 by_cases h : left - n < 0
 ·rw [if_pos h] at L ⊢
  go_enter Try.func35, Try.ntmps35
  go_wp2_with fail
  refine (L _).out.mono ?_
  rintro e w' ⟨rfl, rfl⟩
  go_wp2
  go_ret
  exact ⟨rfl, hb⟩
 ·rw [if_neg h] at L ⊢
  go_enter Try.func35, Try.ntmps35
  go_wp2_with fail
  refine (L _).out.mono ?_
  rintro e w' ⟨rfl, rfl⟩
  go_wp2
  go_ret
  exact ⟨rfl, hb⟩
def CopySig (w : World) (n : Nat) (xs : List Int) (e : Ending) (w' : World) : Prop :=
 ∃ g cs, e = .returned (.agg #[.slice (some ⟨g, 0, none⟩) n n]) ∧ w.heap.size ≤ g ∧ Row w' g 2 cs ∧ cs.size = n ∧ (∀ j, j < n → cs[j]? = some (.int .i64 (xs.getD j 0))) ∧ Below w.heap.size w w'
def arityOk (a : Int) : Bool := decide (0 ≤ a ∧ a ≤ 3)
def sigOkB (xs : List Int) : Bool := decide (1 ≤ xs.length ∧ xs.length ≤ 8) && xs.all arityOk
theorem inYes (x lo hi : Int) (w : World) (h : lo ≤ x ∧ x ≤ hi) : Calls Try.prog 85 #[.int .i64 x, .int .i64 lo, .int .i64 hi] w fun e w' => w = w' ∧ e = .returned (.bool true) := by
 obtain ⟨h1, h2⟩ := h
 go_enter Try.func85, Try.ntmps85
 go_wp2
 go_ret
 exact ⟨rfl, rfl⟩
theorem inNo (x lo hi : Int) (w : World) (h : ¬ (lo ≤ x ∧ x ≤ hi)) : Calls Try.prog 85 #[.int .i64 x, .int .i64 lo, .int .i64 hi] w fun e w' => w = w' ∧ e = .returned (.bool false) := by
 by_cases h1 : lo ≤ x
 ·have h2 : decide (x ≤ hi) = false := by simp; omega
  go_enter Try.func85, Try.ntmps85
  go_wp2
  go_ret
  exact ⟨rfl, rfl⟩
 ·go_enter Try.func85, Try.ntmps85
  go_wp2
  go_ret
  exact ⟨rfl, rfl⟩
def AnsSig (w : World) (xs : List Int) (e : Ending) (w' : World) : Prop := e = .returned (.bool (sigOkB xs)) ∧ Below w.heap.size w w'
theorem sig_len {w w' : World} {xs : List Int} {n : Nat} (hx : xs.length = n) (h : ¬ (1 ≤ n ∧ n ≤ 8)) (hb : Below w.heap.size w w') : AnsSig w xs (.returned (.bool false)) w' :=
 ⟨by unfold sigOkB; rw [decide_eq_false (by omega), Bool.false_and], hb⟩
theorem sig_bad {w w' : World} {xs : List Int} {n k : Nat} {x : Int} (hx : xs.length = n) (hk : k < n) (ex : Hid (xs.getD k 0 = x)) (h : ¬ (0 ≤ x ∧ x ≤ 3)) (hb : Below w.heap.size w w') : AnsSig w xs (.returned (.bool false)) w' := by
 refine ⟨?_, hb⟩
 have hm : x ∈ xs := by
  have := ex.out
  subst hx
  rw [← this]
  simp [List.getD, hk]
 have : xs.all arityOk = false := by
  rw [List.all_eq_false]
  exact ⟨x, hm, by simp [arityOk]; omega⟩
 unfold sigOkB
 rw [this, Bool.and_false]
theorem sig_good {w w' : World} {xs : List Int} {n k : Nat} (hx : xs.length = n) (h : 1 ≤ n ∧ n ≤ 8) (hn : ¬ k < n) (hc : ∀ j, j < k → 0 ≤ xs.getD j 0 ∧ xs.getD j 0 ≤ 3) (hb : Below w.heap.size w w') : AnsSig w xs (.returned (.bool true)) w' := by
 refine ⟨?_, hb⟩
 have : xs.all arityOk = true := by
  rw [List.all_eq_true]
  intro x hxm
  obtain ⟨j, hj, rfl⟩ := List.getElem_of_mem hxm
  have := hc j (by omega)
  simp [List.getD, hj] at this
  simp [arityOk, this]
 unfold sigOkB
 rw [this, Bool.and_true, decide_eq_true (by omega)]
def HeadSig (n : Nat) (xs : List Int) (i : Value) : Prop := ∃ k : Nat, k ≤ n ∧ i = .int .i64 k ∧ ∀ j, j < k → 0 ≤ xs.getD j 0 ∧ xs.getD j 0 ≤ 3
theorem headSig_step {n k : Nat} {xs : List Int} {x : Int} (hk : k < n) (h : ∀ j, j < k → 0 ≤ xs.getD j 0 ∧ xs.getD j 0 ≤ 3) (hx : Hid (xs.getD k 0 = x)) (h0 : 0 ≤ x ∧ x ≤ 3) : HeadSig n xs (.int .i64 ((k : Int) + 1)) :=
 ⟨k + 1, hk, by simp, fun j hj => by
  by_cases e : j = k
  ·subst e; rw [hx.out]; exact h0
  ·exact h j (by omega)⟩
set_option maxHeartbeats 400000 in
theorem specSigOk (A : Option Addr) (n c : Nat) (xs : List Int) (w : World) (h : Seg w w.heap.size A n xs) (hn : n ≤ 1048576) :
  Calls Try.prog 92 #[.agg #[.slice A n c]] w (AnsSig w xs) := by
 have b : Below w.heap.size w (w.alloc (.cells #[.slice A n c] 29)) := (Below.refl _ _).alloc (Nat.le_refl _) _
 by_cases hl : 1 ≤ n ∧ n ≤ 8
 ·go_enter Try.func92, Try.ntmps92
  go_wp2_with fail
  refine (inYes _ _ _ _ (by omega)).mono ?_
  rintro e w' ⟨rfl, rfl⟩
  go_wp2_with fail
  go_loop [3] (fun i => HeadSig n xs i) (fun i => n - (intOf i).toNat)
  case atStart => exact ⟨0, Nat.zero_le _, rfl, fun j h => absurd h (Nat.not_lt_zero _)⟩
  case round =>
   obtain ⟨k, hk, rfl, hc⟩ := hrel
   by_cases hlt : k < n
   ·obtain ⟨g, off, x, rfl, hg, hx, ex⟩ := h.spot hlt
    by_cases hin : 0 ≤ x ∧ x ≤ 3
    ·have S := hid (headSig_step (n := n) hlt hc ex hin)
     have L := hid (fun W => inYes x 0 3 W hin)
     clear hc h ex hin
     go_wp2_with fail
     refine (L.out _).mono ?_
     rintro e w' ⟨rfl, rfl⟩
     go_wp2
     go_round
     case rel => exact S.out
     case measure => simp [intOf]; omega
    ·have S := hid (sig_bad h.1 hlt ex hin b)
     have L := hid (fun W => inNo x 0 3 W hin)
     clear hc h ex hin b
     go_wp2_with fail
     refine (L.out _).mono ?_
     rintro e w' ⟨rfl, rfl⟩
     go_wp2
     go_ret
     exact S.out
   ·have S := hid (sig_good h.1 hl hlt hc b)
    clear hc h b
    go_wp2
    go_ret
    exact S.out
 ·have S := hid (sig_len h.1 hl b)
  clear h b
  go_enter Try.func92, Try.ntmps92
  go_wp2_with fail
  refine (inNo _ _ _ _ (by omega)).mono ?_
  rintro e w' ⟨rfl, rfl⟩
  go_wp2
  go_ret
  exact S.out
set_option maxHeartbeats 400000 in
theorem implSigOk (A : Option Addr) (n c : Nat) (xs : List Int) (w : World) (h : Seg w w.heap.size A n xs) (hn : n ≤ 1048576) :
  Calls Try.prog 76 #[.agg #[.slice A n c]] w (AnsSig w xs) := by
 have b : Below w.heap.size w (w.alloc (.cells #[.slice A n c] 29)) := (Below.refl _ _).alloc (Nat.le_refl _) _
 by_cases hl : 1 ≤ n ∧ n ≤ 8
 ·obtain ⟨hl1, hl2⟩ := hl
  go_enter Try.func76, Try.ntmps76
  go_wp2_with fail
  go_loop [18] (fun i => HeadSig n xs i) (fun i => n - (intOf i).toNat)
  case atStart => exact ⟨0, Nat.zero_le _, rfl, fun j h => absurd h (Nat.not_lt_zero _)⟩
  case round =>
   obtain ⟨k, hk, rfl, hc⟩ := hrel
   by_cases hlt : k < n
   ·obtain ⟨g, off, x, rfl, hg, hx, ex⟩ := h.spot hlt
    by_cases hin : 0 ≤ x ∧ x ≤ 3
    ·have S := hid (headSig_step (n := n) hlt hc ex hin)
     obtain ⟨hin1, hin2⟩ := hin
     clear hc h ex
     go_wp2
     go_round
     case rel => exact S.out
     case measure => simp [intOf]; omega
    ·have S := hid (sig_bad h.1 hlt ex hin b)
     clear hc h ex b
     by_cases hx0 : x < 0
     ·go_wp2
      go_ret
      exact S.out
     ·have hx3 : 3 < x := by omega
      go_wp2
      go_ret
      exact S.out
   ·have S := hid (sig_good h.1 ⟨hl1, hl2⟩ hlt hc b)
    clear hc h b
    go_wp2
    go_ret
    exact S.out
 ·have S := hid (sig_len h.1 hl b)
  clear h b
  by_cases hl1 : n < 1
  ·go_enter Try.func76, Try.ntmps76
   go_wp2
   go_ret
   exact S.out
  ·have hl2 : 8 < n := by omega
   go_enter Try.func76, Try.ntmps76
   go_wp2
   go_ret
   exact S.out
end sig
end
section
namespace lpoMath
abbrev Tm := List Int
def hd (t : Tm) : Int := t.getD 0 0
def lexB (g : Tm → Tm → Bool) : List Tm → List Tm → Bool
 | p :: ps, q :: qs => if p = q then lexB g ps qs else g p q
 | _, _ => false
def dif : List Tm → List Tm → List Tm
 | ts, [] => ts
 | ts, s :: ss => dif (ts.erase s) ss
def bagB (g : Tm → Tm → Bool) (ts ss : List Tm) : Bool := !(dif ts ss).isEmpty && (dif ss ts).all fun q => (dif ts ss).any fun p => g p q
def byArgs (bag : Bool) (g : Tm → Tm → Bool) (ps qs : List Tm) (over : Bool) : Bool := if bag then bagB g ps qs else over && lexB g ps qs
def stepW (bag : Bool) (pts : Tm → List Tm) (rk : Int → Int) (g : Tm → Tm → Bool) (t s : Tm) : Int :=
 if (pts t).any (fun p => decide (p = s) || g p s) = true then 1
 else if hd t < 0 ∨ hd s < 0 then 0
 else if rk (hd s) < rk (hd t) ∧ (pts s).all (fun q => g t q) = true then 2
 else if hd t = hd s ∧ byArgs bag g (pts t) (pts s) ((pts s).all fun q => g t q) = true then 3
 else 0
def gF (bag : Bool) (pts : Tm → List Tm) (rk : Int → Int) : Nat → Tm → Tm → Bool
 | 0, _, _ => false
 | n + 1, t, s => decide (0 < stepW bag pts rk (gF bag pts rk n) t s)
def gt (bag : Bool) (pts : Tm → List Tm) (rk : Int → Int) (t s : Tm) : Bool := gF bag pts rk (t.length + s.length + 1) t s
section
variable {bag : Bool} {pts : Tm → List Tm} {rk : Int → Int}
end
section
variable {bag : Bool} {pts : Tm → List Tm} {rk : Int → Int} {T : Tm → Prop}
end
end lpoMath
end
section
namespace rankMath
def upI (n : Nat) : List Int := (List.range n).map fun k : Nat => (k : Int)
theorem up_len (n : Nat) : (upI n).length = n := by unfold upI; rw [List.length_map, List.length_range]
end rankMath
end
section
namespace term
def ar (sg : List Int) (x : Int) : Int := if -24 ≤ x ∧ x ≤ -1 then 0 else if 0 ≤ x ∧ x < sg.length then sg.getD x.toNat 0 else -1
def Arities (sg : List Int) : Prop := ∀ j, j < sg.length → 0 ≤ sg.getD j 0 ∧ sg.getD j 0 ≤ 3
theorem ar_var {sg : List Int} {x : Int} (h : -24 ≤ x ∧ x ≤ -1) : ar sg x = 0 := by unfold ar; rw [if_pos h]
theorem ar_no {sg : List Int} {x : Int} (h : ¬ (-24 ≤ x ∧ x ≤ -1)) (h' : ¬ (0 ≤ x ∧ x < sg.length)) : ar sg x = -1 := by unfold ar; rw [if_neg h, if_neg h']
def scan (sg : List Int) : Nat → List Int → Option Nat
 | 0, _ => some 0
 | _ + 1, [] => none
 | m + 1, x :: r => if ar sg x < 0 then none else (scan sg (m + (ar sg x).toNat) r).map (· + 1)
theorem scan_zero (sg l : List Int) : scan sg 0 l = some 0 := by cases l <;> rfl
theorem scan_nil (sg : List Int) (m : Nat) : scan sg (m + 1) [] = none := rfl
theorem scan_bad {sg : List Int} {m : Nat} {x : Int} {r : List Int} (h : ar sg x < 0) : scan sg (m + 1) (x :: r) = none := by rw [scan, if_pos h]
theorem scan_step {sg : List Int} {m : Nat} {x : Int} {r : List Int} (h : ¬ ar sg x < 0) : scan sg (m + 1) (x :: r) = (scan sg (m + (ar sg x).toNat) r).map (· + 1) := by rw [scan, if_neg h]
def Scn (sg t : List Int) (at_ k m : Nat) : Prop := at_ ≤ k ∧ k ≤ t.length ∧ scan sg 1 (t.drop at_) = (scan sg m (t.drop k)).map (· + (k - at_))
theorem Scn.out {sg t : List Int} {at_ k m : Nat} (h : Scn sg t at_ k (m + 1)) (hk : ¬ k < t.length) : scan sg 1 (t.drop at_) = none := by
 rw [h.2.2, List.drop_eq_nil_of_le (by omega), scan_nil]
 rfl
theorem Scn.done {sg t : List Int} {at_ k : Nat} (h : Scn sg t at_ k 0) : scan sg 1 (t.drop at_) = some (k - at_) := by
 rw [h.2.2, scan_zero]
 simp
def termB (sg t : List Int) : Bool := decide (t.length ≤ 60) && decide (scan sg 1 t = some t.length)
end term
end
section
namespace arity
open Go.RowKit base ints sig term
end arity
end
section
namespace endOf
open Go.RowKit base ints sig term arity
end endOf
end
section
namespace cursor
open Go.RowKit base ints sig term arity
theorem grown_put {a b : World} {p : Nat} (h : a.grownBy b (some p)) (i : Nat) (u : Value) : a.grownBy (b.setCell ⟨p, i, none⟩ u) (some p) :=
 ⟨h.os, h.tape, h.output, by simpa [World.setCell] using h.size, fun k hk hn => (Below.heap_setCell _ _ _ _ (by intro e; exact hn (by rw [e]))).trans (h.block k hk hn)⟩
end cursor
end
section
namespace termOk
open Go.RowKit base ints sig term arity endOf cursor
def termOkB (sg t : List Int) : Bool := sigOkB sg && termB sg t
end termOk
end
section
namespace term
theorem scan_split {sg : List Int} : ∀ {l : List Int} {p q j : Nat}, scan sg (p + q) l = some j → ∃ i, i ≤ j ∧ scan sg p l = some i ∧ scan sg q (l.drop i) = some (j - i) := by
 intro l
 induction l with
 | nil =>
  intro p q j h
  cases p with
  | zero => exact ⟨0, Nat.zero_le _, rfl, by simpa using h⟩
  | succ p => rw [show p + 1 + q = (p + q) + 1 by omega, scan_nil] at h; cases h
 | cons x r ih =>
  intro p q j h
  cases p with
  | zero => exact ⟨0, Nat.zero_le _, rfl, by simpa using h⟩
  | succ p =>
   rw [show p + 1 + q = (p + q) + 1 by omega] at h
   by_cases ha : ar sg x < 0
   ·rw [scan_bad ha] at h; cases h
   ·rw [scan_step ha] at h
    obtain ⟨j', hj', rfl⟩ := Option.map_eq_some_iff.1 h
    rw [show p + q + (ar sg x).toNat = (p + (ar sg x).toNat) + q by omega] at hj'
    obtain ⟨i, h1, h2, h3⟩ := ih hj'
    refine ⟨i + 1, by omega, by rw [scan_step ha, h2]; rfl, ?_⟩
    rw [List.drop_succ_cons, h3]
    congr 1
    omega
theorem scan_tail {sg : List Int} : ∀ {l : List Int} {q j a : Nat}, scan sg q l = some j → a < j → ∃ q', scan sg (q' + 1) (l.drop a) = some (j - a) := by
 intro l
 induction l with
 | nil =>
  intro q j a h ha
  cases q with
  | zero => rw [scan_zero] at h; injection h; omega
  | succ q => rw [scan_nil] at h; cases h
 | cons x r ih =>
  intro q j a h ha
  cases q with
  | zero => rw [scan_zero] at h; injection h; omega
  | succ q =>
   cases a with
   | zero => exact ⟨q, h⟩
   | succ a =>
    by_cases hx : ar sg x < 0
    ·rw [scan_bad hx] at h; cases h
    ·rw [scan_step hx] at h
     obtain ⟨j', hj', rfl⟩ := Option.map_eq_some_iff.1 h
     obtain ⟨q', h'⟩ := ih (a := a) hj' (by omega)
     exact ⟨q', by rw [List.drop_succ_cons, h']; congr 1; omega⟩
theorem scan_pos {sg : List Int} {l : List Int} {q j : Nat} (h : scan sg (q + 1) l = some j) : 1 ≤ j := by
 cases l with
 | nil => rw [scan_nil] at h; cases h
 | cons x r =>
  by_cases hx : ar sg x < 0
  ·rw [scan_bad hx] at h; cases h
  ·rw [scan_step hx] at h
   obtain ⟨j', _, rfl⟩ := Option.map_eq_some_iff.1 h
   omega
theorem scan_le {sg : List Int} : ∀ {l : List Int} {q j : Nat}, scan sg q l = some j → j ≤ l.length := by
 intro l
 induction l with
 | nil =>
  intro q j h
  cases q with
  | zero => rw [scan_zero] at h; injection h; omega
  | succ q => rw [scan_nil] at h; cases h
 | cons x r ih =>
  intro q j h
  cases q with
  | zero => rw [scan_zero] at h; injection h; omega
  | succ q =>
   by_cases hx : ar sg x < 0
   ·rw [scan_bad hx] at h; cases h
   ·rw [scan_step hx] at h
    obtain ⟨j', hj', rfl⟩ := Option.map_eq_some_iff.1 h
    have := ih hj'
    simp
    omega
theorem scan_at {sg t : List Int} (h : scan sg 1 t = some t.length) {a : Nat} (ha : a < t.length) : ∃ j, scan sg 1 (t.drop a) = some j ∧ 1 ≤ j ∧ a + j ≤ t.length := by
 obtain ⟨q', h'⟩ := scan_tail h ha
 rw [Nat.add_comm] at h'
 obtain ⟨i, h1, h2, _⟩ := scan_split h'
 have h3 := scan_pos (q := 0) h2
 exact ⟨i, h2, h3, by omega⟩
theorem scan_first {sg t : List Int} {q a i : Nat} (h : scan sg (q + 1) (t.drop a) = some i) : ∃ j, scan sg 1 (t.drop a) = some j ∧ 1 ≤ j ∧ j ≤ i ∧ scan sg q (t.drop (a + j)) = some (i - j) := by
 rw [Nat.add_comm] at h
 obtain ⟨j, h1, h2, h3⟩ := scan_split h
 rw [List.drop_drop] at h3
 exact ⟨j, h2, scan_pos (q := 0) h2, h1, h3⟩
def len1 (sg t : List Int) (a : Nat) : Nat := (scan sg 1 (t.drop a)).getD 0
theorem len1_eq {sg t : List Int} {a j : Nat} (h : scan sg 1 (t.drop a) = some j) : len1 sg t a = j := by unfold len1; rw [h]; rfl
def places (sg t : List Int) : Nat → Nat → List Int
 | 0, _ => []
 | k + 1, p => (p : Int) :: places sg t k (p + len1 sg t p)
def maxOver (sg t : List Int) (g : Nat → Int) : Nat → Nat → Int
 | 0, _ => 0
 | k + 1, p => max (g p) (maxOver sg t g k (p + len1 sg t p))
def dep (sg t : List Int) : Nat → Nat → Int
 | 0, _ => 0
 | f + 1, a => maxOver sg t (dep sg t f) (ar sg (t.getD a 0)).toNat (a + 1) + 1
theorem maxOver_bd {sg t : List Int} {g : Nat → Int} {B : Int} (hB : 0 ≤ B) (hg : ∀ p, 0 ≤ g p ∧ g p ≤ B) : ∀ k p, 0 ≤ maxOver sg t g k p ∧ maxOver sg t g k p ≤ B
 | 0, _ => by simp [maxOver, hB]
 | k + 1, p => by
  have h1 := hg p
  have h2 := maxOver_bd (sg := sg) (t := t) hB hg k (p + len1 sg t p)
  simp only [maxOver]
  omega
theorem dep_bd {sg t : List Int} : ∀ f a, 0 ≤ dep sg t f a ∧ dep sg t f a ≤ f
 | 0, _ => by simp [dep]
 | f + 1, a => by
  have := maxOver_bd (sg := sg) (t := t) (g := dep sg t f) (B := f) (by omega) (fun p => dep_bd (sg := sg) (t := t) f p) (ar sg (t.getD a 0)).toNat (a + 1)
  simp only [dep]
  omega
end term
end
section
namespace endAt
open Go.RowKit base ints sig term arity endOf cursor termOk
def inB (t : List Int) (x : Int) : Bool := decide (0 ≤ x ∧ x < t.length)
def thereB (sg t : List Int) (x : Int) : Bool := termOkB sg t && inB t x
theorem termOk_parts {sg t : List Int} (h : termOkB sg t = true) : sigOkB sg = true ∧ t.length ≤ 60 ∧ scan sg 1 t = some t.length := by
 unfold termOkB termB at h
 simp only [Bool.and_eq_true, decide_eq_true_eq] at h
 exact h
theorem there_parts {sg t : List Int} {x : Int} (h : thereB sg t x = true) : termOkB sg t = true ∧ 0 ≤ x ∧ x < t.length := by
 unfold thereB inB at h
 simp only [Bool.and_eq_true, decide_eq_true_eq] at h
 exact h
end endAt
end
section
namespace marks
open Go.RowKit base ints sig cursor
def Own (w : World) (base : Nat) (v : Value) (xs : List Int) : Prop := w.ownsRow base 2 1 v xs.length (xs.map (Value.int .i64))
theorem Own.nil (w : World) (base : Nat) : Own w base (.slice none 0 0) [] := World.ownsRow_nil w base 2 1
theorem Own.form {w : World} {base : Nat} {v : Value} {xs : List Int} (h : Own w base v xs) : (v = .slice none 0 0 ∧ xs = []) ∨
  ∃ g c cur, v = .slice (some ⟨g, 0, none⟩) xs.length c ∧ base ≤ g ∧ Row w g 2 cur ∧ xs.length ≤ cur.size ∧ ∀ j, j < xs.length → cur[j]? = some (.int .i64 (xs.getD j 0)) := by
 obtain ⟨h1, h2⟩ := h
 rcases h2 with ⟨rfl, h0⟩ | ⟨g, cap, cur, rfl, hb, hg, hn, _, hs, ht⟩
 ·exact .inl ⟨rfl, List.eq_nil_of_length_eq_zero h0⟩
 ·refine .inr ⟨g, cap, cur, rfl, hb, hg, by omega, fun j hj => ?_⟩
  have h3 : (cur.toList.take (xs.length * 1))[j]? = (xs.map (Value.int .i64))[j]? := by rw [ht]
  rw [List.getElem?_take, if_pos (by omega)] at h3
  simpa [List.getD, hj] using h3
theorem Own.slice {w : World} {base : Nat} {v : Value} {xs : List Int} (h : Own w base v xs) : ∃ A c, v = .slice A xs.length c := by
 rcases h.form with ⟨rfl, rfl⟩ | ⟨g, c, _, rfl, _⟩
 ·exact ⟨none, 0, rfl⟩
 ·exact ⟨_, c, rfl⟩
theorem Own.of_row {w : World} {base g n c : Nat} {cs : Array Value} {xs : List Int} (hr : Row w g 2 cs) (hl : xs.length = n) (hs : cs.size = c) (hn : n ≤ c) (hm : c ≤ 9223372036854775807) (hb : base ≤ g) (hc : ∀ j, j < n → cs[j]? = some (.int .i64 (xs.getD j 0))) : Own w base (.slice (some ⟨g, 0, none⟩) n c) xs := by
 subst hl
 refine ⟨by simp, .inr ⟨g, c, cs, rfl, hb, hr, hn, by unfold maxLen; omega, by omega, ?_⟩⟩
 refine List.ext_getElem? fun j => ?_
 rw [List.getElem?_take]
 by_cases hj : j < xs.length
 ·rw [if_pos (by omega)]
  have := hc j hj
  simp [List.getD, hj] at this ⊢
  exact this
 ·rw [if_neg (by omega)]
  have : (xs.map (Value.int .i64))[j]? = none := List.getElem?_eq_none (by simp; omega)
  rw [this]
def blk (A : Option Addr) : Option Nat := A.map (·.block)
theorem Own.far {w w' : World} {base : Nat} {v : Value} {xs : List Int} {r : Option Nat} (h : Own w base v xs) (hg : w.grownBy w' r) (hr : ∀ k, r = some k → k < base) : Own w' base v xs := by
 refine World.ownsRow.kept h hg ?_
 cases hv : v.ownBlock with
 | none => exact .inl rfl
 | some g =>
  right
  intro e
  have h1 := World.ownsRow.lt h g hv
  have h2 := hr g e.symm
  omega
def marks (k : Int) (n : Nat) : List Int := (List.range n).map fun (j : Nat) => k + (j : Int)
theorem marks_len (k : Int) (n : Nat) : (marks k n).length = n := by simp [marks]
theorem marks_get {k : Int} {n j : Nat} (h : j < n) : (marks k n).getD j 0 = k + (j : Int) := by simp [marks, List.getD, h]
def HeadMark (w : World) (g n : Nat) (k : Int) (z : Nat) (kk i : Value) (wr : World) : Prop :=
 ∃ (j : Nat) (cs : Array Value), j ≤ n ∧ i = .int .i64 j ∧ kk = .int .i64 (k + (j : Int)) ∧ Row wr g 2 cs ∧ cs.size = z ∧ (∀ q, q < j → cs[q]? = some (.int .i64 (k + (q : Int)))) ∧ w.grownBy wr (some g)
theorem headMark_step {w wr : World} {g n : Nat} {k : Int} {z j : Nat} {cs : Array Value} (hj : j < n) (hz : n ≤ z) (hr : Row wr g 2 cs) (hs : cs.size = z) (hc : ∀ q, q < j → cs[q]? = some (.int .i64 (k + (q : Int)))) (hg : w.grownBy wr (some g)) :
  HeadMark w g n k z (.int .i64 (k + (j : Int) + 1)) (.int .i64 ((j : Int) + 1)) (wr.setCell ⟨g, j, none⟩ (.int .i64 (k + (j : Int)))) := by
 refine ⟨j + 1, _, hj, by simp, congrArg (Value.int .i64) (by omega), hr.put j _, by simp [hs], fun q hq => ?_, grown_put hg _ _⟩
 rw [Array.getElem?_setIfInBounds]
 by_cases e : j = q
 ·subst e; simp [hs]; try omega
 ·simp [e]; exact hc q (by omega)
theorem heldInts (A : Option Addr) (n c : Nat) (k : Int) (w : World) (h : Seg w w.heap.size A n (marks k n)) (hn : n ≤ 1048576) (hk0 : 0 ≤ k) (hk : k ≤ 1099511627776) :
  Calls Try.prog 94 #[.slice A n c, .int .i64 k] w fun e w' => w = w' ∧ e = .returned (.int .i64 (k + (n : Int))) := by
 go_enter Try.func94, Try.ntmps94
 go_wp2
 go_loop [1, 5] (fun kk i => ∃ j : Nat, j ≤ n ∧ i = .int .i64 j ∧ kk = .int .i64 (k + (j : Int))) (fun _ i => n - (intOf i).toNat)
 case atStart => exact ⟨0, Nat.zero_le _, rfl, by simp⟩
 case round =>
  obtain ⟨j, hj, rfl, rfl⟩ := hrel
  by_cases hlt : j < n
  ·obtain ⟨b, off, x, rfl, -, hx, ex⟩ := h.spot hlt
   have e1 : x = k + (j : Int) := by rw [← ex.out, marks_get hlt]
   subst e1
   have e2 : (k + (j : Int) != k + (j : Int)) = false := by simp
   clear h ex
   go_wp2
   go_round
   case rel => exact ⟨j + 1, hlt, by go_num, congrArg (Value.int .i64) (by omega)⟩
   case measure => simp [intOf]; omega
  ·have e : j = n := by omega
   subst e
   clear h
   go_wp2
   go_ret
   exact ⟨rfl, rfl⟩
end marks
end
section
namespace app
open Go.RowKit base ints marks
theorem own_of {w : World} {base : Nat} {v : Value} {n : Nat} {xs : List Int} (h : w.ownsRow base 2 1 v n (xs.map (Value.int .i64))) : ∃ A c, v = .slice A n c ∧ Own w base (.slice A n c) xs := by
 have hl : n = xs.length := by have := h.1; simpa using this.symm
 subst hl
 obtain ⟨A, c, rfl⟩ := Own.slice (w := w) (base := base) (v := v) (xs := xs) h
 exact ⟨A, c, rfl, h⟩
end app
end
section
namespace sym
open Go.RowKit base ints marks app
theorem Own.len {w : World} {base : Nat} {A : Option Addr} {n c : Nat} {xs : List Int} (h : Own w base (.slice A n c) xs) : n = xs.length := by
 obtain ⟨_, _, e⟩ := h.slice
 injection e
theorem Own.alloc {w : World} {base : Nat} {v : Value} {xs : List Int} (h : Own w base v xs) (o : Obj) : Own (w.alloc o) base v xs := World.ownsRow.alloc h o
end sym
end
section
namespace sym
open Go.RowKit base ints sig term termOk marks app
end sym
end
section
namespace sub
open Go.RowKit base ints marks app sym
end sub
end
section
namespace curO
open Go.RowKit base ints sig term arity cursor sub
set_option maxRecDepth 100000
structure CurO (w : World) (p o : Nat) (ty : TypeId) (cs : Array Value) (A : Option Addr) (n c : Nat) (A' : Option Addr) (m c' : Nat) (sg t : List Int) (k : Nat) : Prop where
 row : Row w p ty (cs.setIfInBounds (o + 2) (.int .i64 k))
 h0 : cs[o]? = some (.slice A n c)
 h1 : cs[o + 1]? = some (.slice A' m c')
 sz : o + 2 < cs.size
 s : Seg w p A n sg
 s' : Seg w p A' m t
 le : k ≤ m
 hn : n ≤ 1048576
 hm : m ≤ 1048576
 ars : Arities sg
section
variable {w w' : World} {p o : Nat} {ty : TypeId} {cs : Array Value} {A : Option Addr} {n c : Nat} {A' : Option Addr} {m c' : Nat} {sg t : List Int} {k : Nat}
theorem CurO.c0 (h : CurO w p o ty cs A n c A' m c' sg t k) : w.cell? ⟨p, o, none⟩ = some (.slice A n c) := by
 rw [h.row.cell o, Array.getElem?_setIfInBounds_ne (by omega)]; exact h.h0
theorem CurO.c1 (h : CurO w p o ty cs A n c A' m c' sg t k) : w.cell? ⟨p, o + 1, none⟩ = some (.slice A' m c') := by
 rw [h.row.cell (o + 1), Array.getElem?_setIfInBounds_ne (by omega)]; exact h.h1
theorem CurO.c2 (h : CurO w p o ty cs A n c A' m c' sg t k) : w.cell? ⟨p, o + 2, none⟩ = some (.int .i64 k) := by
 rw [h.row.cell (o + 2), Array.getElem?_setIfInBounds_self_of_lt h.sz]
end
end curO
end
section
namespace sub
open Go.RowKit base ints sig term arity endOf cursor termOk endAt marks app sym curO
def subL (sg t : List Int) (a : Nat) : List Int := (t.drop a).take (len1 sg t a)
end sub
end
section
namespace args
open Go.RowKit base ints sig term arity endOf cursor termOk endAt marks app sym
def argsL (sg t : List Int) (a : Nat) : List Int := places sg t (ar sg (t.getD a 0)).toNat (a + 1)
def Coll (sg t : List Int) (m : Nat) (L ys : List Int) (q p : Nat) : Prop := ys ++ places sg t q p = L ∧ ∃ i, scan sg q (t.drop p) = some i ∧ p + i ≤ m
theorem Coll.first {sg t : List Int} {m : Nat} {L ys : List Int} {q p : Nat} (h : Coll sg t m L ys (q + 1) p) : ∃ j, scan sg 1 (t.drop p) = some j ∧ p + j ≤ m ∧ p < t.length ∧ Coll sg t m L (ys ++ [(p : Int)]) q (p + j) := by
 obtain ⟨h1, i, h2, h3⟩ := h
 obtain ⟨j, e1, e2, e3, e4⟩ := scan_first h2
 have e5 := scan_le h2
 refine ⟨j, e1, by omega, ?_, ?_, i - j, e4, by omega⟩
 ·simp only [List.length_drop] at e5; omega
 ·rw [← h1, List.append_assoc]
  congr 1
  simp only [places, len1_eq e1, List.singleton_append]
theorem Coll.done {sg t : List Int} {m : Nat} {L ys : List Int} {p : Nat} (h : Coll sg t m L ys 0 p) : ys = L := by
 have := h.1
 simpa [places] using this
theorem Coll.len {sg t : List Int} {m : Nat} {L ys : List Int} {q p : Nat} (h : Coll sg t m L ys q p) : ys.length ≤ L.length := by
 rw [← h.1]; simp
end args
end
section
namespace depth
open Go.RowKit base ints sig term arity endOf cursor termOk endAt marks app sym args
def Deep (sg t : List Int) (f : Nat) (M d : Int) (q p : Nat) : Prop := max d (maxOver sg t (dep sg t f) q p) = M ∧ 0 ≤ d ∧ d ≤ f ∧ ∃ i, scan sg q (t.drop p) = some i ∧ i ≤ f ∧ p + i ≤ t.length
theorem Deep.first {sg t : List Int} {f : Nat} {M d : Int} {q p : Nat} (h : Deep sg t f M d (q + 1) p) : ∃ j, scan sg 1 (t.drop p) = some j ∧ j ≤ f ∧ p < t.length ∧ p + j ≤ t.length ∧ Deep sg t f M (max d (dep sg t f p)) q (p + j) := by
 obtain ⟨h1, h2, h3, i, h4, h5, h6⟩ := h
 obtain ⟨j, e1, e2, e3, e4⟩ := scan_first h4
 have hb := dep_bd (sg := sg) (t := t) f p
 refine ⟨j, e1, by omega, by omega, by omega, ?_, by omega, by omega, i - j, e4, by omega, by omega⟩
 simp only [maxOver, len1_eq e1] at h1
 omega
theorem Deep.done {sg t : List Int} {f : Nat} {M d : Int} {p : Nat} (h : Deep sg t f M d 0 p) : d = M := by
 have h1 := h.1
 have h2 := h.2.1
 simp only [maxOver] at h1
 omega
end depth
end
section
namespace termMath
open term termOk endAt sub args depth sig
theorem scan_append {sg : List Int} : ∀ {l r : List Int} {q j : Nat}, scan sg q l = some j → scan sg q (l ++ r) = some j := by
 intro l
 induction l with
 | nil =>
  intro r q j h
  cases q with
  | zero => rw [scan_zero] at h ⊢; exact h
  | succ q => rw [scan_nil] at h; cases h
 | cons x l ih =>
  intro r q j h
  cases q with
  | zero => rw [scan_zero] at h ⊢; exact h
  | succ q =>
   by_cases ha : ar sg x < 0
   ·rw [scan_bad ha] at h; cases h
   ·rw [scan_step ha] at h
    rw [List.cons_append, scan_step ha]
    obtain ⟨j', hj', rfl⟩ := Option.map_eq_some_iff.1 h
    rw [ih hj']
    rfl
theorem scan_take {sg : List Int} : ∀ {l : List Int} {q j : Nat}, scan sg q l = some j → scan sg q (l.take j) = some j := by
 intro l
 induction l with
 | nil => intro q j h; simpa using h
 | cons x l ih =>
  intro q j h
  cases q with
  | zero => rw [scan_zero] at h ⊢; exact h
  | succ q =>
   by_cases ha : ar sg x < 0
   ·rw [scan_bad ha] at h; cases h
   ·rw [scan_step ha] at h
    obtain ⟨j', hj', rfl⟩ := Option.map_eq_some_iff.1 h
    rw [List.take_succ_cons, scan_step ha, ih hj']
    rfl
def Loop (sg t : List Int) (a : Nat) (M : Int) (zs args : List Int) (d : Int) (k q pp : Nat) : Prop :=
 args.drop k = places sg t q pp ∧ max d (maxOver sg t (dep sg t t.length) q pp) = M ∧ 0 ≤ d ∧ d ≤ t.length ∧ ∃ i, scan sg q (t.drop pp) = some i ∧ pp + i ≤ t.length ∧ zs ++ (t.drop pp).take i = subL sg t a
theorem Loop.done {sg t : List Int} {a : Nat} {M : Int} {zs args : List Int} {d : Int} {k pp : Nat} (h : Loop sg t a M zs args d k 0 pp) : zs = subL sg t a ∧ d = M := by
 obtain ⟨_, h2, h3, _, i, h5, _, h7⟩ := h
 rw [scan_zero] at h5
 injection h5 with h5
 subst h5
 simp only [maxOver] at h2
 exact ⟨by simpa using h7, by omega⟩
end termMath
end
section
namespace termFacts
open sig term termOk
end termFacts
end
section
namespace posMath
open sig term termOk termFacts endAt sub args depth termMath
def argP (sg t : List Int) : Nat → Nat → Nat
 | 0, p => p
 | k + 1, p => argP sg t k (p + len1 sg t p)
def arN (sg t : List Int) (p : Nat) : Nat := (ar sg (t.getD p 0)).toNat
inductive Trail (sg t : List Int) (at_ : Nat) : Nat → List Int → List Int → Prop
 | here : Trail sg t at_ at_ [] []
 | down {p k : Nat} {ab pa : List Int} (h1 : p < at_) (h2 : k < arN sg t p) (h3 : argP sg t k (p + 1) ≤ at_) (h4 : at_ < argP sg t k (p + 1) + len1 sg t (argP sg t k (p + 1))) (h5 : p < argP sg t k (p + 1)) (h6 : at_ < p + len1 sg t p) (hw : Trail sg t at_ (argP sg t k (p + 1)) ab pa) : Trail sg t at_ p ((p : Int) :: ab) ((k : Int) :: pa)
theorem Trail.len {sg t : List Int} {at_ p : Nat} {ab pa : List Int} (h : Trail sg t at_ p ab pa) : ab.length = pa.length := by
 induction h with
 | here => rfl
 | down _ _ _ _ _ _ _ ih => simp [ih]
theorem Trail.le {sg t : List Int} {at_ p : Nat} {ab pa : List Int} (h : Trail sg t at_ p ab pa) : p ≤ at_ ∧ pa.length ≤ at_ - p := by
 induction h with
 | here => simp
 | down h1 _ _ _ h5 _ _ ih => simp only [List.length_cons]; omega
def upTo (sg t : List Int) (at_ : Nat) : Nat → Nat → List Int
 | _, 0 => []
 | p, n + 1 => (if at_ < p + len1 sg t p then [(p : Int)] else []) ++ upTo sg t at_ (p + 1) n
end posMath
end
section
namespace varsMath
open term termOk
end varsMath
end
section
namespace fillMath
open sig term termOk termFacts varsMath
def vt (i : Nat) : List Int := [-1 - (i : Int)]
def rep (L : Nat → List Int) (n : Int) : List Int := if 0 ≤ n then [n] else L (-1 - n).toNat
def fillL (L : Nat → List Int) (t : List Int) : List Int := t.flatMap (rep L)
theorem rep_sym {L : Nat → List Int} {n : Int} (h : 0 ≤ n) : rep L n = [n] := by unfold rep; rw [if_pos h]
theorem rep_var {L : Nat → List Int} {n : Int} (h : n < 0) : rep L n = L (-1 - n).toNat := by unfold rep; rw [if_neg (by omega)]
theorem fill_nil (L : Nat → List Int) : fillL L [] = [] := rfl
theorem fill_cons (L : Nat → List Int) (x : Int) (r : List Int) : fillL L (x :: r) = rep L x ++ fillL L r := by simp [fillL]
theorem fill_append (L : Nat → List Int) (a b : List Int) : fillL L (a ++ b) = fillL L a ++ fillL L b := by simp [fillL]
theorem rep_len {L : Nat → List Int} {M : Nat} (h1 : 1 ≤ M) (hM : ∀ i, (L i).length ≤ M) (n : Int) : (rep L n).length ≤ M := by
 unfold rep
 split
 ·simpa using h1
 ·exact hM _
theorem fill_len {L : Nat → List Int} {M : Nat} (h1 : 1 ≤ M) (hM : ∀ i, (L i).length ≤ M) : ∀ t : List Int, (fillL L t).length ≤ t.length * M
 | [] => by simp [fill_nil]
 | x :: r => by
  have h2 := rep_len h1 hM x
  have h3 := fill_len h1 hM r
  rw [fill_cons, List.length_append, List.length_cons, Nat.add_mul]
  omega
theorem fill_ge {L : Nat → List Int} (h1 : ∀ i, 1 ≤ (L i).length) : ∀ t : List Int, t.length ≤ (fillL L t).length
 | [] => by simp
 | x :: r => by
  have h3 := fill_ge h1 r
  have h2 : 1 ≤ (rep L x).length := by
   unfold rep
   split
   ·simp
   ·exact h1 _
  rw [fill_cons, List.length_append, List.length_cons]
  omega
theorem fill_ext {L L' : Nat → List Int} : ∀ {t : List Int}, (∀ x ∈ t, x < 0 → L (-1 - x).toNat = L' (-1 - x).toNat) → fillL L t = fillL L' t
 | [], _ => rfl
 | x :: r, h => by
  rw [fill_cons, fill_cons, fill_ext (fun y hy => h y (List.mem_cons_of_mem _ hy))]
  congr 1
  unfold rep
  split
  ·rfl
  ·exact h x (List.mem_cons_self ..) (by omega)
theorem fill_fill {L U : Nat → List Int} : ∀ t : List Int, fillL U (fillL L t) = fillL (fun i => fillL U (L i)) t
 | [] => rfl
 | x :: r => by
  rw [fill_cons, fill_append, fill_cons, fill_fill r]
  congr 1
  unfold rep
  by_cases h : 0 ≤ x
  ·rw [if_pos h, if_pos h, fill_cons, fill_nil, List.append_nil, rep_sym h]
  ·rw [if_neg h, if_neg h]
theorem scan_join {sg : List Int} : ∀ {l l' : List Int} {q q' j : Nat}, scan sg q l = some l.length → scan sg q' l' = some j → scan sg (q + q') (l ++ l') = some (l.length + j)
 | [], l', q, q', j, h, h' => by
  cases q with
  | zero => simpa using h'
  | succ q => rw [scan_nil] at h; cases h
 | x :: r, l', q, q', j, h, h' => by
  cases q with
  | zero => rw [scan_zero] at h; simp at h
  | succ q =>
   by_cases ha : ar sg x < 0
   ·rw [scan_bad ha] at h; cases h
   ·rw [scan_step ha] at h
    obtain ⟨i, hi, e⟩ := Option.map_eq_some_iff.1 h
    have e2 : i = r.length := by simp at e; omega
    subst e2
    have h2 := scan_join hi h'
    rw [show q + 1 + q' = (q + q') + 1 by omega, List.cons_append, scan_step ha, show q + q' + (ar sg x).toNat = q + (ar sg x).toNat + q' by omega, h2]
    simp
    omega
theorem scan_fill {sg : List Int} {L : Nat → List Int} : ∀ {t : List Int} {q : Nat}, scan sg q t = some t.length → (∀ x ∈ t, x < 0 → scan sg 1 (L (-1 - x).toNat) = some (L (-1 - x).toNat).length) → scan sg q (fillL L t) = some (fillL L t).length
 | [], q, h, _ => h
 | x :: r, q, h, hL => by
  cases q with
  | zero => rw [scan_zero] at h; simp at h
  | succ q =>
   by_cases ha : ar sg x < 0
   ·rw [scan_bad ha] at h; cases h
   ·rw [scan_step ha] at h
    obtain ⟨i, hi, e⟩ := Option.map_eq_some_iff.1 h
    have e2 : i = r.length := by simp at e; omega
    subst e2
    have h2 := scan_fill hi (fun y hy => hL y (List.mem_cons_of_mem _ hy))
    rw [fill_cons]
    by_cases hx : 0 ≤ x
    ·rw [rep_sym hx, List.singleton_append, scan_step ha, h2]
     simp
    ·have h3 := hL x (List.mem_cons_self ..) (by omega)
     have h0 : ar sg x = 0 := by
      unfold ar at ha ⊢
      split
      ·rfl
      ·rename_i h4
       rw [if_neg h4] at ha
       split at ha
       ·omega
       ·omega
     rw [h0] at h2
     rw [rep_var (by omega), Nat.add_comm q 1]
     have h4 := scan_join h3 (by simpa using h2)
     rw [h4, List.length_append]
def sh (k x : Int) : Int := if x < 0 then x - k else x
end fillMath
end
section
namespace renMath
open sig term termOk termFacts varsMath fillMath
def idx : List Int → Int → Nat
 | [], _ => 0
 | y :: r, x => if y = x then 0 else idx r x + 1
end renMath
end
section
namespace matchMath
open sig term termOk termFacts endAt sub termMath fillMath posMath renMath
def vr (x : Int) : Nat := (-1 - x).toNat
section
variable {sg t : List Int} {r : List Int} {x : Int} {k : Nat} {s : List (List Int)}
end
def s0 : List (List Int) := List.replicate 24 []
theorem scan_one {sg : List Int} {y : Int} (h : -24 ≤ y ∧ y ≤ -1) : scan sg 1 [y] = some [y].length := by
 rw [scan_step (by rw [ar_var h]; omega), ar_var h]
 rfl
end matchMath
end
section
namespace plainMath
open fillMath
def strip : List (List Int) → List (List Int)
 | [] => []
 | x :: r => if strip r = [] then (if x = [] then [] else [x]) else x :: strip r
def bare (L : Nat → List Int) (i : Nat) : List Int := if L i = vt i then [] else L i
def rowsL (L : Nat → List Int) (m : Nat) : List (List Int) := (List.range m).map (bare L)
def plainL (L : Nat → List Int) (m : Nat) : List (List Int) := strip (rowsL L m)
end plainMath
end
section
namespace unifMath
open sig term termOk termFacts endAt sub termMath fillMath posMath renMath matchMath plainMath
def Trm (sg t : List Int) : Prop := scan sg 1 t = some t.length
theorem scan_ar {sg : List Int} : ∀ {l : List Int} {q : Nat}, scan sg q l = some l.length → ∀ x ∈ l, ¬ ar sg x < 0 := by
 intro l
 induction l with
 | nil => intro q _ x hx; exact absurd hx (List.not_mem_nil)
 | cons y r ih =>
  intro q h x hx
  cases q with
  | zero => rw [scan_zero] at h; injection h with h; simp at h
  | succ q =>
   by_cases hy : ar sg y < 0
   ·rw [scan_bad hy] at h; cases h
   ·rw [scan_step hy, Option.map_eq_some_iff] at h
    obtain ⟨a, e1, e2⟩ := h
    rcases List.mem_cons.1 hx with rfl | hx
    ·exact hy
    ·exact ih (q := q + (ar sg y).toNat) (by rw [e1]; congr 1; simp at e2; omega) x hx
theorem Trm.mem {sg t : List Int} (h : Trm sg t) {x : Int} (hx : x ∈ t) : -24 ≤ x := by
 have h1 := scan_ar h x hx
 by_cases h2 : -24 ≤ x
 ·exact h2
 ·rw [ar_no (by omega) (by omega)] at h1; omega
theorem Trm.pos {sg t : List Int} (h : Trm sg t) : 1 ≤ t.length := scan_pos (q := 0) h
theorem Trm.vt {sg : List Int} {i : Nat} (hi : i < 24) : Trm sg (vt i) := scan_one (y := -1 - (i : Int)) (by omega)
structure Sub (sg : List Int) (L : Nat → List Int) : Prop where
 trm : ∀ i, i < 24 → Trm sg (L i)
 out : ∀ i, 24 ≤ i → L i = vt i
theorem Sub.pos {sg : List Int} {L : Nat → List Int} (h : Sub sg L) (i : Nat) : 1 ≤ (L i).length := by
 by_cases hi : i < 24
 ·exact (h.trm i hi).pos
 ·rw [h.out i (by omega)]; simp [vt]
theorem Sub.vt (sg : List Int) : Sub sg vt := ⟨fun _ hi => Trm.vt hi, fun _ _ => rfl⟩
theorem Sub.fill {sg : List Int} {L : Nat → List Int} (h : Sub sg L) {t : List Int} (ht : Trm sg t) : Trm sg (fillL L t) :=
 scan_fill ht (fun x hx h0 => h.trm _ (by have := ht.mem hx; omega))
structure Uni (sg a b : List Int) (L : Nat → List Int) : Prop where
 sub : Sub sg L
 eq : fillL L a = fillL L b
structure Part (sg a b : List Int) (L : Nat → List Int) : Prop where
 sub : Sub sg L
 gen : ∀ M, Uni sg a b M → ∀ i, fillL M (L i) = M i
 ide : ∀ i x, x ∈ L i → x < 0 → L (vr x) = [x]
 ord : ∀ i j, L i = vt j → j ≤ i
structure Mg (sg a b : List Int) (L : Nat → List Int) : Prop extends Part sg a b L where
 eq : fillL L a = fillL L b
theorem fill_drop {L : Nat → List Int} {x y : List Int} {k : Nat} (e : x.take k = y.take k) (h : fillL L x = fillL L y) : fillL L (x.drop k) = fillL L (y.drop k) := by
 rw [← List.take_append_drop k x, ← List.take_append_drop k y, fill_append, fill_append, e] at h
 exact List.append_cancel_left h
theorem sub_trm {sg x : List Int} (hx : Trm sg x) {k : Nat} (hk : k < x.length) : Trm sg (subL sg x k) ∧ x.drop k = subL sg x k ++ x.drop (k + (subL sg x k).length) := by
 obtain ⟨j, h1, h2, h3⟩ := scan_at hx hk
 have hl : subL sg x k = (x.drop k).take j := by unfold subL; rw [len1_eq h1]
 have hlen : (subL sg x k).length = j := by rw [hl, List.length_take, List.length_drop]; omega
 refine ⟨?_, ?_⟩
 ·unfold Trm
  rw [hlen, hl]
  exact scan_take h1
 ·rw [hlen, hl, ← List.drop_drop]
  exact (List.take_append_drop _ _).symm
theorem uni_sub {sg x y : List Int} {M : Nat → List Int} (hx : Trm sg x) (hy : Trm sg y) (hM : Sub sg M) (h : fillL M x = fillL M y) {k : Nat} (e : x.take k = y.take k) (hkx : k < x.length) (hky : k < y.length) : fillL M (subL sg x k) = fillL M (subL sg y k) := by
 have h1 := fill_drop e h
 obtain ⟨tx, ex⟩ := sub_trm hx hkx
 obtain ⟨ty, ey⟩ := sub_trm hy hky
 rw [ex, ey, fill_append, fill_append] at h1
 have s1 := scan_append (r := fillL M (x.drop (k + (subL sg x k).length))) (hM.fill tx)
 have s2 := scan_append (r := fillL M (y.drop (k + (subL sg y k).length))) (hM.fill ty)
 rw [h1, s2] at s1
 injection s1 with s1
 have := congrArg (List.take (fillL M (subL sg x k)).length) h1
 rw [List.take_left' rfl, List.take_left' s1] at this
 exact this
structure Spot (sg a b : List Int) (L : Nat → List Int) (k : Nat) : Prop where
 ta : Trm sg a
 tb : Trm sg b
 pre : (fillL L a).take k = (fillL L b).take k
 kx : k < (fillL L a).length
 ky : k < (fillL L b).length
 ne : (fillL L a).getD k 0 ≠ (fillL L b).getD k 0
theorem part_uni {sg a b : List Int} {L M : Nat → List Int} (h : Part sg a b L) (hM : Uni sg a b M) (z : List Int) : fillL M (fillL L z) = fillL M z := by
 rw [fill_fill]
 exact fill_ext (fun x _ _ => h.gen M hM _)
theorem Spot.sub {sg a b : List Int} {L M : Nat → List Int} {k : Nat} (s : Spot sg a b L k) (h : Part sg a b L) (hM : Uni sg a b M) : fillL M (subL sg (fillL L a) k) = fillL M (subL sg (fillL L b) k) :=
 uni_sub (h.sub.fill s.ta) (h.sub.fill s.tb) hM.sub (by rw [part_uni h hM, part_uni h hM, hM.eq]) s.pre s.kx s.ky
theorem Part.done {sg a b : List Int} {L : Nat → List Int} (h : Part sg a b L) (he : fillL L a = fillL L b) : Mg sg a b L := ⟨h, he⟩
structure Short (sg a b : List Int) (M : Nat → List Int) : Prop extends Uni sg a b M where
 each : ∀ i, (M i).length ≤ 60
 all : (fillL M a).length ≤ 60
theorem Part.each {sg a b : List Int} {L M : Nat → List Int} (h : Part sg a b L) (hM : Short sg a b M) (i : Nat) : (L i).length ≤ 60 := by
 have h1 := fill_ge hM.sub.pos (L i)
 rw [h.gen M hM.toUni] at h1
 exact Nat.le_trans h1 (hM.each i)
theorem Part.len {sg a b : List Int} {L M : Nat → List Int} (h : Part sg a b L) (hM : Short sg a b M) : (fillL L a).length ≤ 60 ∧ (fillL L b).length ≤ 60 := by
 have h1 := fill_ge hM.sub.pos (fillL L a)
 have h2 := fill_ge hM.sub.pos (fillL L b)
 rw [part_uni h hM.toUni] at h1 h2
 rw [← hM.eq] at h2
 exact ⟨Nat.le_trans h1 hM.all, Nat.le_trans h2 hM.all⟩
end unifMath
end
section
namespace forest
open sig term termOk termFacts fillMath renMath matchMath unifMath
inductive Fo (sg : List Int) : Nat → List Int → Prop
 | nil : Fo sg 0 []
 | var (x : Int) (r : List Int) (q : Nat) (h : x < 0) (h1 : Fo sg q r) : Fo sg (q + 1) (x :: r)
 | app (x : Int) (r : List Int) (q : Nat) (h : 0 ≤ x) (h2 : 0 ≤ ar sg x) (h1 : Fo sg ((ar sg x).toNat + q) r) : Fo sg (q + 1) (x :: r)
variable {sg : List Int}
theorem Fo.zero {l : List Int} (h : Fo sg 0 l) : l = [] := by cases h; rfl
theorem Fo.none {q : Nat} (h : Fo sg q []) : q = 0 := by cases h; rfl
theorem Fo.inv {n : Nat} {x : Int} {r : List Int} (h : Fo sg n (x :: r)) : ∃ q, n = q + 1 ∧ ((x < 0 ∧ Fo sg q r) ∨ (0 ≤ x ∧ 0 ≤ ar sg x ∧ Fo sg ((ar sg x).toNat + q) r)) := by
 cases h with
 | var x r q h h1 => exact ⟨q, rfl, .inl ⟨h, h1⟩⟩
 | app x r q h h2 h1 => exact ⟨q, rfl, .inr ⟨h, h2, h1⟩⟩
theorem Fo.split : ∀ {l : List Int} {p q : Nat}, Fo sg (p + q) l → ∃ a b, l = a ++ b ∧ Fo sg p a ∧ Fo sg q b
 | [], p, q, h => by
  have h0 := h.none
  have h1 : p = 0 := by omega
  have h2 : q = 0 := by omega
  subst h1 h2
  exact ⟨[], [], rfl, .nil, .nil⟩
 | x :: r, 0, q, h => by
  rw [Nat.zero_add] at h
  exact ⟨[], x :: r, rfl, .nil, h⟩
 | x :: r, p + 1, q, h => by
  obtain ⟨k, e, h⟩ := h.inv
  have e1 : k = p + q := by omega
  subst e1
  rcases h with ⟨h0, h1⟩ | ⟨h0, h2, h1⟩
  ·obtain ⟨a, b, rfl, ha, hb⟩ := Fo.split h1
   exact ⟨x :: a, b, rfl, .var x a p h0 ha, hb⟩
  ·rw [← Nat.add_assoc] at h1
   obtain ⟨a, b, rfl, ha, hb⟩ := Fo.split h1
   exact ⟨x :: a, b, rfl, .app x a p h0 h2 ha, hb⟩
theorem Fo.vt (i : Nat) : Fo sg 1 (vt i) := Fo.var _ _ 0 (by omega) .nil
def Prt (sg u : List Int) (ps : List (List Int)) : Prop := (∃ x, 0 ≤ x ∧ 0 ≤ ar sg x ∧ u = x :: ps.flatten ∧ ps.length = (ar sg x).toNat) ∧ ∀ p ∈ ps, Fo sg 1 p
theorem Prt.len {u : List Int} {ps : List (List Int)} (h : Prt sg u ps) : u.length = (ps.map List.length).sum + 1 := by
 obtain ⟨⟨x, -, -, rfl, -⟩, -⟩ := h
 rw [List.length_cons, List.length_flatten]
end forest
end
section
namespace nodes
open sig term termOk termFacts depth args fillMath matchMath unifMath forest
def chN (sg t : List Int) (p : Nat) : List Nat := (argsL sg t p).map Int.toNat
variable {sg t t' : List Int}
end nodes
end
section
namespace appAt
open Go.RowKit base ints marks app
set_option maxRecDepth 100000
theorem blk_own (A : Option Addr) (n c : Nat) : (Value.slice A n c).ownBlock = blk A := by cases A <;> rfl
theorem appAllAt {w : World} {ops : Array Oper} {rest : List Oper} {o : Oper} {a : Act} {Q : Exit → Act → World → Prop} (hgd : o.guard = none) (s x : Operand)
  (ho : o.op = .call { callee := .builtin .append, args := #[s, x], argTypes := #[27, 27] })
  (base : Nat) (A : Option Addr) (n c : Nat) (xs : List Int) (hs : a.eval s = .slice A n c) (hown : Own w base (.slice A n c) xs)
  (S : Option Addr) (m c2 B : Nat) (ys : List Int) (hx : a.eval x = .slice S m c2) (hseg : Seg w B S m ys) (hm1 : 1 ≤ m) (hn : n ≤ 2097152) (hm : m ≤ 2097152) (hbase : base ≤ w.heap.size)
  (h : ∀ A' c' w', Own w' base (.slice A' (n + m) c') (xs ++ ys) → w.grownBy w' (blk A) → (blk A' = blk A ∨ blk A' = some w.heap.size) → wpList Try.prog ops Q rest (a.put o.dst (.slice A' (n + m) c')) w') : wpList Try.prog ops Q (o :: rest) a w := by
 obtain ⟨i0, hi, hz0, hz1, hz2⟩ := info_parts info_i64
 have hl : xs.length = n := by
  obtain ⟨A', c', e⟩ := hown.slice
  injection e with _ e _
  exact e.symm
 have ho1 : w.ownsRow base 2 1 (.slice A n c) n (xs.map (Value.int .i64)) := by rw [← hl]; rw [← hl] at hown; exact hown
 obtain ⟨b, off, e, _, hc⟩ := hseg.2 (by omega)
 subst e
 refine wpList_append_own_at w hgd s x 27 ho base 2 i0 (.int .i64 0) 1 8 Try.underlying27 hi hz0 hz1 hz2 rfl (by decide) (.slice A n c) n (xs.map (Value.int .i64)) hs ho1
  ⟨b, off, none⟩ m c2 (ys.map (Value.int .i64)) hx (by simp [hseg.1]) (fun j u hj => ?_) (fun u hu => ?_) (by unfold maxLen; omega) (by omega) hbase ?_
 ·have hjl : j < m := by
   have := (List.getElem?_eq_some_iff.1 hj).1
   simp at this
   have := hseg.1
   omega
  have hcj := hc j hjl
  have e2 : (⟨b, off, none⟩ : Addr).add j = ⟨b, off + j, none⟩ := by unfold Addr.add; split <;> simp_all
  rw [e2, hcj, ← hj]
  have := hseg.1
  simp [List.getD, show j < ys.length by omega]
 ·obtain ⟨y, _, rfl⟩ := List.mem_map.1 hu
  rfl
 ·intro v' w' hown' hg _ hat
  rw [← List.map_append] at hown'
  obtain ⟨A', c', rfl, ho'⟩ := own_of hown'
  rw [blk_own] at hg
  rw [blk_own, blk_own] at hat
  exact h A' c' w' ho' hg hat
theorem Own.kept {w w' : World} {base : Nat} {A : Option Addr} {n c : Nat} {xs : List Int} {r : Option Nat} (h : Own w base (.slice A n c) xs) (hg : w.grownBy w' r) (hne : blk A = none ∨ blk A ≠ r) : Own w' base (.slice A n c) xs :=
 World.ownsRow.kept h hg (by rw [blk_own]; exact hne)
end appAt
end
section
namespace segs
open Go.RowKit base ints marks app sym appAt
set_option maxRecDepth 100000
def Cap (A : Option Addr) (n c : Nat) : Prop := n ≤ c ∧ c ≤ 9223372036854775807 ∧ (A = none → c = 0)
def Segs (w : World) (B : Nat) (A : Option Addr) (n : Nat) (xss : List (List Int)) : Prop :=
 xss.length = n ∧ (0 < n → ∃ b off, A = some ⟨b, off, none⟩ ∧ b < B ∧ ∀ j, j < n → ∃ A' n' c', w.cell? ⟨b, off + j, none⟩ = some (.slice A' n' c') ∧ Seg w B A' n' (xss.getD j []) ∧ Cap A' n' c')
section
variable {w w' : World} {B B' n : Nat} {A : Option Addr} {xss : List (List Int)}
theorem Segs.spot (h : Segs w B A n xss) {k : Nat} (hk : k < n) : ∃ b off A' n' c', A = some ⟨b, off, none⟩ ∧ b < B ∧ w.cell? ⟨b, off + k, none⟩ = some (.slice A' n' c') ∧ Seg w B A' n' (xss.getD k []) ∧ Cap A' n' c' := by
 obtain ⟨b, off, e, hb, hc⟩ := h.2 (by omega)
 obtain ⟨A', n', c', h1, h2, h3⟩ := hc k hk
 exact ⟨b, off, A', n', c', e, hb, h1, h2, h3⟩
structure Btw (lo hi : Nat) (w w' : World) : Prop where
 os : w'.os = w.os
 tape : w'.tape = w.tape
 output : w'.output = w.output
 size : w.heap.size ≤ w'.heap.size
 block : ∀ k, k < w.heap.size → (k < lo ∨ hi ≤ k) → w'.heap[k]? = w.heap[k]?
theorem Btw.below {lo hi : Nat} (h : Btw lo hi w w') (hB : B ≤ lo) (hs : B ≤ w.heap.size) : Below B w w' := ⟨h.os, h.tape, h.output, h.size, fun k hk => h.block k (by omega) (.inl (by omega))⟩
theorem Below.btw {a : World} {lo hi : Nat} (h : Below B a w) (k : Btw lo hi w w') (hB : B ≤ lo) (hs : B ≤ w.heap.size) : Below B a w' := h.trans (k.below hB hs)
theorem Row.btw {g : Nat} {t : TypeId} {cs : Array Value} {lo hi : Nat} (h : Row w g t cs) (hb : Btw lo hi w w') (hg : g < lo ∨ hi ≤ g) : Row w' g t cs := (hb.block g h.lt hg).trans h
theorem Row.ne_ {g g' : Nat} {t t' : TypeId} {cs cs' : Array Value} (h : Row w g t cs) (h' : Row w g' t' cs') (hne : t ≠ t') : g ≠ g' := by
 rintro rfl
 unfold Row at h h'
 rw [h] at h'
 injection h' with h'
 injection h' with _ ht
 exact hne ht
end
def Inn (w : World) (lo hi : Nat) (v : Value) (xs : List Int) : Prop := ∃ A c, v = .slice A xs.length c ∧ Own w lo v xs ∧ ∀ k, blk A = some k → k < hi
def Apart (n : Nat) (vs : List Value) : Prop := ∀ i j k, i < j → j < n → (vs.getD i undef).ownBlock = some k → (vs.getD j undef).ownBlock ≠ some k
structure Owns (w : World) (lo hi : Nat) (A : Option Addr) (n c : Nat) (xss : List (List Int)) : Prop where
 len : xss.length = n
 row : ∃ vs : List Value, w.ownsRow lo 27 1 (.slice A n c) n vs ∧ (∀ j, j < n → Inn w lo hi (vs.getD j undef) (xss.getD j [])) ∧ Apart n vs
 top : ∀ k, blk A = some k → k < hi
section
variable {w w' : World} {lo hi n c : Nat} {A : Option Addr} {xss : List (List Int)}
theorem own_form {base n c : Nat} {A : Option Addr} {vs : List Value} {t : TypeId} (h : w.ownsRow base t 1 (.slice A n c) n vs) : (A = none ∧ n = 0 ∧ c = 0 ∧ vs = []) ∨
  ∃ g cur, A = some ⟨g, 0, none⟩ ∧ base ≤ g ∧ Row w g t cur ∧ n ≤ c ∧ cur.size = c ∧ c ≤ 9223372036854775807 ∧ vs.length = n ∧ ∀ j, j < n → cur[j]? = some (vs.getD j undef) := by
 have hl : vs.length = n := by have := h.1; omega
 obtain ⟨h1, h2⟩ := h
 rcases h2 with ⟨e, h0⟩ | ⟨g, cap, cur, e, hb, hg, hn, hm, hs, ht⟩
 ·have e1 := (Value.slice.inj e)
  obtain ⟨rfl, rfl, rfl⟩ := e1
  exact .inl ⟨rfl, rfl, rfl, List.eq_nil_of_length_eq_zero hl⟩
 ·have e1 := (Value.slice.inj e)
  obtain ⟨rfl, -, rfl⟩ := e1
  refine .inr ⟨g, cur, rfl, hb, hg, hn, by omega, by unfold maxLen at hm; omega, hl, fun j hj => ?_⟩
  have h3 : (cur.toList.take (n * 1))[j]? = vs[j]? := by rw [ht]
  rw [List.getElem?_take, if_pos (by omega)] at h3
  rw [← Array.getElem?_toList, h3]
  simp [List.getD, show j < vs.length by omega]
theorem Inn.blk {v : Value} {xs : List Int} (h : Inn w lo hi v xs) : ∀ k, v.ownBlock = some k → lo ≤ k ∧ k < hi ∧ k < w.heap.size := fun k hk => by
 obtain ⟨A, c, rfl, ho, ht⟩ := h
 have h1 := World.ownsRow.lt ho k hk
 rw [blk_own] at hk
 exact ⟨h1.1, ht k hk, h1.2⟩
theorem Inn.cap {v : Value} {xs : List Int} (h : Inn w lo hi v xs) : ∃ A c, v = .slice A xs.length c ∧ Own w lo v xs ∧ Cap A xs.length c := by
 obtain ⟨A, c, rfl, ho, ht⟩ := h
 refine ⟨A, c, rfl, ho, ?_⟩
 rcases own_form (n := xs.length) (vs := xs.map (Value.int .i64)) ho with ⟨rfl, h1, rfl, _⟩ | ⟨g, cur, rfl, _, _, h1, h2, h3, _⟩
 ·exact ⟨by omega, by omega, fun _ => rfl⟩
 ·exact ⟨h1, h3, fun e => by cases e⟩
theorem Owns.cap (h : Owns w lo hi A n c xss) : Cap A n c := by
 obtain ⟨vs, hr, _⟩ := h.row
 rcases own_form hr with ⟨rfl, h1, rfl, _⟩ | ⟨g, cur, rfl, _, _, h1, h2, h3, _⟩
 ·exact ⟨by omega, by omega, fun _ => rfl⟩
 ·exact ⟨h1, h3, fun e => by cases e⟩
theorem Owns.nil (w : World) (lo hi : Nat) : Owns w lo hi none 0 0 [] :=
 ⟨rfl, ⟨[], World.ownsRow_nil w lo 27 1, fun j hj => absurd hj (Nat.not_lt_zero _), fun i j k _ hj => absurd hj (Nat.not_lt_zero _)⟩, fun k hk => by cases hk⟩
end
theorem Inn.ne {w : World} {lo hi g : Nat} {v : Value} {xs : List Int} {cs : Array Value} (h : Inn w lo hi v xs) (hr : Row w g 27 cs) : v.ownBlock ≠ some g := by
 obtain ⟨A, c, rfl, ho, _⟩ := h
 rcases own_form (n := xs.length) ho with ⟨rfl, _⟩ | ⟨g', cur', rfl, _, hrow', _⟩
 ·intro e; cases e
 ·intro e
  have e2 : g' = g := by simpa [Value.ownBlock] using e
  exact Row.ne_ hr hrow' (by decide) e2.symm
end segs
end
section
namespace varsOf
open Go.RowKit base ints sig term termOk marks app sym sub segs varsMath termFacts
set_option maxRecDepth 100000
theorem Seg.pre {w : World} {B n k : Nat} {A : Option Addr} {xs : List Int} (h : Seg w B A n xs) (hk : k ≤ n) : Seg w B A k (xs.take k) := by
 refine ⟨by have := h.1; simp; omega, fun h0 => ?_⟩
 obtain ⟨b, off, e, hb, hc⟩ := h.2 (by omega)
 refine ⟨b, off, e, hb, fun j hj => ?_⟩
 rw [hc j (by omega)]
 simp [List.getD, List.getElem?_take, hj]
end varsOf
end
section
namespace varsOf
open Go.RowKit base
end varsOf
end
section
namespace varsOf
open Go.RowKit base ints sig term termOk marks app sym sub segs varsMath termFacts
set_option maxRecDepth 100000
end varsOf
end
section
namespace count
open Go.RowKit base ints sig term termOk
def cnt (t : List Int) (x : Int) (k : Nat) : Nat := (t.take k).count x
theorem cnt_le (t : List Int) (x : Int) (k : Nat) : cnt t x k ≤ k := by
 unfold cnt
 exact Nat.le_trans List.count_le_length (List.length_take_le _ _)
end count
end
section
namespace linear
open Go.RowKit base ints sig term termOk marks sym count varsMath termFacts varsOf
set_option maxRecDepth 100000
end linear
end
section
namespace ruleMath
open sig term termOk termFacts varsMath count linear renMath
abbrev Rl := List Int × List Int
def hd (t : List Int) : Int := t.getD 0 0
def newB (l : List Int) (x : Int) : Bool := decide (x < 0 ∧ x ∉ l)
def ruleOkB (sg : List Int) (r : Rl) : Bool := termOkB sg r.1 && (termOkB sg r.2 && (!decide (hd r.1 < 0) && !r.2.any (newB r.1)))
def sysOkB (sg : List Int) (rs : List Rl) : Bool := sigOkB sg && (decide (rs.length ≤ 12) && rs.all (ruleOkB sg))
theorem lists_eq {rs rs' : List Rl} (hl : rs.length = rs'.length) (h : ∀ j, j < rs.length → rs.getD j ([], []) = rs'.getD j ([], [])) : rs = rs' :=
 List.ext_getElem hl fun j h1 h2 => by
  have := h j h1
  simpa [List.getD, h1, h2] using this
end ruleMath
end
section
namespace putMath
open sig term termOk termFacts endAt sub args depth termMath posMath
section
variable {sg t u : List Int} {a : Nat}
end
end putMath
end
section
namespace segsHelp
open Go.RowKit base ints sig cursor marks app sym appAt segs
set_option maxRecDepth 100000
end segsHelp
end
section
namespace segsMark
open Go.RowKit base ints sig cursor marks app sym appAt segs segsHelp
set_option maxRecDepth 100000
def AnsMarkO (w : World) (base : Nat) (A : Option Addr) (n c : Nat) (k : Int) (e : Ending) (w' : World) : Prop :=
 e = .returned (.int .i64 (k + (n : Int))) ∧ w.grownBy w' (blk A) ∧ Own w' base (.slice A n c) (marks k n)
set_option maxHeartbeats 1000000 in
theorem markOwn (base : Nat) (A : Option Addr) (n c : Nat) (xs : List Int) (k : Int) (w : World) (h : Own w base (.slice A n c) xs) (hn : n ≤ 1048576) (hk0 : 0 ≤ k) (hk : k ≤ 1099511627776) :
  Calls Try.prog 93 #[.slice A n c, .int .i64 k] w (AnsMarkO w base A n c k) := by
 have hl := Own.len h
 by_cases h0 : n = 0
 ·subst h0
  have hx : xs = [] := List.eq_nil_of_length_eq_zero hl.symm
  subst hx
  have HO := Lib.hid h
  clear h hl
  go_enter Try.func93, Try.ntmps93
  go_wp2
  go_loop [1, 5] (fun kk i => kk = .int .i64 k ∧ i = .int .i64 0) (fun _ _ => 0)
  case atStart => exact ⟨rfl, rfl⟩
  case round =>
   obtain ⟨rfl, rfl⟩ := hrel
   go_wp2
   go_ret
   exact ⟨by simp, World.grownBy.refl _ _, by simpa [marks] using HO.out⟩
 ·rcases own_form (n := n) (vs := xs.map (Value.int .i64)) (by rw [hl]; rw [hl] at h; exact h) with ⟨_, e, _⟩ | ⟨g, cs0, rfl, hb, hr0, hnc, hz0, hmax, _, _⟩
  ·exact absurd e h0
  have S0 : HeadMark w g n k c (.int .i64 k) (.int .i64 0) w := ⟨0, cs0, Nat.zero_le _, rfl, by simp, hr0, hz0, fun q hq => absurd hq (Nat.not_lt_zero _), World.grownBy.refl _ _⟩
  have HS0 := Lib.hid S0
  clear S0 hz0 hr0 hl h
  go_enter Try.func93, Try.ntmps93
  go_wp2
  go_loopw [1, 5] (fun kk i wr => HeadMark w g n k c kk i wr) (fun _ i _ => n - (intOf i).toNat)
  case atStart => exact HS0.out
  case round =>
   obtain ⟨j, cs, hj, rfl, rfl, hr, hs, hc, hg⟩ := hrel
   clear HS0
   by_cases hlt : j < n
   ·have S := Lib.hid (headMark_step (k := k) hlt hnc hr hs hc hg)
    obtain ⟨u, hu⟩ : ∃ u, wr.cell? ⟨g, j, none⟩ = some u := ⟨_, (hr.cell j).trans (Array.getElem?_eq_getElem (by omega))⟩
    have hf : wr.frozen? ⟨g, j, none⟩ = false := hr.free j
    clear hr hs hc hg
    go_wp2
    go_roundw
    case rel => exact S.out
    case measure => simp [intOf]; omega
   ·have e : j = n := by omega
    subst e
    have F : AnsMarkO w base (some ⟨g, 0, none⟩) j c k (.returned (.int .i64 (k + (j : Int)))) wr :=
     ⟨rfl, hg, Own.of_row hr (marks_len _ _) hs hnc hmax hb (fun q hq => by rw [marks_get hq]; exact hc q hq)⟩
    have HF := Lib.hid F
    clear F hr hs hc hg
    go_wp2
    go_ret
    exact HF.out
end segsMark
end
section
namespace kinds
open Go.RowKit base ints sig cursor marks app sym appAt segs segsHelp segsMark
set_option maxRecDepth 100000
def Ownd (w : World) (lo hi : Nat) (A : Option Addr) (n c : Nat) (xs : List Int) : Prop := Own w lo (.slice A n c) xs ∧ ∀ k, blk A = some k → k < hi
section
variable {w w' : World} {lo hi n c : Nat} {A : Option Addr} {xs : List Int}
theorem Ownd.of_own (h : Own w lo (.slice A n c) xs) : Ownd w lo w.heap.size A n c xs := ⟨h, fun k hk => (World.ownsRow.lt h k (by rw [blk_own]; exact hk)).2⟩
theorem Ownd.cap (h : Ownd w lo hi A n c xs) : Cap A n c := by
 have hl := Own.len h.1
 rcases own_form (n := n) (vs := xs.map (Value.int .i64)) (by rw [hl]; have := h.1; rw [hl] at this; exact this) with ⟨rfl, h1, rfl, _⟩ | ⟨g, cur, rfl, _, _, h1, h2, h3, _⟩
 ·exact ⟨by omega, by omega, fun _ => rfl⟩
 ·exact ⟨h1, h3, fun e => by cases e⟩
theorem drew_below (w : World) : Below w.heap.size w w.drew := ⟨rfl, rfl, rfl, Nat.le_refl _, fun _ _ => rfl⟩
theorem drewN_below (w : World) (d : Nat) : Below w.heap.size w (w.drewN d) := ⟨rfl, rfl, rfl, Nat.le_refl _, fun _ _ => rfl⟩
end
def CopyInts (w : World) (n : Nat) (xs : List Int) (e : Ending) (w' : World) : Prop := ∃ g, e = .returned (.slice (some ⟨g, 0, none⟩) n n) ∧ Ownd w' w.heap.size w'.heap.size (some ⟨g, 0, none⟩) n n xs ∧ w.heap.size < w'.heap.size ∧ Below w.heap.size w w'
theorem intsTo (A : Option Addr) (n c : Nat) (xs : List Int) (w : World) (h : Seg w w.heap.size A n xs) (hn : n ≤ 1048576) :
  Calls Try.prog 43 #[.slice A n c] w (CopyInts w n xs) :=
 (toInts A n c xs w h hn).mono fun _ _ ⟨cs, he, hr, hs, hc, hz, hb⟩ => ⟨w.heap.size, he, Ownd.of_own (Own.of_row hr h.1 hs (Nat.le_refl _) (by omega) (Nat.le_refl _) hc), by omega, hb⟩
theorem intsEq (A A' : Option Addr) (n n' c c' : Nat) (xs : List Int) (w : World) (h : Seg w w.heap.size A n xs) (h' : Seg w w.heap.size A' n' xs) (hn : n ≤ 1048576) :
  Calls Try.prog 44 #[.slice A n c, .slice A' n' c'] w fun e w' => e = .returned (.bool true) ∧ Below w.heap.size w w' := by
 obtain rfl : n = n' := by rw [← h.1, ← h'.1]
 exact (eqYes A A' n c c' xs w h h' hn).mono fun _ _ ⟨he, d, hd⟩ => ⟨he, by rw [hd]; exact drewN_below _ _⟩
end kinds
end
section
namespace look
open Go.RowKit base ints marks app sym segs fillMath
set_option maxRecDepth 100000
end look
end
section
namespace substOk
open Go.RowKit base ints sig term termOk marks app sym sub segs segsHelp termFacts varsMath varsOf fillMath Go.Proofs.Ytiimbmkofpnebaa.look
set_option maxRecDepth 100000
def goodB (sg t : List Int) : Bool := decide (t.length = 0) || termOkB sg t
def substOkB (sg : List Int) (ss : List (List Int)) : Bool := sigOkB sg && (decide (ss.length ≤ 24) && ss.all (goodB sg))
end substOk
end
section
namespace gives
open Go.RowKit base ints sig term termOk marks app sym sub segs segsHelp termFacts varsMath varsOf fillMath Go.Proofs.Ytiimbmkofpnebaa.look substOk
set_option maxRecDepth 100000
def givesL (ss : List (List Int)) (i : Nat) : List Int := if (ss.getD i []).length = 0 then vt i else ss.getD i []
end gives
end
section
namespace stepMath
open sig term termOk termFacts fillMath gives endAt sub matchMath termMath posMath putMath ruleMath
end stepMath
end
section
namespace walkMath
open sig term termOk termFacts fillMath gives sub matchMath putMath ruleMath stepMath
def inB (x : Int) (n : Nat) : Bool := decide (0 ≤ x ∧ x < n)
def rightB (sg : List Int) (rs : List Rl) (t : List Int) : Bool := sysOkB sg rs && termOkB sg t
def thereR (sg : List Int) (rs : List Rl) (t : List Int) (a r : Int) : Bool := rightB sg rs t && (inB a t.length && inB r rs.length)
theorem there_parts {sg : List Int} {rs : List Rl} {t : List Int} {a r : Int} (h : thereR sg rs t a r = true) : sysOkB sg rs = true ∧ termOkB sg t = true ∧ (0 ≤ a ∧ a < t.length) ∧ (0 ≤ r ∧ r < rs.length) := by
 unfold thereR rightB inB at h
 simp only [Bool.and_eq_true, decide_eq_true_eq] at h
 exact ⟨h.1.1, h.1.2, h.2.1, h.2.2⟩
end walkMath
end
section
namespace parMath
open sig term termOk termFacts fillMath ruleMath stepMath walkMath forest
variable {sg : List Int} {rs : List Rl} {a b : List Int}
end parMath
end
section
namespace lpoLink
open sig term termOk termFacts endAt depth args sub fillMath posMath matchMath unifMath forest nodes parMath lpoMath rankMath
set_option maxRecDepth 100000
open Classical in
noncomputable def ptsC (sg u : List Int) : List (List Int) := if h : ∃ ps, Prt sg u ps then h.choose else []
def rkL (rk : List Int) (x : Int) : Int := rk.getD x.toNat 0
section
variable {sg t s : List Int} {a b : Nat}
end
noncomputable def gtP (bag : Bool) (sg rk t s : List Int) (i j : Nat) : Bool := gt bag (ptsC sg) (rkL rk) (subL sg t i) (subL sg s j)
def sameP (sg t s : List Int) (i j : Nat) : Bool := decide (subL sg t i = subL sg s j)
noncomputable def argP (bag : Bool) (sg rk t s : List Int) (i j : Nat) : Bool := (chN sg t i).any fun p => sameP sg t s p j || gtP bag sg rk t s p j
end lpoLink
end
section
namespace kboMath
open sig term fillMath forest lpoMath lpoLink
def wt (v : Int) (sy : List Int) : Tm → Int
 | [] => 0
 | x :: r => (if x < 0 then v else rkL sy x) + wt v sy r
variable {sg sy rk : List Int} {v : Int}
def sumN (f : Int → Nat) : Tm → Nat
 | [] => 0
 | x :: r => f x + sumN f r
theorem sum_erase {f : Int → Nat} : ∀ {t : Tm} {x : Int}, x ∈ t → sumN f t = f x + sumN f (t.erase x)
 | [], _, h => absurd h (by simp)
 | y :: r, x, h => by
  by_cases e : y = x
  ·subst e
   rw [List.erase_cons_head]
   rfl
  ·rw [List.erase_cons_tail (by simpa using e)]
   have h' : x ∈ r := by
    rcases List.mem_cons.1 h with rfl | h
    ·exact absurd rfl e
    ·exact h
   simp only [sumN, sum_erase h']
   omega
theorem sum_le {f : Int → Nat} (hf : ∀ x, 0 ≤ x → f x = 0) : ∀ {s t : Tm}, (∀ x, x < 0 → s.count x ≤ t.count x) → sumN f s ≤ sumN f t
 | [], _, _ => by simp [sumN]
 | x :: s, t, h => by
  by_cases hx : x < 0
  ·have hm : x ∈ t := by
    have := h x hx
    rw [List.count_cons_self] at this
    exact List.count_pos_iff.1 (by omega)
   have ih := sum_le hf (s := s) (t := t.erase x) (by
    intro y hy
    have i1 := h y hy
    rw [List.count_erase, ]
    rw [List.count_cons] at i1
    by_cases e : x = y
    ·subst e; simp at i1 ⊢; omega
    ·have e2 : (x == y) = false := by simpa using e
     have e3 : (y == x) = false := by simpa using (Ne.symm e)
     rw [e2] at i1
     simp [e2] at i1 ⊢
     exact i1)
   rw [sum_erase hm]
   simp only [sumN]
   omega
  ·simp only [sumN, hf x (by omega)]
   have := sum_le hf (s := s) (t := t) (fun y hy => by
    have i1 := h y hy
    rw [List.count_cons] at i1
    omega)
   omega
section
variable {L : Nat → List Int}
end
end kboMath
end
section
namespace shape
open Go.RowKit base ints sig cursor marks app sym appAt segs segsHelp segsMark kinds
inductive Sh where
 | num : Sh
 | bit : Sh
 | row : TypeId → Sh → Sh
 | cat : Sh → Sh → Sh
@[reducible] def Dat : Sh → Type
 | .num => Int
 | .bit => Bool
 | .row _ s => List (Dat s)
 | .cat a b => Dat a × Dat b
def nc : Sh → Nat
 | .num => 1
 | .bit => 1
 | .row _ _ => 1
 | .cat a b => nc a + nc b
def dft : (s : Sh) → Dat s
 | .num => (0 : Int)
 | .bit => false
 | .row _ _ => []
 | .cat a b => (dft a, dft b)
def Piece (w : World) (b off : Nat) (es : List Value) : Prop := ∀ i, i < es.length → w.cell? ⟨b, off + i, none⟩ = es[i]?
theorem nc_pos : ∀ s : Sh, 1 ≤ nc s
 | .num => Nat.le_refl _
 | .bit => Nat.le_refl _
 | .row _ _ => Nat.le_refl _
 | .cat a b => Nat.le_trans (nc_pos a) (Nat.le_add_right _ _)
def Rd (w : World) (B : Nat) : (s : Sh) → List Value → Dat s → Prop
 | .num, cs, (x : Int) => cs = [.int .i64 x]
 | .bit, cs, (x : Bool) => cs = [.bool x]
 | .row _ s, cs, (d : List (Dat s)) => ∃ A n c, cs = [.slice A n c] ∧ Cap A n c ∧ d.length = n ∧
   (0 < n → ∃ b off, A = some ⟨b, off, none⟩ ∧ b < B ∧ ∀ j, j < n → ∃ es, es.length = nc s ∧ Piece w b (off + j * nc s) es ∧ Rd w B s es (d.getD j (dft s)))
 | .cat a b, cs, d => ∃ ca cb, cs = ca ++ cb ∧ Rd w B a ca d.1 ∧ Rd w B b cb d.2
def Ow (w : World) : (s : Sh) → List Value → Dat s → List Nat → Prop
 | .num, cs, (x : Int), F => cs = [.int .i64 x] ∧ F = []
 | .bit, cs, (x : Bool), F => cs = [.bool x] ∧ F = []
 | .row e s, cs, (d : List (Dat s)), F => ∃ A n c, cs = [.slice A n c] ∧ d.length = n ∧
   ((A = none ∧ n = 0 ∧ c = 0 ∧ F = []) ∨ ∃ (g : Nat) (cur : Array Value) (E : Nat → List Value) (G : Nat → List Nat), A = some ⟨g, 0, none⟩ ∧ Row w g e cur ∧ n ≤ c ∧ c ≤ 9223372036854775807 ∧ cur.size = c * nc s ∧
    F = g :: (List.range n).flatMap G ∧ ∀ j, j < n → (E j).length = nc s ∧ (∀ i, i < nc s → cur[j * nc s + i]? = (E j)[i]?) ∧ Ow w s (E j) (d.getD j (dft s)) (G j))
 | .cat a b, cs, d, F => ∃ ca cb Fa Fb, cs = ca ++ cb ∧ F = Fa ++ Fb ∧ Ow w a ca d.1 Fa ∧ Ow w b cb d.2 Fb
section
variable {w w' : World} {B B' : Nat}
theorem Rd.len : ∀ {s : Sh} {cs : List Value} {d : Dat s}, Rd w B s cs d → cs.length = nc s
 | .num, _, _, h => by have h : _ = _ := h; rw [h]; rfl
 | .bit, _, _, h => by have h : _ = _ := h; rw [h]; rfl
 | .row _ _, _, _, h => by obtain ⟨A, n, c, e, _⟩ := h; rw [e]; rfl
 | .cat a b, _, _, h => by
  obtain ⟨ca, cb, e, h1, h2⟩ := h
  rw [e, List.length_append, h1.len, h2.len]; rfl
theorem Piece.keep {b off : Nat} {es : List Value} (h : Piece w b off es) (hk : ∀ p : Addr, p.block = b → w'.cell? p = w.cell? p) : Piece w' b off es := fun i hi => (hk _ rfl).trans (h i hi)
theorem Rd.keep (hk : ∀ p : Addr, p.block < B → w'.cell? p = w.cell? p) : ∀ {s : Sh} {cs : List Value} {d : Dat s}, Rd w B s cs d → Rd w' B s cs d
 | .num, _, _, h => h
 | .bit, _, _, h => h
 | .row _ s, _, _, h => by
  obtain ⟨A, n, c, e, hc, hl, h1⟩ := h
  refine ⟨A, n, c, e, hc, hl, fun hn => ?_⟩
  obtain ⟨b, off, e2, hb, h2⟩ := h1 hn
  refine ⟨b, off, e2, hb, fun j hj => ?_⟩
  obtain ⟨es, he, hp, hr⟩ := h2 j hj
  exact ⟨es, he, hp.keep (fun p hp => hk p (by rw [hp]; exact hb)), hr.keep hk⟩
 | .cat a b, _, _, h => by
  obtain ⟨ca, cb, e, h1, h2⟩ := h
  exact ⟨ca, cb, e, h1.keep hk, h2.keep hk⟩
theorem Rd.more (hB : B ≤ B') : ∀ {s : Sh} {cs : List Value} {d : Dat s}, Rd w B s cs d → Rd w B' s cs d
 | .num, _, _, h => h
 | .bit, _, _, h => h
 | .row _ s, _, _, h => by
  obtain ⟨A, n, c, e, hc, hl, h1⟩ := h
  refine ⟨A, n, c, e, hc, hl, fun hn => ?_⟩
  obtain ⟨b, off, e2, hb, h2⟩ := h1 hn
  refine ⟨b, off, e2, by omega, fun j hj => ?_⟩
  obtain ⟨es, he, hp, hr⟩ := h2 j hj
  exact ⟨es, he, hp, hr.more hB⟩
 | .cat a b, _, _, h => by
  obtain ⟨ca, cb, e, h1, h2⟩ := h
  exact ⟨ca, cb, e, h1.more hB, h2.more hB⟩
theorem Rd.below {s : Sh} {cs : List Value} {d : Dat s} (h : Rd w B s cs d) (hb : Below B w w') : Rd w' B s cs d := h.keep fun _ hp => hb.cell hp
theorem Rd.next {s : Sh} {cs : List Value} {d : Dat s} (h : Rd w w.heap.size s cs d) (hb : Below w.heap.size w w') : Rd w' w'.heap.size s cs d := (h.below hb).more hb.size
theorem Ow.len : ∀ {s : Sh} {cs : List Value} {d : Dat s} {F : List Nat}, Ow w s cs d F → cs.length = nc s
 | .num, _, _, _, h => by obtain ⟨e, _⟩ := h; rw [e]; rfl
 | .bit, _, _, _, h => by obtain ⟨e, _⟩ := h; rw [e]; rfl
 | .row _ _, _, _, _, h => by obtain ⟨A, n, c, e, _⟩ := h; rw [e]; rfl
 | .cat a b, _, _, _, h => by
  obtain ⟨ca, cb, Fa, Fb, e, _, h1, h2⟩ := h
  rw [e, List.length_append, h1.len, h2.len]; rfl
theorem Ow.keep : ∀ {s : Sh} {cs : List Value} {d : Dat s} {F : List Nat}, Ow w s cs d F → (∀ k ∈ F, w'.heap[k]? = w.heap[k]?) → Ow w' s cs d F
 | .num, _, _, _, h, _ => h
 | .bit, _, _, _, h, _ => h
 | .row e s, _, _, F, h, hk => by
  obtain ⟨A, n, c, e1, hl, h1⟩ := h
  refine ⟨A, n, c, e1, hl, ?_⟩
  rcases h1 with h1 | ⟨g, cur, E, G, e2, hr, h2, h3, h4, h5, h6⟩
  ·exact .inl h1
  ·subst h5
   refine .inr ⟨g, cur, E, G, e2, (hk g (List.mem_cons_self ..)).trans hr, h2, h3, h4, rfl, fun j hj => ?_⟩
   obtain ⟨q1, q2, q3⟩ := h6 j hj
   exact ⟨q1, q2, q3.keep fun k hkG => hk k (List.mem_cons_of_mem _ (List.mem_flatMap.2 ⟨j, List.mem_range.2 hj, hkG⟩))⟩
 | .cat a b, _, _, F, h, hk => by
  obtain ⟨ca, cb, Fa, Fb, e, e2, h1, h2⟩ := h
  subst e2
  exact ⟨ca, cb, Fa, Fb, e, rfl, h1.keep fun k h => hk k (List.mem_append_left _ h), h2.keep fun k h => hk k (List.mem_append_right _ h)⟩
theorem Ow.lt : ∀ {s : Sh} {cs : List Value} {d : Dat s} {F : List Nat}, Ow w s cs d F → ∀ k ∈ F, k < w.heap.size
 | .num, _, _, _, h, k, hk => by obtain ⟨_, e⟩ := h; rw [e] at hk; cases hk
 | .bit, _, _, _, h, k, hk => by obtain ⟨_, e⟩ := h; rw [e] at hk; cases hk
 | .row e s, _, _, F, h, k, hk => by
  obtain ⟨A, n, c, e1, hl, h1⟩ := h
  rcases h1 with ⟨_, _, _, h1⟩ | ⟨g, cur, E, G, e2, hr, h2, h3, h4, h5, h6⟩
  ·rw [h1] at hk; cases hk
  ·rw [h5] at hk
   rcases List.mem_cons.1 hk with hk | hk
   ·rw [hk]; exact hr.lt
   ·obtain ⟨j, hj, hk⟩ := List.mem_flatMap.1 hk
    exact (h6 j (List.mem_range.1 hj)).2.2.lt k hk
 | .cat a b, _, _, F, h, k, hk => by
  obtain ⟨ca, cb, Fa, Fb, e, e2, h1, h2⟩ := h
  rw [e2] at hk
  rcases List.mem_append.1 hk with hk | hk
  ·exact h1.lt k hk
  ·exact h2.lt k hk
theorem Ow.next {s : Sh} {cs : List Value} {d : Dat s} {F : List Nat} (h : Ow w s cs d F) (hb : Below w.heap.size w w') : Ow w' s cs d F := h.keep fun k hk => hb.block k (h.lt k hk)
theorem Ow.rd : ∀ {s : Sh} {cs : List Value} {d : Dat s} {F : List Nat}, Ow w s cs d F → Rd w w.heap.size s cs d
 | .num, _, _, _, h => h.1
 | .bit, _, _, _, h => h.1
 | .row e s, _, _, F, h => by
  obtain ⟨A, n, c, e1, hl, h1⟩ := h
  rcases h1 with ⟨rfl, rfl, rfl, _⟩ | ⟨g, cur, E, G, e2, hr, h2, h3, h4, h5, h6⟩
  ·exact ⟨none, 0, 0, e1, ⟨by omega, by omega, fun _ => rfl⟩, hl, fun h => absurd h (by omega)⟩
  ·refine ⟨A, n, c, e1, ⟨h2, h3, fun e => by rw [e] at e2; cases e2⟩, hl, fun hn => ⟨g, 0, e2, hr.lt, fun j hj => ?_⟩⟩
   obtain ⟨q1, q2, q3⟩ := h6 j hj
   refine ⟨E j, q1, fun i hi => ?_, q3.rd⟩
   rw [Nat.zero_add, hr.cell, q2 i (by omega)]
 | .cat a b, _, _, F, h => by
  obtain ⟨ca, cb, Fa, Fb, e, e2, h1, h2⟩ := h
  exact ⟨ca, cb, e, h1.rd, h2.rd⟩
def Owned (w : World) (lo hi : Nat) (s : Sh) (cs : List Value) (d : Dat s) : Prop := ∃ F, Ow w s cs d F ∧ F.Nodup ∧ ∀ k ∈ F, lo ≤ k ∧ k < hi
variable {lo hi : Nat} {s : Sh} {cs : List Value} {d : Dat s}
theorem Owned.rd (h : Owned w lo hi s cs d) : Rd w w.heap.size s cs d := by obtain ⟨F, h, _⟩ := h; exact h.rd
theorem Owned.next (h : Owned w lo hi s cs d) (hb : Below w.heap.size w w') : Owned w' lo hi s cs d := by obtain ⟨F, h, h2⟩ := h; exact ⟨F, h.next hb, h2⟩
theorem Owned.drew (h : Owned w lo hi s cs d) : Owned w.drew lo hi s cs d := h.next (drew_below w)
theorem Owned.wider {lo' hi' : Nat} (h : Owned w lo hi s cs d) (h1 : lo' ≤ lo) (h2 : hi ≤ hi') : Owned w lo' hi' s cs d := by
 obtain ⟨F, h, h3, h4⟩ := h
 exact ⟨F, h, h3, fun k hk => by have := h4 k hk; omega⟩
theorem Owned.btw {lo' hi' : Nat} (h : Owned w lo hi s cs d) (hb : Btw lo' hi' w w') (ho : hi ≤ lo' ∨ hi' ≤ lo) : Owned w' lo hi s cs d := by
 obtain ⟨F, h, h3, h4⟩ := h
 exact ⟨F, h.keep fun k hk => hb.block k (h.lt k hk) (by have := h4 k hk; omega), h3, h4⟩
theorem Owned.put {g i : Nat} {u : Value} (h : Owned w lo hi s cs d) (hg : g < lo ∨ hi ≤ g) : Owned (w.setCell ⟨g, i, none⟩ u) lo hi s cs d := by
 obtain ⟨F, h, h3, h4⟩ := h
 exact ⟨F, h.keep fun k hk => Below.heap_setCell w _ u k (by have := h4 k hk; show k ≠ g; omega), h3, h4⟩
theorem Owned.cat {mid mid' : Nat} {a b : Sh} {ca cb : List Value} {da : Dat a} {db : Dat b} (h1 : Owned w lo mid a ca da) (h2 : Owned w mid' hi b cb db) (hm : mid ≤ mid') (hl : lo ≤ mid') (hh : mid ≤ hi) : Owned w lo hi (.cat a b) (ca ++ cb) (da, db) := by
 obtain ⟨F, h1, n1, b1⟩ := h1
 obtain ⟨G, h2, n2, b2⟩ := h2
 refine ⟨F ++ G, ⟨ca, cb, F, G, rfl, rfl, h1, h2⟩, List.nodup_append.2 ⟨n1, n2, fun x hx y hy e => ?_⟩, fun k hk => ?_⟩
 ·have := b1 x hx; have := b2 y hy; omega
 ·rcases List.mem_append.1 hk with hk | hk
  ·have := b1 k hk; omega
  ·have := b2 k hk; omega
end
abbrev sI : Sh := .row 2 .num
section
variable {w w' : World} {B : Nat}
theorem rd_ints {v : Value} {xs : List Int} : Rd w B sI [v] xs ↔ ∃ A n c, v = .slice A n c ∧ Seg w B A n xs ∧ Cap A n c := by
 constructor
 ·rintro ⟨A, n, c, e, hc, hl, h⟩
  refine ⟨A, n, c, by injection e, ⟨hl, fun hn => ?_⟩, hc⟩
  obtain ⟨b, off, e2, hb, h2⟩ := h hn
  refine ⟨b, off, e2, hb, fun j hj => ?_⟩
  obtain ⟨es, he, hp, hr⟩ := h2 j hj
  have hr : es = [.int .i64 (xs.getD j 0)] := hr
  have := hp 0 (by rw [hr]; simp)
  rw [hr] at this
  simpa [nc] using this
 ·rintro ⟨A, n, c, rfl, h, hc⟩
  refine ⟨A, n, c, rfl, hc, h.1, fun hn => ?_⟩
  obtain ⟨b, off, e2, hb, h2⟩ := h.2 hn
  refine ⟨b, off, e2, hb, fun j hj => ⟨[.int .i64 (xs.getD j 0)], rfl, fun i hi => ?_, rfl⟩⟩
  have hi : i = 0 := by simpa using hi
  subst hi
  first | (simp [nc]; done) | (simpa [nc] using h2 j hj)
theorem ow_ints {lo hi : Nat} {A : Option Addr} {n c : Nat} {xs : List Int} : Owned w lo hi sI [.slice A n c] xs ↔ Ownd w lo hi A n c xs := by
 constructor
 ·rintro ⟨F, ⟨A', n', c', e, hl, h⟩, _, hb⟩
  injection e with e
  injection e with e1 e2 e3
  subst e1 e2 e3
  rcases h with ⟨rfl, rfl, rfl, rfl⟩ | ⟨g, cur, E, G, rfl, hr, h2, h3, h4, rfl, h6⟩
  ·have hx : xs = [] := List.eq_nil_of_length_eq_zero hl
   subst hx
   exact ⟨Own.nil _ _, fun k hk => by cases hk⟩
  ·have hg := hb g (List.mem_cons_self ..)
   refine ⟨Own.of_row hr hl (by simpa [nc] using h4) h2 h3 hg.1 fun j hj => ?_, fun k hk => by have : g = k := Option.some.inj hk; omega⟩
   obtain ⟨q1, q2, q3⟩ := h6 j hj
   have q3 : E j = [.int .i64 (xs.getD j 0)] := q3.1
   have := q2 0 (by simp [nc])
   rw [q3] at this
   simpa [nc] using this
 ·rintro ⟨ho, hb⟩
  have hl := Own.len ho
  rcases own_form (n := n) (vs := xs.map (Value.int .i64)) (by rw [hl]; rw [hl] at ho; exact ho) with ⟨rfl, h1, rfl, _⟩ | ⟨g, cur, rfl, hlo, hr, h1, h2, h3, _, h5⟩
  ·subst h1
   exact ⟨[], ⟨none, 0, 0, rfl, hl.symm, .inl ⟨rfl, rfl, rfl, rfl⟩⟩, List.nodup_nil, fun k hk => by cases hk⟩
  ·have hg := hb g rfl
   refine ⟨[g], ⟨some ⟨g, 0, none⟩, n, c, rfl, hl.symm, .inr ⟨g, cur, fun j => [.int .i64 (xs.getD j 0)], fun _ => [], rfl, hr, h1, h3, by simp [nc, h2], ?_, fun j hj => ⟨rfl, fun i hi => ?_, rfl, rfl⟩⟩⟩, by simp, fun k hk => ?_⟩
   ·have : ∀ l : List Nat, l.flatMap (fun _ => ([] : List Nat)) = [] := fun l => by induction l <;> simp_all
    rw [this]
   ·have hi : i = 0 := by simpa [nc] using hi
    subst hi
    have := h5 j hj
    simp only [nc, Nat.mul_one, Nat.add_zero]
    rw [this]
    have hj' : j < xs.length := by omega
    simp [List.getD, hj']
   ·rw [List.mem_singleton.1 hk]; exact ⟨hlo, hg⟩
end
def sz : (s : Sh) → Dat s → Nat
 | .num, _ => 0
 | .bit, _ => 0
 | .row _ s, (d : List (Dat s)) => d.length + (d.map (sz s)).sum
 | .cat a b, d => sz a d.1 + sz b d.2
theorem sz_ints (xs : List Int) : sz sI xs = xs.length := by
 have : ∀ l : List Int, (l.map (sz .num)).sum = 0 := fun l => by induction l <;> simp_all [sz]
 show xs.length + (xs.map (sz .num)).sum = _
 rw [this]; rfl
def cnt : (s : Sh) → Dat s → Nat
 | .num, _ => 1
 | .bit, _ => 1
 | .row _ s, (d : List (Dat s)) => (d.map (cnt s)).sum
 | .cat a b, d => cnt a d.1 + cnt b d.2
def cntv : (s : Sh) → Dat s → Nat
 | .num, _ => 0
 | .bit, _ => 0
 | .row _ s, (d : List (Dat s)) => (d.map (cnt s)).sum
 | .cat a b, d => cntv a d.1 + cntv b d.2
def cnts (s : Sh) (d : List (Dat s)) (k : Nat) : Nat := ((d.take k).map (cnt s)).sum
def mkc : (s : Sh) → Int → Dat s → Dat s
 | .num, k, _ => k
 | .bit, k, _ => decide (k % 3 = 0)
 | .row _ s, k, (d : List (Dat s)) => (List.range d.length).map fun j => mkc s (k + (cnts s d j : Int)) (d.getD j (dft s))
 | .cat a b, k, d => (mkc a k d.1, mkc b (k + (cnt a d.1 : Int)) d.2)
def mkv : (s : Sh) → Int → Dat s → Dat s
 | .num, _, d => d
 | .bit, _, d => d
 | .row _ s, k, (d : List (Dat s)) => (List.range d.length).map fun j => mkc s (k + (cnts s d j : Int)) (d.getD j (dft s))
 | .cat a b, k, d => (mkv a k d.1, mkv b (k + (cntv a d.1 : Int)) d.2)
theorem cnt_ints : ∀ xs : List Int, (xs.map (cnt .num)).sum = xs.length
 | [] => rfl
 | x :: xs => by rw [List.map_cons, List.sum_cons, cnt_ints xs, List.length_cons]; show 1 + xs.length = _; omega
theorem cnts_ints (xs : List Int) {j : Nat} (h : j ≤ xs.length) : cnts .num xs j = j := by
 unfold cnts
 rw [cnt_ints, List.length_take]
 omega
theorem mk_ints (k : Int) (xs : List Int) : mkv sI k xs = marks k xs.length := by
 show (List.range xs.length).map _ = (List.range xs.length).map _
 refine List.map_congr_left fun j hj => ?_
 show k + ((cnts .num xs j : Nat) : Int) = k + (j : Int)
 rw [cnts_ints xs (Nat.le_of_lt (List.mem_range.1 hj))]
def wd : Sh → Nat
 | .num => 1
 | .bit => 1
 | .row _ s => wd s
 | .cat a b => wd a + wd b
theorem sum_le {α : Type} {f g : α → Nat} {C : Nat} : ∀ {l : List α}, (∀ x ∈ l, f x ≤ C * (1 + g x)) → (l.map f).sum ≤ C * (l.length + (l.map g).sum)
 | [], _ => Nat.zero_le _
 | x :: l, h => by
  have h1 := h x (List.mem_cons_self ..)
  have h2 := sum_le (l := l) fun y hy => h y (List.mem_cons_of_mem _ hy)
  simp only [List.map_cons, List.sum_cons, List.length_cons]
  have e : C * (l.length + 1 + (g x + (l.map g).sum)) = C * (1 + g x) + C * (l.length + (l.map g).sum) := by rw [← Nat.mul_add]; congr 1; omega
  omega
theorem cnt_le : ∀ (s : Sh) (d : Dat s), cnt s d ≤ wd s * (1 + sz s d)
 | .num, _ => by simp [cnt, wd]
 | .bit, _ => by simp [cnt, wd]
 | .row _ s, (d : List (Dat s)) => by
  have h := sum_le (f := cnt s) (g := sz s) (C := wd s) (l := d) fun x _ => cnt_le s x
  show (d.map (cnt s)).sum ≤ wd s * (1 + (d.length + (d.map (sz s)).sum))
  have : wd s * (d.length + (d.map (sz s)).sum) ≤ wd s * (1 + (d.length + (d.map (sz s)).sum)) := Nat.mul_le_mul_left _ (by omega)
  omega
 | .cat a b, d => by
  have h1 := cnt_le a d.1
  have h2 := cnt_le b d.2
  show cnt a d.1 + cnt b d.2 ≤ (wd a + wd b) * (1 + (sz a d.1 + sz b d.2))
  have h3 : wd a * (1 + sz a d.1) ≤ wd a * (1 + (sz a d.1 + sz b d.2)) := Nat.mul_le_mul_left _ (by omega)
  have h4 : wd b * (1 + sz b d.2) ≤ wd b * (1 + (sz a d.1 + sz b d.2)) := Nat.mul_le_mul_left _ (by omega)
  rw [Nat.add_mul]
  omega
theorem cntv_le : ∀ (s : Sh) (d : Dat s), cntv s d ≤ wd s * sz s d
 | .num, _ => Nat.zero_le _
 | .bit, _ => Nat.zero_le _
 | .row _ s, (d : List (Dat s)) => sum_le (f := cnt s) (g := sz s) (C := wd s) (l := d) fun x _ => cnt_le s x
 | .cat a b, d => by
  have h1 := cntv_le a d.1
  have h2 := cntv_le b d.2
  show cntv a d.1 + cntv b d.2 ≤ (wd a + wd b) * (sz a d.1 + sz b d.2)
  have h3 : wd a * sz a d.1 ≤ wd a * (sz a d.1 + sz b d.2) := Nat.mul_le_mul_left _ (by omega)
  have h4 : wd b * sz b d.2 ≤ wd b * (sz a d.1 + sz b d.2) := Nat.mul_le_mul_left _ (by omega)
  rw [Nat.add_mul]
  omega
end shape
end
section
namespace shape
open Go.RowKit base ints sig cursor marks app sym appAt segs segsHelp segsMark kinds
structure Only (F : List Nat) (w w' : World) : Prop where
 os : w'.os = w.os
 tape : w'.tape = w.tape
 output : w'.output = w.output
 size : w.heap.size ≤ w'.heap.size
 block : ∀ k, k < w.heap.size → k ∉ F → w'.heap[k]? = w.heap[k]?
section
variable {w w' w2 : World} {B : Nat} {s : Sh} {e : TypeId} {v : Value} {F G : List Nat}
theorem Only.of_below (h : Below w.heap.size w w') : Only F w w' := ⟨h.os, h.tape, h.output, h.size, fun k hk _ => h.block k hk⟩
theorem Only.trans (h : Only F w w') (k : Only F w' w2) : Only F w w2 :=
 ⟨k.os.trans h.os, k.tape.trans h.tape, k.output.trans h.output, Nat.le_trans h.size k.size, fun i hi ho => (k.block i (Nat.lt_of_lt_of_le hi h.size) ho).trans (h.block i hi ho)⟩
theorem Only.wider (h : Only F w w') (hF : ∀ k ∈ F, k ∈ G) : Only G w w' := ⟨h.os, h.tape, h.output, h.size, fun k hk ho => h.block k hk fun hk2 => ho (hF k hk2)⟩
theorem Only.btw {lo hi : Nat} (h : Only F w w') (hF : ∀ k ∈ F, lo ≤ k ∧ k < hi) : Btw lo hi w w' := ⟨h.os, h.tape, h.output, h.size, fun k hk ho => h.block k hk fun hk2 => by have := hF k hk2; omega⟩
theorem Ow.only {cs : List Value} {d : Dat s} (h : Ow w s cs d F) (ho : Only G w w') (hd : ∀ k ∈ F, k ∉ G) : Ow w' s cs d F := h.keep fun k hk => ho.block k (h.lt k hk) (hd k hk)
def Copy1 (w : World) (s : Sh) (d : Dat s) (e : Ending) (w' : World) : Prop := ∃ A n c, e = .returned (.slice A n c) ∧ Owned w' w.heap.size w'.heap.size s [.slice A n c] d ∧ Below w.heap.size w w'
def AnsSzK (w : World) (left : Int) (t : Nat) (e : Ending) (w' : World) : Prop := e = .returned (.int .i64 (if left - t < 0 then -1 else left - t)) ∧ Below w.heap.size w w'
def Yes (w : World) (e : Ending) (w' : World) : Prop := e = .returned (.bool true) ∧ Below w.heap.size w w'
def AnsMarkF (w : World) (s : Sh) (cs : List Value) (d : Dat s) (k : Int) (F : List Nat) (e : Ending) (w' : World) : Prop := e = .returned (.int .i64 (k + (cntv s d : Int))) ∧ Ow w' s cs (mkv s k d) F ∧ Only F w w'
def AnsHeld (w : World) (z : Int) (e : Ending) (w' : World) : Prop := e = .returned (.int .i64 z) ∧ Below w.heap.size w w'
theorem szK_ints (v : Value) (xs : List Int) (left : Int) (w : World) (h : Rd w w.heap.size sI [v] xs) (h0 : 0 ≤ left) (h1 : left ≤ 1048576) :
  Calls Try.prog 83 #[v, .int .i64 left] w (AnsSzK w left (sz sI xs)) := by
 obtain ⟨A, n, c, rfl, hs, hc⟩ := rd_ints.1 h
 rw [sz_ints, hs.1]
 exact (szInts A n c left w (Nat.le_trans hc.1 hc.2.1) h0 h1).mono fun _ _ ⟨e1, e2⟩ => ⟨e2, e1 ▸ Below.refl _ _⟩
theorem toK_ints (v : Value) (xs : List Int) (w : World) (h : Rd w w.heap.size sI [v] xs) (hz : sz sI xs ≤ 1048576) :
  Calls Try.prog 43 #[v] w (Copy1 w sI xs) := by
 obtain ⟨A, n, c, rfl, hs, hc⟩ := rd_ints.1 h
 rw [sz_ints, hs.1] at hz
 exact (intsTo A n c xs w hs hz).mono fun _ _ ⟨g, e, ho, _, hb⟩ => ⟨_, _, _, e, ow_ints.2 ho, hb⟩
theorem eqK_ints (v v' : Value) (xs : List Int) (w : World) (h : Rd w w.heap.size sI [v] xs) (h' : Rd w w.heap.size sI [v'] xs) (hz : sz sI xs ≤ 1048576) :
  Calls Try.prog 44 #[v, v'] w (Yes w) := by
 obtain ⟨A, n, c, rfl, hs, hc⟩ := rd_ints.1 h
 obtain ⟨A', n', c', rfl, hs', hc'⟩ := rd_ints.1 h'
 rw [sz_ints, hs.1] at hz
 exact intsEq A A' n n' c c' xs w hs hs' hz
theorem ow_ints' {w : World} {A : Option Addr} {n c : Nat} {xs : List Int} {F : List Nat} (h : Ow w sI [.slice A n c] xs F) : Own w 0 (.slice A n c) xs ∧ ((blk A = none ∧ F = []) ∨ ∃ g, blk A = some g ∧ F = [g]) := by
 have h0 := h
 obtain ⟨A', n', c', e, hl, h⟩ := h
 injection e with e
 injection e with e1 e2 e3
 subst e1 e2 e3
 rcases h with ⟨rfl, rfl, rfl, rfl⟩ | ⟨g, cur, E, G, rfl, hr, h2, h3, h4, rfl, h6⟩
 ·have hx : xs = [] := List.eq_nil_of_length_eq_zero hl
  subst hx
  exact ⟨Own.nil _ _, .inl ⟨rfl, rfl⟩⟩
 ·have hG : (List.range n).flatMap G = [] := List.eq_nil_iff_forall_not_mem.2 fun k hk => by
   obtain ⟨j, hj, hk⟩ := List.mem_flatMap.1 hk
   have q3 := (h6 j (List.mem_range.1 hj)).2.2
   have q3 : _ ∧ G j = [] := q3
   rw [q3.2] at hk
   cases hk
  rw [hG] at h0 ⊢
  exact ⟨(ow_ints.1 ⟨[g], h0, by simp, fun k hk => ⟨Nat.zero_le _, h0.lt k hk⟩⟩ : Ownd w 0 w.heap.size _ _ _ _).1, .inr ⟨g, rfl, rfl⟩⟩
theorem ow_of {w : World} {A : Option Addr} {n c : Nat} {xs : List Int} {F : List Nat} (h : Own w 0 (.slice A n c) xs) (hF : (blk A = none ∧ F = []) ∨ ∃ g, blk A = some g ∧ F = [g]) : Ow w sI [.slice A n c] xs F := by
 obtain ⟨F', h1, _, _⟩ := (ow_ints (w := w) (lo := 0) (hi := w.heap.size)).2 (Ownd.of_own h)
 have h2 := (ow_ints' h1).2
 rcases hF with ⟨e1, rfl⟩ | ⟨g, e1, rfl⟩
 ·rcases h2 with ⟨_, rfl⟩ | ⟨g, e2, _⟩
  ·exact h1
  ·rw [e1] at e2; cases e2
 ·rcases h2 with ⟨e2, _⟩ | ⟨g', e2, rfl⟩
  ·rw [e1] at e2; cases e2
  ·rw [e1] at e2; injection e2 with e2; subst e2; exact h1
theorem markK_ints (v : Value) (xs : List Int) (k : Int) (F : List Nat) (w : World) (h : Ow w sI [v] xs F) (hz : sz sI xs ≤ 1048576) (hk0 : 0 ≤ k) (hk : k ≤ 1099511627776) :
  Calls Try.prog 93 #[v, .int .i64 k] w (AnsMarkF w sI [v] xs k F) := by
 obtain ⟨A, n, c, rfl, hs, hc⟩ := rd_ints.1 h.rd
 rw [sz_ints, hs.1] at hz
 obtain ⟨ho, hF⟩ := ow_ints' h
 refine (markOwn 0 A n c xs k w ho hz hk0 hk).mono fun _ _ ⟨e, hg, ho2⟩ => ⟨?_, ?_, ?_⟩
 ·rw [e]
  have : cntv sI xs = n := by rw [← hs.1]; exact cnt_ints xs
  rw [this]
 ·rw [mk_ints, hs.1]
  exact ow_of ho2 hF
 ·rcases hF with ⟨e1, rfl⟩ | ⟨g, e1, rfl⟩
  ·rw [e1] at hg
   exact ⟨hg.os, hg.tape, hg.output, hg.size, fun k hk _ => hg.block k hk (by simp)⟩
  ·rw [e1] at hg
   exact ⟨hg.os, hg.tape, hg.output, hg.size, fun k hk hn => hg.block k hk (fun e => hn (by injection e with e; rw [e]; simp))⟩
theorem heldK_ints (v : Value) (xs : List Int) (k : Int) (w : World) (h : Rd w w.heap.size sI [v] (mkv sI k xs)) (hz : sz sI xs ≤ 1048576) (hk0 : 0 ≤ k) (hk : k ≤ 1099511627776) :
  Calls Try.prog 94 #[v, .int .i64 k] w (AnsHeld w (k + (cntv sI xs : Int))) := by
 rw [mk_ints] at h
 obtain ⟨A, n, c, rfl, hs, hc⟩ := rd_ints.1 h
 have hl : n = xs.length := by rw [← hs.1, marks_len]
 subst hl
 rw [sz_ints] at hz
 have : cntv sI xs = xs.length := cnt_ints xs
 rw [this]
 exact (heldInts A _ c k w hs hz hk0 (by omega)).mono fun _ _ ⟨e1, e2⟩ => ⟨e2, e1 ▸ Below.refl _ _⟩
end
section
variable {s : Sh} {e : TypeId}
end
theorem Rd.split {w : World} {B : Nat} {a b : Sh} {ca cb : List Value} {d : Dat (.cat a b)} (h : Rd w B (.cat a b) (ca ++ cb) d) (hl : ca.length = nc a) : Rd w B a ca d.1 ∧ Rd w B b cb d.2 := by
 obtain ⟨ca', cb', e, h1, h2⟩ := h
 obtain ⟨rfl, rfl⟩ := List.append_inj e (by rw [hl, h1.len])
 exact ⟨h1, h2⟩
theorem Ow.split {w : World} {a b : Sh} {ca cb : List Value} {d : Dat (.cat a b)} {F : List Nat} (h : Ow w (.cat a b) (ca ++ cb) d F) (hl : ca.length = nc a) : ∃ Fa Fb, F = Fa ++ Fb ∧ Ow w a ca d.1 Fa ∧ Ow w b cb d.2 Fb := by
 obtain ⟨ca', cb', Fa, Fb, e, e2, h1, h2⟩ := h
 obtain ⟨rfl, rfl⟩ := List.append_inj e (by rw [hl, h1.len])
 exact ⟨Fa, Fb, e2, h1, h2⟩
theorem Row.only {w w' : World} {g : Nat} {t : TypeId} {cs : Array Value} {F : List Nat} (h : Row w g t cs) (ho : Only F w w') (hg : g ∉ F) : Row w' g t cs := (ho.block g h.lt hg).trans h
theorem Ow.join {w : World} {a b : Sh} {ca cb : List Value} {x : Dat a} {y : Dat b} {Fa Fb : List Nat} (h1 : Ow w a ca x Fa) (h2 : Ow w b cb y Fb) : Ow w (.cat a b) (ca ++ cb) (x, y) (Fa ++ Fb) := ⟨ca, cb, Fa, Fb, rfl, rfl, h1, h2⟩
theorem dis_app {F G : List Nat} (h : (F ++ G).Nodup) : F.Nodup ∧ G.Nodup ∧ (∀ k ∈ F, k ∉ G) ∧ ∀ k ∈ G, k ∉ F := by
 obtain ⟨h1, h2, h3⟩ := List.nodup_append.1 h
 exact ⟨h1, h2, fun k hk hk2 => h3 k hk k hk2 rfl, fun k hk hk2 => h3 k hk2 k hk rfl⟩
theorem dis_l {F A B : List Nat} (h : ∀ k ∈ F, k ∉ A ++ B) : (∀ k ∈ F, k ∉ A) ∧ ∀ k ∈ F, k ∉ B := ⟨fun k hk h2 => h k hk (List.mem_append_left _ h2), fun k hk h2 => h k hk (List.mem_append_right _ h2)⟩
theorem dis_r {F A B : List Nat} (h : ∀ k ∈ A ++ B, k ∉ F) : (∀ k ∈ A, k ∉ F) ∧ ∀ k ∈ B, k ∉ F := ⟨fun k hk => h k (List.mem_append_left _ hk), fun k hk => h k (List.mem_append_right _ hk)⟩
section
variable {s : Sh} {e : TypeId}
end
structure CpS (w : World) (tL tI : TypeId) (cs zs part : Array Value) (wr : World) : Prop where
 box : Row wr w.heap.size tL cs
 res : Row wr (w.heap.size + 1) tI zs
 cur : Row wr (w.heap.size + 1 + 1) tI part
 bel : Below w.heap.size w wr
 size : w.heap.size + 1 + 1 + 1 ≤ wr.heap.size
section
variable {w wr w1 : World} {tL tI : TypeId} {cs zs part : Array Value}
theorem CpS.zero (w : World) (tL tI : TypeId) (cs zs : Array Value) : CpS w tL tI cs zs zs (((w.alloc (.cells cs tL)).alloc (.cells zs tI)).alloc (.cells zs tI)) where
 box := by have := ((Row.new w tL cs).alloc (.cells zs tI)).alloc (.cells zs tI); simpa using this
 res := by have := (Row.new (w.alloc (.cells cs tL)) tI zs).alloc (.cells zs tI); simpa using this
 cur := by have := Row.new ((w.alloc (.cells cs tL)).alloc (.cells zs tI)) tI zs; simpa using this
 bel := (((Below.refl _ _).alloc (Nat.le_refl _) _).alloc (by simp) _).alloc (by simp; omega) _
 size := by simp
theorem CpS.next (h : CpS w tL tI cs zs part wr) (bb : Below wr.heap.size wr w1) : CpS w tL tI cs zs part w1 :=
 ⟨h.box.next bb, h.res.next bb, h.cur.next bb, h.bel.trans (bb.mono h.bel.size), Nat.le_trans h.size bb.size⟩
theorem CpS.put (h : CpS w tL tI cs zs part wr) (i : Nat) (u : Value) : CpS w tL tI cs zs (part.setIfInBounds i u) (wr.setCell ⟨w.heap.size + 1 + 1, i, none⟩ u) :=
 ⟨h.box.far (by show _ ≠ w.heap.size + 1 + 1; omega) _, h.res.far (by show _ ≠ w.heap.size + 1 + 1; omega) _, h.cur.put i u, h.bel.setCell (by show _ ≤ w.heap.size + 1 + 1; omega) _, by simpa using h.size⟩
theorem CpS.fin (h : CpS w tL tI cs zs part wr) (i : Nat) (u : Value) : CpS w tL tI cs (zs.setIfInBounds i u) part (wr.setCell ⟨w.heap.size + 1, i, none⟩ u) :=
 ⟨h.box.far (by show _ ≠ w.heap.size + 1; omega) _, h.res.put i u, h.cur.far (by show _ ≠ w.heap.size + 1; omega) _, h.bel.setCell (by show _ ≤ w.heap.size + 1; omega) _, by simpa using h.size⟩
end
end shape
end
section
open Go.Lib (hid)
namespace kindsR
open Go.RowKit base ints sig cursor marks app sym appAt segs segsHelp segsMark kinds shape
set_option maxRecDepth 100000
abbrev sSig : Sh := sI
theorem cells_Sig {w : World} {B : Nat} {es : List Value} {d : Dat sSig} (h : Rd w B sSig es d) : ∃ (v0 : Value), es = [v0] := by
 obtain ⟨A0, n0, c0, z0, -⟩ := h
 exact ⟨.slice A0 n0 c0, by rw [z0] <;> rfl⟩
set_option maxHeartbeats 2000000 in
theorem szK_Sig (v0 : Value) (d : Dat sSig) (left : Int) (w : World) (h : Rd w w.heap.size sSig [v0] d) (h0 : 0 ≤ left) (h1 : left ≤ 1048576) :
  Calls Try.prog 35 #[.agg #[v0], .int .i64 left] w (AnsSzK w left (sz sSig d)) := by
 have g0 := h
 obtain ⟨t0, ht0⟩ : ∃ t, sz sI d = t := ⟨_, rfl⟩
 have HE : Hid (sz sSig d = t0) := hid (by rw [← ht0]; try rfl)
 have HT0 := hid ht0
 have G0 := hid g0
 obtain ⟨W, hW⟩ : ∃ W, W = w.alloc (.cells #[v0] 58) := ⟨_, rfl⟩
 have r : Row W w.heap.size 58 #[v0] := by rw [hW]; exact Row.new _ _ _
 have bel : Below w.heap.size w W := by rw [hW]; exact (Below.refl _ _).alloc (Nat.le_refl _) _
 have HW := hid hW
 clear hW h g0 ht0
 go_enter Try.func35, Try.ntmps35
 go_wp2_with fail
 rw [← HW.out]
 refine (szK_ints _ _ left W (G0.out.next bel) h0 h1).mono ?_
 rintro e w1 ⟨he, bb⟩
 rw [HT0.out] at he
 replace r := r.next bb
 replace bel := next_trans bel bb
 clear bb
 by_cases q0 : left - (t0 : Int) < 0
 ·rw [if_pos q0] at he
  subst he
  have F : AnsSzK w left (sz sSig d) (.returned (.int .i64 (-1))) w1 := ⟨by rw [HE.out, if_pos (by omega)], bel⟩
  have HF := hid F
  clear F bel r
  go_wp2
  go_ret
  exact HF.out
 rw [if_neg q0] at he
 obtain ⟨l0, hl0⟩ : ∃ l, left - (t0 : Int) = l := ⟨_, rfl⟩
 rw [hl0] at he
 have a0 : 0 ≤ l0 := by omega
 have b0 : l0 ≤ 1048576 := by omega
 have HL0 := hid hl0
 clear hl0 q0
 subst he
 have F : AnsSzK w left (sz sSig d) (.returned (.int .i64 l0)) w1 := ⟨by have := HL0.out; rw [HE.out, if_neg (by omega)]; exact congrArg (fun z => Ending.returned (.int .i64 z)) (by omega), bel⟩
 have HF := hid F
 clear F bel r
 go_wp2
 go_ret
 exact HF.out
def CopySig (w : World) (d : Dat sSig) (e : Ending) (w' : World) : Prop := ∃ A0 n0 c0, e = .returned (.agg #[.slice A0 n0 c0]) ∧ Owned w' w.heap.size w'.heap.size sSig [.slice A0 n0 c0] d ∧ Below w.heap.size w w'
set_option maxHeartbeats 2000000 in
theorem toK_Sig (v0 : Value) (d : Dat sSig) (w : World) (h : Rd w w.heap.size sSig [v0] d) (hz : sz sSig d ≤ 1048576) :
  Calls Try.prog 38 #[.agg #[v0]] w (CopySig w d) := by
 have g0 := h
 have cp0 := CpS.zero w 58 29 #[v0] #[.slice none 0 0]
 obtain ⟨W, hW⟩ : ∃ W, W = ((w.alloc (.cells #[v0] 58)).alloc (.cells #[.slice none 0 0] 29)).alloc (.cells #[.slice none 0 0] 29) := ⟨_, rfl⟩
 rw [← hW] at cp0
 have HW := hid hW
 have G0 := hid g0
 have Z0 : Hid (sz sI d ≤ 1048576) := hid (hz)
 clear hW hz h g0
 go_enter Try.func38, Try.ntmps38
 go_wp2_with fail
 rw [← HW.out]
 refine (toK_ints _ _ _ ((G0.out.below cp0.bel).more cp0.bel.size) Z0.out).mono ?_
 rintro e w1 ⟨x0A0, x0n0, x0c0, rfl, o0, bb⟩
 have zb0 := bb.size
 have zc0 := cp0.size
 replace cp0 := cp0.next bb
 clear bb
 have f0_0 : w1.frozen? ⟨w.heap.size + 1 + 1, 0, none⟩ = false := cp0.cur.free 0
 have k0_0 : w1.cell? ⟨w.heap.size + 1 + 1, 0, none⟩ = some (.slice none 0 0) := cp0.cur.cell 0
 obtain ⟨w2, hw0⟩ : ∃ x, x = (w1.setCell ⟨w.heap.size + 1 + 1, 0, none⟩ (.slice x0A0 x0n0 x0c0)) := ⟨_, rfl⟩
 replace o0 := o0.put (g := w.heap.size + 1 + 1) (i := 0) (u := .slice x0A0 x0n0 x0c0) (by omega)
 rw [← hw0] at o0
 replace cp0 : CpS w 58 29 #[v0] #[.slice none 0 0] #[.slice x0A0 x0n0 x0c0] w2 := by rw [hw0]; exact (CpS.put cp0 0 (.slice x0A0 x0n0 x0c0))
 have zw0 : w2.heap.size = w1.heap.size := by rw [hw0]; simp
 have HW0 := hid hw0
 clear hw0
 have y0 : w2.cell? ⟨w.heap.size + 1 + 1, 0, none⟩ = some (.slice x0A0 x0n0 x0c0) := cp0.cur.cell 0
 rw [HW0.out] at y0
 have s0 : (w2).cell? ⟨w.heap.size + 1, 0, none⟩ = some (.slice none 0 0) := cp0.res.cell 0
 rw [HW0.out] at s0
 have r0 : (w2).frozen? ⟨w.heap.size + 1, 0, none⟩ = false := cp0.res.free 0
 rw [HW0.out] at r0
 have oo : Owned w2 (w.heap.size + 1 + 1 + 1) w2.heap.size sSig [.slice x0A0 x0n0 x0c0] d := o0.wider (by omega) (by omega)
 have F : CopySig w d (.returned (.agg #[.slice x0A0 x0n0 x0c0])) (w2.setCell ⟨w.heap.size + 1, 0, none⟩ (.slice x0A0 x0n0 x0c0)) := ⟨x0A0, x0n0, x0c0, rfl, Owned.wider ((oo.put (g := w.heap.size + 1) (i := 0) (u := .slice x0A0 x0n0 x0c0) (by omega))) (by omega) (by simp), ((CpS.fin cp0 0 (.slice x0A0 x0n0 x0c0))).bel⟩
 have u0 : ((w2.setCell ⟨w.heap.size + 1, 0, none⟩ (.slice x0A0 x0n0 x0c0))).cell? ⟨w.heap.size + 1, 0, none⟩ = some (.slice x0A0 x0n0 x0c0) := (CpS.fin cp0 0 (.slice x0A0 x0n0 x0c0)).res.cell 0
 rw [HW0.out] at u0
 rw [HW0.out] at F
 have HF := hid F
 clear F oo cp0 o0
 go_wp2
 exact bodyPost_ret (v := .agg #[.slice x0A0 x0n0 x0c0]) (by simp [results, Try.results38, go_sem, u0]) rfl HF.out
set_option maxHeartbeats 2000000 in
theorem eqK_Sig (v0 u0 : Value) (d : Dat sSig) (w : World) (h : Rd w w.heap.size sSig [v0] d) (h' : Rd w w.heap.size sSig [u0] d) (hz : sz sSig d ≤ 1048576) :
  Calls Try.prog 40 #[.agg #[v0], .agg #[u0]] w (Yes w) := by
 have g0 := h
 have g0' := h'
 obtain ⟨W, hW⟩ : ∃ W, W = (w.alloc (.cells #[v0] 29)).alloc (.cells #[u0] 29) := ⟨_, rfl⟩
 have ra : Row W w.heap.size 29 #[v0] := by rw [hW]; exact (Row.new w 29 #[v0]).alloc _
 have rb : Row W (w.heap.size + 1) 29 #[u0] := by rw [hW]; have := Row.new (w.alloc (.cells #[v0] 29)) 29 #[u0]; simpa using this
 have bel : Below w.heap.size w W := by rw [hW]; exact ((Below.refl _ _).alloc (Nat.le_refl _) _).alloc (by simp) _
 have HW := hid hW
 have G0 := hid g0
 have G0' := hid g0'
 have Z0 : Hid (sz sI d ≤ 1048576) := hid (hz)
 clear hW hz h h' g0 g0'
 go_enter Try.func40, Try.ntmps40
 go_wp2_with fail
 rw [← HW.out]
 refine (eqK_ints _ _ _ W (G0.out.next bel) (G0'.out.next bel) Z0.out).mono ?_
 rintro e w1 ⟨rfl, bb⟩
 replace ra := ra.next bb
 replace rb := rb.next bb
 replace bel := next_trans bel bb
 clear bb
 have F : Yes w (.returned (.bool true)) w1 := ⟨rfl, bel⟩
 have HF := hid F
 clear F ra rb bel
 go_wp2
 go_ret
 exact HF.out
set_option maxHeartbeats 2000000 in
theorem markK_Sig (v0 : Value) (d : Dat sSig) (k : Int) (F : List Nat) (w : World) (h : Ow w sSig [v0] d F) (hF : F.Nodup) (hz : sz sSig d ≤ 1048576) (hk0 : 0 ≤ k) (hk : k + (cntv sSig d : Int) ≤ 1099511627776) :
  Calls Try.prog 53 #[.agg #[v0], .int .i64 k] w (AnsMarkF w sSig [v0] d k F) := by
 have hlt := h.lt
 have o0 := h
 obtain ⟨z0, hz0⟩ : ∃ z, cntv sI d = z := ⟨_, rfl⟩
 have hc : (cntv sSig d : Int) = (z0 : Int) := by rw [← hz0]; try rfl
 have Z0 : Hid (sz sI d ≤ 1048576) := hid (hz)
 have HZ0 := hid hz0
 have HC := hid hc
 rw [hc] at hk
 obtain ⟨W, hW⟩ : ∃ W, W = w.alloc (.cells #[v0] 29) := ⟨_, rfl⟩
 have r : Row W w.heap.size 29 #[v0] := by rw [hW]; exact Row.new _ _ _
 have bel : Below w.heap.size w W := by rw [hW]; exact (Below.refl _ _).alloc (Nat.le_refl _) _
 replace o0 := o0.next bel
 have nb0 : w.heap.size ∉ F := fun hb => by have := hlt _ hb; omega
 have sub0 : ∀ x ∈ F, x ∈ F := fun x hb => hb
 have on : Only F w W := Only.of_below bel
 have HW := hid hW
 have HEF : Hid (F = F) := hid (by rfl)
 clear hW h hz hc bel hlt hz0 
 go_enter Try.func53, Try.ntmps53
 go_wp2_with fail
 rw [← HW.out]
 refine (markK_ints _ _ k F _ o0 Z0.out (by omega) (by omega)).mono ?_
 rintro e w1 ⟨he, o0, on0⟩
 rw [HZ0.out] at he
 replace r := Row.only r on0 nb0
 replace on := on.trans (on0.wider sub0)
 clear on0
 obtain ⟨k0, hk0⟩ : ∃ l, k + (z0 : Int) = l := ⟨_, rfl⟩
 rw [hk0] at he
 have l0 : 0 ≤ k0 := by omega
 have u0 : k0  ≤ 1099511627776 := by omega
 subst he
 have HK0 := hid hk0
 clear hk0
 have F1 : AnsMarkF w sSig [v0] d k F (.returned (.int .i64 k0)) w1 := by
  refine ⟨congrArg (fun z => Ending.returned (.int .i64 z)) ?_, ?_, on⟩
  ·rw [HC.out]; have := HK0.out; omega
  ·skip
   exact o0
 have HF := hid F1
 clear F1 on r o0
 go_wp2
 go_ret
 exact HF.out
end kindsR
end
end Go.Proofs.Ytiimbmkofpnebaa
