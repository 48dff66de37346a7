/-
  MERGED: my texts Base, Open, Ints, Sig, Term, Arity, End, Cursor, TermOk, VarsMath, Term2, TermFacts, Marks, Append, List, Copy, AppAt, Segs, Vars, AnsB, VarsOf, CountL, Linear, Shelf, Sorted, VarsSort, VarsImpl, SegsHelp, SegsMark, Kinds, Shape, Shape2, one behind the other, as they are. By an AI agent.
-/
import Derived.WalkKit
import Derived.Lib.Hide
import Derived.Deep.Draws
import Derived.ProofKit
import Derived.OpenShut
import Derived.Lib.SmallJoins
import Derived.Test.YtiimbmkofpnebaaRows
import Derived.Deep.QuietTactic
import Derived.BigQuiet
import Derived.Deep.RegionHeld3
import Derived.Deep.AppendLies
import Derived.Laws.AppendOwnNone
import Derived.WalkSpells
import Derived.Maps.AppendAt
import Derived.Shelf.SlGeneric
import Derived.Ground.SlgnProg
import Derived.Shelf.SortG.Plain
import Derived.Shelf.SortG.SortNone
import Derived.Shelf.SlicesG.CompactI
import Derived.Test.YtiimbmkofpnebaaProg
namespace Go.Proofs.Ytiimbmkofpnebaa
section
namespace base
open Go.RowKit
def Seg (w : World) (B : Nat) (A : Option Addr) (n : Nat) (xs : List Int) : Prop :=
 xs.length = n ∧ (0 < n → ∃ b off, A = some ⟨b, off, none⟩ ∧ b < B ∧ ∀ j, j < n → w.cell? ⟨b, off + j, none⟩ = some (.int .i64 (xs.getD j 0)))
def Row (w : World) (g : Nat) (t : TypeId) (cs : Array Value) : Prop := w.heap[g]? = some (.cells cs t (0, 0))
section
variable {w w' : World} {B B' n : Nat} {A : Option Addr} {xs : List Int}
theorem Seg.empty : Seg w B A 0 [] := ⟨rfl, fun h => absurd h (by omega)⟩
theorem Seg.round (h : Seg w B A n xs) {k : Nat} (hk : k < n) : ∃ b off, A = some ⟨b, off, none⟩ ∧ b < B ∧ w.cell? ⟨b, off + k, none⟩ = some (.int .i64 (xs.getD k 0)) := by
 obtain ⟨b, off, e, hb, hc⟩ := h.2 (by omega)
 exact ⟨b, off, e, hb, hc k hk⟩
theorem Seg.spot (h : Seg w B A n xs) {k : Nat} (hk : k < n) : ∃ b off x, A = some ⟨b, off, none⟩ ∧ b < B ∧ w.cell? ⟨b, off + k, none⟩ = some (.int .i64 x) ∧ Hid (xs.getD k 0 = x) := by
 obtain ⟨b, off, e, hb, hc⟩ := h.2 (by omega)
 exact ⟨b, off, _, e, hb, hc k hk, Lib.hid rfl⟩
theorem Seg.keep (h : Seg w B A n xs) (hk : ∀ p : Addr, p.block < B → w'.cell? p = w.cell? p) : Seg w' B A n xs :=
 ⟨h.1, fun hn => by
  obtain ⟨b, off, e, hb, hc⟩ := h.2 hn
  exact ⟨b, off, e, hb, fun j hj => (hk ⟨b, off + j, none⟩ hb).trans (hc j hj)⟩⟩
theorem Seg.more (h : Seg w B A n xs) (hB : B ≤ B') : Seg w B' A n xs :=
 ⟨h.1, fun hn => by
  obtain ⟨b, off, e, hb, hc⟩ := h.2 hn
  exact ⟨b, off, e, by omega, hc⟩⟩
theorem Seg.below (h : Seg w B A n xs) (hb : Below B w w') : Seg w' B A n xs := h.keep fun _ hp => hb.cell hp
theorem Seg.next (h : Seg w w.heap.size A n xs) (hb : Below w.heap.size w w') : Seg w' w'.heap.size A n xs := (h.below hb).more hb.size
theorem Seg.drew (h : Seg w B A n xs) : Seg w.drew B A n xs := h
theorem Seg.drewN (h : Seg w B A n xs) (k : Nat) : Seg (w.drewN k) B A n xs := h
theorem Seg.alloc (h : Seg w B A n xs) (hB : B ≤ w.heap.size) (o : Obj) : Seg (w.alloc o) B A n xs := h.keep fun p hp => World.cell?_alloc_lt w o p (by omega)
theorem Seg.put (h : Seg w B A n xs) {p : Addr} (hB : B ≤ p.block) (u : Value) : Seg (w.setCell p u) B A n xs :=
 h.keep fun q hq => World.cell?_setCell_other w p q u (fun e => by subst e; omega)
theorem Row.lt {g : Nat} {t : TypeId} {cs : Array Value} (h : Row w g t cs) : g < w.heap.size := by
 unfold Row at h
 exact (Array.getElem?_eq_some_iff.1 h).1
theorem Row.cell {g : Nat} {t : TypeId} {cs : Array Value} (h : Row w g t cs) (i : Nat) : w.cell? ⟨g, i, none⟩ = cs[i]? := cell_of_row w g i cs t (0, 0) h
theorem Row.free {g : Nat} {t : TypeId} {cs : Array Value} (h : Row w g t cs) (i : Nat) : w.frozen? ⟨g, i, none⟩ = false := by
 unfold Row at h
 simp [World.frozen?, h]
theorem Row.new (w : World) (t : TypeId) (cs : Array Value) : Row (w.alloc (.cells cs t)) w.heap.size t cs := heap_alloc_new w _
theorem Row.put {g : Nat} {t : TypeId} {cs : Array Value} (h : Row w g t cs) (i : Nat) (u : Value) : Row (w.setCell ⟨g, i, none⟩ u) g t (cs.setIfInBounds i u) := by
 unfold Row at h ⊢
 simp [World.setCell, Array.getElem?_modify, h]
theorem Row.far {g : Nat} {t : TypeId} {cs : Array Value} (h : Row w g t cs) {p : Addr} (hp : g ≠ p.block) (u : Value) : Row (w.setCell p u) g t cs := (Below.heap_setCell w p u g hp).trans h
theorem Row.alloc {g : Nat} {t : TypeId} {cs : Array Value} (h : Row w g t cs) (o : Obj) : Row (w.alloc o) g t cs := (Below.heap_alloc w o g h.lt).trans h
theorem Row.drewN {g : Nat} {t : TypeId} {cs : Array Value} (h : Row w g t cs) (k : Nat) : Row (w.drewN k) g t cs := h
theorem Row.drew {g : Nat} {t : TypeId} {cs : Array Value} (h : Row w g t cs) : Row w.drew g t cs := h
theorem Row.below {g : Nat} {t : TypeId} {cs : Array Value} (h : Row w g t cs) (hb : Below B w w') (hg : g < B) : Row w' g t cs := (hb.block g hg).trans h
theorem Row.next {g : Nat} {t : TypeId} {cs : Array Value} (h : Row w g t cs) (hb : Below w.heap.size w w') : Row w' g t cs := h.below hb h.lt
theorem Row.seg {g : Nat} {t : TypeId} {cs : Array Value} (h : Row w g t cs) (hl : xs.length = n) (hB : g < B) (hc : ∀ j, j < n → cs[j]? = some (.int .i64 (xs.getD j 0))) : Seg w B (some ⟨g, 0, none⟩) n xs :=
 ⟨hl, fun _ => ⟨g, 0, rfl, hB, fun j hj => by rw [Nat.zero_add, h.cell j]; exact hc j hj⟩⟩
theorem next_trans {a b c : World} (h : Below a.heap.size a b) (k : Below b.heap.size b c) : Below a.heap.size a c := h.trans (k.mono h.size)
theorem below_drewN {a : World} (h : Below B a w) (k : Nat) : Below B a (w.drewN k) := ⟨h.os, h.tape, h.output, h.size, h.block⟩
end
end base
end
section
namespace openArgs
open Go.ChangeShapes Go.WideShapes Go.ChangeAt Go.RowKit base
section
variable {H : Type} {enc : TypeId × Value → H} {P : Program} {w : World}
end
end openArgs
end
section
namespace ints
open Go.RowKit base
theorem info_i64 : (Try.prog.info? 2).map (fun i => (i.zero, i.size, i.bytes)) = some (some (.int .i64 0), 1, 8) := by kernel_rfl
theorem run_make_i64 (n : Nat) (hn : n ≤ 1048576) (W : World) : (Instr.makeSlice 27 (.int .i64 (n : Int)) (.int .i64 (n : Int))).run Try.prog W =
  .ok (.slice (some ⟨W.heap.size, 0, none⟩) n n) (W.alloc (.cells (madeCells #[.int .i64 0] n) 2)) := by
 obtain ⟨i0, hi, hz0, hz1, hz2⟩ := info_parts info_i64
 have hr := run_make (P := Try.prog) W 27 2 i0 _ Try.underlying27 hi hz0 .i64 .i64 n n (by omega) (by omega) (by rw [hz2]; omega) (by omega)
 simpa [hz1, Value.cells] using hr
def Copied (w : World) (n : Nat) (xs : List Int) (i : Value) (wr : World) : Prop :=
 ∃ (k : Nat) (cs : Array Value), k ≤ n ∧ i = .int .i64 k ∧ Row wr w.heap.size 2 cs ∧ cs.size = n ∧ (∀ j, j < k → cs[j]? = some (.int .i64 (xs.getD j 0))) ∧ wr.heap.size = w.heap.size + 1 ∧ Below w.heap.size w wr
theorem copied_start (w : World) (n : Nat) (xs : List Int) : Copied w n xs (.int .i64 0) (w.alloc (.cells (madeCells #[.int .i64 0] n) 2)) :=
 ⟨0, _, Nat.zero_le _, rfl, Row.new _ _ _, size_madeCells _ _, fun j h => absurd h (Nat.not_lt_zero _), by simp, (Below.refl _ _).alloc (Nat.le_refl _) _⟩
theorem copied_step {w wr : World} {n k : Nat} {xs : List Int} {cs : Array Value} (hk : k < n) (hr : Row wr w.heap.size 2 cs) (hs : cs.size = n) (hc : ∀ j, j < k → cs[j]? = some (.int .i64 (xs.getD j 0)))
  (hz : wr.heap.size = w.heap.size + 1) (hb : Below w.heap.size w wr) : Copied w n xs (.int .i64 ((k : Int) + 1)) (wr.setCell ⟨w.heap.size, k, none⟩ (.int .i64 (xs.getD k 0))) := by
 refine ⟨k + 1, _, hk, by simp, hr.put k _, by simp [hs], fun j hj => ?_, by simpa using hz, hb.setCell (Nat.le_refl _) _⟩
 rw [Array.getElem?_setIfInBounds]
 by_cases e : k = j
 ·subst e; simp [hs, hk]
 ·simp [e]; exact hc j (by omega)
set_option maxHeartbeats 400000 in
theorem toInts (A : Option Addr) (n c : Nat) (xs : List Int) (w : World) (h : Seg w w.heap.size A n xs) (hn : n ≤ 1048576) :
  Calls Try.prog 43 #[.slice A n c] w fun e w' => ∃ cs, e = .returned (.slice (some ⟨w.heap.size, 0, none⟩) n n) ∧ Row w' w.heap.size 2 cs ∧ cs.size = n ∧
   (∀ j, j < n → cs[j]? = some (.int .i64 (xs.getD j 0))) ∧ w'.heap.size = w.heap.size + 1 ∧ Below w.heap.size w w' := by
 have hmk := run_make_i64 n hn
 go_enter Try.func43, Try.ntmps43
 go_wp2
 clear hmk
 go_loopw [4] (fun i wr => Copied w n xs i wr) (fun i _ => n - (intOf i).toNat)
 case atStart => exact copied_start w n xs
 case round =>
  obtain ⟨k, cs, hk, rfl, hr, hs, hc, hz, hb⟩ := hrel
  by_cases hlt : k < n
  ·obtain ⟨b, off, rfl, hbB, hx⟩ := h.round hlt
   have hx' : wr.cell? ⟨b, off + k, none⟩ = some (.int .i64 (xs.getD k 0)) := (hb.cell (p := ⟨b, off + k, none⟩) hbB).trans hx
   obtain ⟨u, hu⟩ : ∃ u, wr.cell? ⟨w.heap.size, k, none⟩ = some u := ⟨_, (hr.cell k).trans (Array.getElem?_eq_getElem (by omega))⟩
   have hf : wr.frozen? ⟨w.heap.size, k, none⟩ = false := hr.free k
   have S := Lib.hid (copied_step hlt hr hs hc hz hb)
   clear hx hr hs hc hz hb h
   go_wp2
   go_roundw
   case rel => exact S.out
   case measure => simp [intOf]; omega
  ·go_wp2
   go_ret
   have : k = n := by omega
   subst this
   exact ⟨cs, rfl, hr, hs, hc, hz, hb⟩
theorem lists_eq {xs ys : List Int} {n : Nat} (hx : xs.length = n) (hy : ys.length = n) (h : ∀ j, j < n → xs.getD j 0 = ys.getD j 0) : xs = ys := by
 subst hx
 refine List.ext_getElem hy.symm fun j h1 h2 => ?_
 have := h j h1
 simpa [List.getD, h1, h2] using this
def HeadSame (w : World) (n : Nat) (xs ys : List Int) (i : Value) (wr : World) : Prop :=
 ∃ (k d : Nat), k ≤ n ∧ i = .int .i64 k ∧ wr = w.drewN d ∧ ∀ j, j < k → xs.getD j 0 = ys.getD j 0
theorem alike_step {w : World} {n k : Nat} {xs ys : List Int} {x : Int} (hk : k < n) (h : ∀ j, j < k → xs.getD j 0 = ys.getD j 0) (hx : Hid (xs.getD k 0 = x)) (hy : Hid (ys.getD k 0 = x)) (d : Nat) :
  HeadSame w n xs ys (.int .i64 ((k : Int) + 1)) (w.drewN d) :=
 ⟨k + 1, d, hk, by simp, rfl, fun j hj => by
  by_cases e : j = k
  ·subst e; rw [hx.out, hy.out]
  ·exact h j (by omega)⟩
def AnsSame (w : World) (xs ys : List Int) (e : Ending) (w' : World) : Prop := e = .returned (.bool (decide (xs = ys))) ∧ ∃ d, w' = w.drewN d
theorem same_not {w : World} {xs ys : List Int} {k : Nat} {x y : Int} (hx : Hid (xs.getD k 0 = x)) (hy : Hid (ys.getD k 0 = y)) (h : ¬ x = y) (d : Nat) : AnsSame w xs ys (.returned (.bool false)) (w.drewN d) :=
 ⟨by rw [decide_eq_false (fun e => h (by rw [← hx.out, ← hy.out, e]))], d, rfl⟩
theorem same_yes {w : World} {xs ys : List Int} {n k : Nat} (hx : xs.length = n) (hy : ys.length = n) (hn : ¬ k < n) (h : ∀ j, j < k → xs.getD j 0 = ys.getD j 0) (d : Nat) : AnsSame w xs ys (.returned (.bool true)) (w.drewN d) :=
 ⟨by rw [decide_eq_true (lists_eq hx hy (fun j hj => h j (by omega)))], d, rfl⟩
theorem same_len {w : World} {xs ys : List Int} {n m : Nat} (hx : xs.length = n) (hy : ys.length = m) (h : ¬ n = m) : AnsSame w xs ys (.returned (.bool false)) w :=
 ⟨by rw [decide_eq_false (fun e => h (by rw [← hx, ← hy, e]))], 0, rfl⟩
set_option maxHeartbeats 400000 in
theorem eqInts (A A' : Option Addr) (n m c c' : Nat) (xs ys : List Int) (w : World) (h : Seg w w.heap.size A n xs) (h' : Seg w w.heap.size A' m ys) (hn : n ≤ 1048576) (hm : m ≤ 1048576) :
  Calls Try.prog 44 #[.slice A n c, .slice A' m c'] w (AnsSame w xs ys) := by
 by_cases hnm : n = m
 ·subst hnm
  go_enter Try.func44, Try.ntmps44
  go_wp2
  go_loopw [5] (fun i wr => HeadSame w n xs ys i wr) (fun i _ => n - (intOf i).toNat)
  case atStart => exact ⟨0, 0, Nat.zero_le _, rfl, rfl, fun j h => absurd h (Nat.not_lt_zero _)⟩
  case round =>
   obtain ⟨k, d, hk, rfl, rfl, hc⟩ := hrel
   by_cases hlt : k < n
   ·obtain ⟨b, off, x, rfl, -, hx, ex⟩ := h.spot hlt
    obtain ⟨b', off', y, rfl, -, hx', ey⟩ := h'.spot hlt
    by_cases he : x = y
    ·subst he
     have S := Lib.hid (alike_step (w := w) hlt hc ex ey)
     clear hc h h' ex ey
     go_wp2
     go_quiet (fail)
     go_wp2
     go_roundw
     case rel => exact S.out _
     case measure => simp [intOf]; omega
    ·have S := Lib.hid (same_not (w := w) ex ey he)
     have hne : (x != y) = true := by simp [he]
     clear hc h h' ex ey he
     go_wp2
     go_quiet (fail)
     go_wp2
     go_ret
     rw [World.drewN_drewN]
     exact S.out _
   ·have S := Lib.hid (same_yes (w := w) h.1 h'.1 hlt hc)
    clear hc h h'
    go_wp2
    go_ret
    exact S.out _
 ·have S := Lib.hid (same_len (w := w) h.1 h'.1 hnm)
  have hne : ((n : Int) != (m : Int)) = true := by simp; omega
  clear h h'
  go_enter Try.func44, Try.ntmps44
  go_wp2
  go_ret
  exact S.out
theorem eqYes (A A' : Option Addr) (n c c' : Nat) (xs : List Int) (w : World) (h : Seg w w.heap.size A n xs) (h' : Seg w w.heap.size A' n xs) (hn : n ≤ 1048576) :
  Calls Try.prog 44 #[.slice A n c, .slice A' n c'] w fun e w' => e = .returned (.bool true) ∧ ∃ d, w' = w.drewN d :=
 (eqInts A A' n n c c' xs xs w h h' hn hn).mono fun _ _ ⟨he, hd⟩ => ⟨by rw [he]; simp, hd⟩
def Fine (w : World) (e : Ending) (w' : World) : Prop := e = .returned (.bool true) ∧ Below w.heap.size w w'
end ints
end
section
open Go.Lib (hid)
namespace sig
open Go.RowKit base ints
theorem szInts (A : Option Addr) (n c : Nat) (left : Int) (w : World) (hn : n ≤ 9223372036854775807) (h0 : 0 ≤ left) (h1 : left ≤ 1048576) :
  Calls Try.prog 83 #[.slice A n c, .int .i64 left] w fun e w' => w = w' ∧ e = .returned (.int .i64 (if left - n < 0 then -1 else left - n)) := by
 by_cases h : left - n < 0
 ·rw [if_pos h]
  go_enter Try.func83, Try.ntmps83
  go_wp2
  go_ret
  exact ⟨rfl, rfl⟩
 ·rw [if_neg h]
  go_enter Try.func83, Try.ntmps83
  go_wp2
  go_ret
  exact ⟨rfl, rfl⟩
theorem szSig (A : Option Addr) (n c : Nat) (left : Int) (w : World) (hn : n ≤ 9223372036854775807) (h0 : 0 ≤ left) (h1 : left ≤ 1048576) :
  Calls Try.prog 35 #[.agg #[.slice A n c], .int .i64 left] w fun e w' => e = .returned (.int .i64 (if left - n < 0 then -1 else left - n)) ∧ Below w.heap.size w w' := by
 have L := fun W => hid (szInts A n c left W hn h0 h1)
 have hb : Below w.heap.size w (w.alloc (.cells #[.slice A n c] 58)) := (Below.refl _ _).alloc (Nat.le_refl _) _
 by_cases h : left - n < 0
 ·rw [if_pos h] at L ⊢
  go_enter Try.func35, Try.ntmps35
  go_wp2_with fail
  refine (L _).out.mono ?_
  rintro e w' ⟨rfl, rfl⟩
  go_wp2
  go_ret
  exact ⟨rfl, hb⟩
 ·rw [if_neg h] at L ⊢
  go_enter Try.func35, Try.ntmps35
  go_wp2_with fail
  refine (L _).out.mono ?_
  rintro e w' ⟨rfl, rfl⟩
  go_wp2
  go_ret
  exact ⟨rfl, hb⟩
def CopySig (w : World) (n : Nat) (xs : List Int) (e : Ending) (w' : World) : Prop :=
 ∃ g cs, e = .returned (.agg #[.slice (some ⟨g, 0, none⟩) n n]) ∧ w.heap.size ≤ g ∧ Row w' g 2 cs ∧ cs.size = n ∧ (∀ j, j < n → cs[j]? = some (.int .i64 (xs.getD j 0))) ∧ Below w.heap.size w w'
def arityOk (a : Int) : Bool := decide (0 ≤ a ∧ a ≤ 3)
def sigOkB (xs : List Int) : Bool := decide (1 ≤ xs.length ∧ xs.length ≤ 8) && xs.all arityOk
theorem inYes (x lo hi : Int) (w : World) (h : lo ≤ x ∧ x ≤ hi) : Calls Try.prog 85 #[.int .i64 x, .int .i64 lo, .int .i64 hi] w fun e w' => w = w' ∧ e = .returned (.bool true) := by
 obtain ⟨h1, h2⟩ := h
 go_enter Try.func85, Try.ntmps85
 go_wp2
 go_ret
 exact ⟨rfl, rfl⟩
theorem inNo (x lo hi : Int) (w : World) (h : ¬ (lo ≤ x ∧ x ≤ hi)) : Calls Try.prog 85 #[.int .i64 x, .int .i64 lo, .int .i64 hi] w fun e w' => w = w' ∧ e = .returned (.bool false) := by
 by_cases h1 : lo ≤ x
 ·have h2 : decide (x ≤ hi) = false := by simp; omega
  go_enter Try.func85, Try.ntmps85
  go_wp2
  go_ret
  exact ⟨rfl, rfl⟩
 ·go_enter Try.func85, Try.ntmps85
  go_wp2
  go_ret
  exact ⟨rfl, rfl⟩
def AnsSig (w : World) (xs : List Int) (e : Ending) (w' : World) : Prop := e = .returned (.bool (sigOkB xs)) ∧ Below w.heap.size w w'
theorem sig_len {w w' : World} {xs : List Int} {n : Nat} (hx : xs.length = n) (h : ¬ (1 ≤ n ∧ n ≤ 8)) (hb : Below w.heap.size w w') : AnsSig w xs (.returned (.bool false)) w' :=
 ⟨by unfold sigOkB; rw [decide_eq_false (by omega), Bool.false_and], hb⟩
theorem sig_bad {w w' : World} {xs : List Int} {n k : Nat} {x : Int} (hx : xs.length = n) (hk : k < n) (ex : Hid (xs.getD k 0 = x)) (h : ¬ (0 ≤ x ∧ x ≤ 3)) (hb : Below w.heap.size w w') : AnsSig w xs (.returned (.bool false)) w' := by
 refine ⟨?_, hb⟩
 have hm : x ∈ xs := by
  have := ex.out
  subst hx
  rw [← this]
  simp [List.getD, hk]
 have : xs.all arityOk = false := by
  rw [List.all_eq_false]
  exact ⟨x, hm, by simp [arityOk]; omega⟩
 unfold sigOkB
 rw [this, Bool.and_false]
theorem sig_good {w w' : World} {xs : List Int} {n k : Nat} (hx : xs.length = n) (h : 1 ≤ n ∧ n ≤ 8) (hn : ¬ k < n) (hc : ∀ j, j < k → 0 ≤ xs.getD j 0 ∧ xs.getD j 0 ≤ 3) (hb : Below w.heap.size w w') : AnsSig w xs (.returned (.bool true)) w' := by
 refine ⟨?_, hb⟩
 have : xs.all arityOk = true := by
  rw [List.all_eq_true]
  intro x hxm
  obtain ⟨j, hj, rfl⟩ := List.getElem_of_mem hxm
  have := hc j (by omega)
  simp [List.getD, hj] at this
  simp [arityOk, this]
 unfold sigOkB
 rw [this, Bool.and_true, decide_eq_true (by omega)]
def HeadSig (n : Nat) (xs : List Int) (i : Value) : Prop := ∃ k : Nat, k ≤ n ∧ i = .int .i64 k ∧ ∀ j, j < k → 0 ≤ xs.getD j 0 ∧ xs.getD j 0 ≤ 3
theorem headSig_step {n k : Nat} {xs : List Int} {x : Int} (hk : k < n) (h : ∀ j, j < k → 0 ≤ xs.getD j 0 ∧ xs.getD j 0 ≤ 3) (hx : Hid (xs.getD k 0 = x)) (h0 : 0 ≤ x ∧ x ≤ 3) : HeadSig n xs (.int .i64 ((k : Int) + 1)) :=
 ⟨k + 1, hk, by simp, fun j hj => by
  by_cases e : j = k
  ·subst e; rw [hx.out]; exact h0
  ·exact h j (by omega)⟩
set_option maxHeartbeats 400000 in
theorem specSigOk (A : Option Addr) (n c : Nat) (xs : List Int) (w : World) (h : Seg w w.heap.size A n xs) (hn : n ≤ 1048576) :
  Calls Try.prog 92 #[.agg #[.slice A n c]] w (AnsSig w xs) := by
 have b : Below w.heap.size w (w.alloc (.cells #[.slice A n c] 29)) := (Below.refl _ _).alloc (Nat.le_refl _) _
 by_cases hl : 1 ≤ n ∧ n ≤ 8
 ·go_enter Try.func92, Try.ntmps92
  go_wp2_with fail
  refine (inYes _ _ _ _ (by omega)).mono ?_
  rintro e w' ⟨rfl, rfl⟩
  go_wp2_with fail
  go_loop [3] (fun i => HeadSig n xs i) (fun i => n - (intOf i).toNat)
  case atStart => exact ⟨0, Nat.zero_le _, rfl, fun j h => absurd h (Nat.not_lt_zero _)⟩
  case round =>
   obtain ⟨k, hk, rfl, hc⟩ := hrel
   by_cases hlt : k < n
   ·obtain ⟨g, off, x, rfl, hg, hx, ex⟩ := h.spot hlt
    by_cases hin : 0 ≤ x ∧ x ≤ 3
    ·have S := hid (headSig_step (n := n) hlt hc ex hin)
     have L := hid (fun W => inYes x 0 3 W hin)
     clear hc h ex hin
     go_wp2_with fail
     refine (L.out _).mono ?_
     rintro e w' ⟨rfl, rfl⟩
     go_wp2
     go_round
     case rel => exact S.out
     case measure => simp [intOf]; omega
    ·have S := hid (sig_bad h.1 hlt ex hin b)
     have L := hid (fun W => inNo x 0 3 W hin)
     clear hc h ex hin b
     go_wp2_with fail
     refine (L.out _).mono ?_
     rintro e w' ⟨rfl, rfl⟩
     go_wp2
     go_ret
     exact S.out
   ·have S := hid (sig_good h.1 hl hlt hc b)
    clear hc h b
    go_wp2
    go_ret
    exact S.out
 ·have S := hid (sig_len h.1 hl b)
  clear h b
  go_enter Try.func92, Try.ntmps92
  go_wp2_with fail
  refine (inNo _ _ _ _ (by omega)).mono ?_
  rintro e w' ⟨rfl, rfl⟩
  go_wp2
  go_ret
  exact S.out
set_option maxHeartbeats 400000 in
theorem implSigOk (A : Option Addr) (n c : Nat) (xs : List Int) (w : World) (h : Seg w w.heap.size A n xs) (hn : n ≤ 1048576) :
  Calls Try.prog 76 #[.agg #[.slice A n c]] w (AnsSig w xs) := by
 have b : Below w.heap.size w (w.alloc (.cells #[.slice A n c] 29)) := (Below.refl _ _).alloc (Nat.le_refl _) _
 by_cases hl : 1 ≤ n ∧ n ≤ 8
 ·obtain ⟨hl1, hl2⟩ := hl
  go_enter Try.func76, Try.ntmps76
  go_wp2_with fail
  go_loop [18] (fun i => HeadSig n xs i) (fun i => n - (intOf i).toNat)
  case atStart => exact ⟨0, Nat.zero_le _, rfl, fun j h => absurd h (Nat.not_lt_zero _)⟩
  case round =>
   obtain ⟨k, hk, rfl, hc⟩ := hrel
   by_cases hlt : k < n
   ·obtain ⟨g, off, x, rfl, hg, hx, ex⟩ := h.spot hlt
    by_cases hin : 0 ≤ x ∧ x ≤ 3
    ·have S := hid (headSig_step (n := n) hlt hc ex hin)
     obtain ⟨hin1, hin2⟩ := hin
     clear hc h ex
     go_wp2
     go_round
     case rel => exact S.out
     case measure => simp [intOf]; omega
    ·have S := hid (sig_bad h.1 hlt ex hin b)
     clear hc h ex b
     by_cases hx0 : x < 0
     ·go_wp2
      go_ret
      exact S.out
     ·have hx3 : 3 < x := by omega
      go_wp2
      go_ret
      exact S.out
   ·have S := hid (sig_good h.1 ⟨hl1, hl2⟩ hlt hc b)
    clear hc h b
    go_wp2
    go_ret
    exact S.out
 ·have S := hid (sig_len h.1 hl b)
  clear h b
  by_cases hl1 : n < 1
  ·go_enter Try.func76, Try.ntmps76
   go_wp2
   go_ret
   exact S.out
  ·have hl2 : 8 < n := by omega
   go_enter Try.func76, Try.ntmps76
   go_wp2
   go_ret
   exact S.out
end sig
end
section
namespace term
def ar (sg : List Int) (x : Int) : Int := if -24 ≤ x ∧ x ≤ -1 then 0 else if 0 ≤ x ∧ x < sg.length then sg.getD x.toNat 0 else -1
def Arities (sg : List Int) : Prop := ∀ j, j < sg.length → 0 ≤ sg.getD j 0 ∧ sg.getD j 0 ≤ 3
theorem ar_var {sg : List Int} {x : Int} (h : -24 ≤ x ∧ x ≤ -1) : ar sg x = 0 := by unfold ar; rw [if_pos h]
theorem ar_sym {sg : List Int} {x : Int} (h : 0 ≤ x) (h' : x < sg.length) : ar sg x = sg.getD x.toNat 0 := by unfold ar; rw [if_neg (by omega), if_pos ⟨h, h'⟩]
theorem ar_no {sg : List Int} {x : Int} (h : ¬ (-24 ≤ x ∧ x ≤ -1)) (h' : ¬ (0 ≤ x ∧ x < sg.length)) : ar sg x = -1 := by unfold ar; rw [if_neg h, if_neg h']
theorem ar_bd {sg : List Int} (hs : Arities sg) (x : Int) : -1 ≤ ar sg x ∧ ar sg x ≤ 3 := by
 unfold ar
 split
 ·omega
 ·split
  ·have := hs x.toNat (by omega); omega
  ·omega
def scan (sg : List Int) : Nat → List Int → Option Nat
 | 0, _ => some 0
 | _ + 1, [] => none
 | m + 1, x :: r => if ar sg x < 0 then none else (scan sg (m + (ar sg x).toNat) r).map (· + 1)
theorem scan_zero (sg l : List Int) : scan sg 0 l = some 0 := by cases l <;> rfl
theorem scan_nil (sg : List Int) (m : Nat) : scan sg (m + 1) [] = none := rfl
theorem scan_bad {sg : List Int} {m : Nat} {x : Int} {r : List Int} (h : ar sg x < 0) : scan sg (m + 1) (x :: r) = none := by rw [scan, if_pos h]
theorem scan_step {sg : List Int} {m : Nat} {x : Int} {r : List Int} (h : ¬ ar sg x < 0) : scan sg (m + 1) (x :: r) = (scan sg (m + (ar sg x).toNat) r).map (· + 1) := by rw [scan, if_neg h]
theorem drop_cons {xs : List Int} {k : Nat} (hk : k < xs.length) : xs.drop k = xs.getD k 0 :: xs.drop (k + 1) := by
 rw [List.drop_eq_getElem_cons hk]
 simp [List.getD, hk]
def Scn (sg t : List Int) (at_ k m : Nat) : Prop := at_ ≤ k ∧ k ≤ t.length ∧ scan sg 1 (t.drop at_) = (scan sg m (t.drop k)).map (· + (k - at_))
theorem Scn.start {sg t : List Int} {at_ : Nat} (h : at_ ≤ t.length) : Scn sg t at_ at_ 1 := by
 refine ⟨Nat.le_refl _, h, ?_⟩
 rw [Nat.sub_self]
 cases scan sg 1 (t.drop at_) <;> rfl
theorem Scn.step {sg t : List Int} {at_ k m : Nat} {x : Int} (h : Scn sg t at_ k (m + 1)) (hk : k < t.length) (hx : t.getD k 0 = x) (ha : ¬ ar sg x < 0) : Scn sg t at_ (k + 1) (m + (ar sg x).toNat) := by
 obtain ⟨h1, h2, h3⟩ := h
 refine ⟨by omega, hk, ?_⟩
 rw [h3, drop_cons hk, hx, scan_step ha, Option.map_map]
 congr 1
 funext z
 simp only [Function.comp]
 omega
theorem Scn.bad {sg t : List Int} {at_ k m : Nat} {x : Int} (h : Scn sg t at_ k (m + 1)) (hk : k < t.length) (hx : t.getD k 0 = x) (ha : ar sg x < 0) : scan sg 1 (t.drop at_) = none := by
 rw [h.2.2, drop_cons hk, hx, scan_bad ha]
 rfl
theorem Scn.out {sg t : List Int} {at_ k m : Nat} (h : Scn sg t at_ k (m + 1)) (hk : ¬ k < t.length) : scan sg 1 (t.drop at_) = none := by
 rw [h.2.2, List.drop_eq_nil_of_le (by omega), scan_nil]
 rfl
theorem Scn.done {sg t : List Int} {at_ k : Nat} (h : Scn sg t at_ k 0) : scan sg 1 (t.drop at_) = some (k - at_) := by
 rw [h.2.2, scan_zero]
 simp
def endI (sg t : List Int) (at_ : Nat) : Int := match scan sg 1 (t.drop at_) with
 | some j => (at_ : Int) + j
 | none => -1
theorem endI_some {sg t : List Int} {at_ j : Nat} (h : scan sg 1 (t.drop at_) = some j) : endI sg t at_ = (at_ : Int) + j := by unfold endI; rw [h]
theorem endI_none {sg t : List Int} {at_ : Nat} (h : scan sg 1 (t.drop at_) = none) : endI sg t at_ = -1 := by unfold endI; rw [h]
theorem Scn.endI {sg t : List Int} {at_ k : Nat} (h : Scn sg t at_ k 0) : endI sg t at_ = (k : Int) := by
 rw [endI_some h.done]; have := h.1; omega
def termB (sg t : List Int) : Bool := decide (t.length ≤ 60) && decide (scan sg 1 t = some t.length)
end term
end
section
namespace arity
open Go.RowKit base ints sig term
def AnsAr (w : World) (sg : List Int) (x : Int) (e : Ending) (w' : World) : Prop := e = .returned (.int .i64 (ar sg x)) ∧ Below w.heap.size w w'
set_option maxHeartbeats 400000 in
theorem specArity (A : Option Addr) (n c : Nat) (sg : List Int) (x : Int) (w : World) (h : Seg w w.heap.size A n sg) (hn : n ≤ 1048576) :
  Calls Try.prog 138 #[.agg #[.slice A n c], .int .i64 x] w (AnsAr w sg x) := by
 have b : Below w.heap.size w (w.alloc (.cells #[.slice A n c] 29)) := (Below.refl _ _).alloc (Nat.le_refl _) _
 by_cases hv : -24 ≤ x ∧ x ≤ -1
 ·have S : AnsAr w sg x (.returned (.int .i64 0)) (w.alloc (.cells #[.slice A n c] 29)) := ⟨by rw [ar_var hv], b⟩
  have HS := Lib.hid S
  clear S h
  go_enter Try.func138, Try.ntmps138
  go_wp2_with fail
  refine (inYes _ _ _ _ hv).mono ?_
  rintro e w' ⟨rfl, rfl⟩
  go_wp2
  go_ret
  exact HS.out
 ·by_cases hs : 0 ≤ x ∧ x ≤ (n : Int) - 1
  ·obtain ⟨k, hk⟩ : ∃ k : Nat, x = k := ⟨x.toNat, by omega⟩
   subst hk
   have hlt : k < n := by omega
   obtain ⟨g, off, y, rfl, hg, hy, ey⟩ := h.spot hlt
   have S : AnsAr w sg (k : Int) (.returned (.int .i64 y)) (w.alloc (.cells #[.slice (some ⟨g, off, none⟩) n c] 29)) := ⟨by rw [ar_sym (by omega) (by have := h.1; omega), Int.toNat_natCast, ey.out], b⟩
   have HS := Lib.hid S
   clear S h ey
   go_enter Try.func138, Try.ntmps138
   go_wp2_with fail
   refine (inNo _ _ _ _ hv).mono ?_
   rintro e w' ⟨rfl, rfl⟩
   go_wp2_with fail
   refine (inYes _ _ _ _ hs).mono ?_
   rintro e w' ⟨rfl, rfl⟩
   go_wp2
   go_ret
   exact HS.out
  ·have S : AnsAr w sg x (.returned (.int .i64 (-1))) (w.alloc (.cells #[.slice A n c] 29)) := ⟨by rw [ar_no hv (by have := h.1; omega)], b⟩
   have HS := Lib.hid S
   clear S h
   go_enter Try.func138, Try.ntmps138
   go_wp2_with fail
   refine (inNo _ _ _ _ hv).mono ?_
   rintro e w' ⟨rfl, rfl⟩
   go_wp2_with fail
   refine (inNo _ _ _ _ hs).mono ?_
   rintro e w' ⟨rfl, rfl⟩
   go_wp2
   go_ret
   exact HS.out
set_option maxHeartbeats 400000 in
theorem implArity (A : Option Addr) (n c : Nat) (sg : List Int) (x : Int) (w : World) (h : Seg w w.heap.size A n sg) (hn : n ≤ 1048576) :
  Calls Try.prog 164 #[.agg #[.slice A n c], .int .i64 x] w (AnsAr w sg x) := by
 have b : Below w.heap.size w (w.alloc (.cells #[.slice A n c] 29)) := (Below.refl _ _).alloc (Nat.le_refl _) _
 by_cases hx0 : 0 ≤ x
 ·by_cases hxn : x < (n : Int)
  ·obtain ⟨k, hk⟩ : ∃ k : Nat, x = k := ⟨x.toNat, by omega⟩
   subst hk
   have hlt : k < n := by omega
   obtain ⟨g, off, y, rfl, hg, hy, ey⟩ := h.spot hlt
   have S : AnsAr w sg (k : Int) (.returned (.int .i64 y)) (w.alloc (.cells #[.slice (some ⟨g, off, none⟩) n c] 29)) := ⟨by rw [ar_sym (by omega) (by have := h.1; omega), Int.toNat_natCast, ey.out], b⟩
   have HS := Lib.hid S
   clear S h ey
   go_enter Try.func164, Try.ntmps164
   go_wp2
   go_ret
   exact HS.out
  ·have S : AnsAr w sg x (.returned (.int .i64 (-1))) (w.alloc (.cells #[.slice A n c] 29)) := ⟨by rw [ar_no (by omega) (by have := h.1; omega)], b⟩
   have HS := Lib.hid S
   have d1 : decide (x < (n : Int)) = false := by simp; omega
   have d2 : decide (x < 0) = false := by simp; omega
   clear S h
   go_enter Try.func164, Try.ntmps164
   go_wp2
   go_ret
   exact HS.out
 ·by_cases hxv : -24 ≤ x
  ·have S : AnsAr w sg x (.returned (.int .i64 0)) (w.alloc (.cells #[.slice A n c] 29)) := ⟨by rw [ar_var (by omega)], b⟩
   have HS := Lib.hid S
   clear S h
   go_enter Try.func164, Try.ntmps164
   go_wp2
   go_ret
   exact HS.out
  ·have S : AnsAr w sg x (.returned (.int .i64 (-1))) (w.alloc (.cells #[.slice A n c] 29)) := ⟨by rw [ar_no (by omega) (by omega)], b⟩
   have HS := Lib.hid S
   have d1 : decide (-24 ≤ x) = false := by simp; omega
   clear S h
   go_enter Try.func164, Try.ntmps164
   go_wp2
   go_ret
   exact HS.out
end arity
end
section
open Go.Lib (hid)
namespace endOf
open Go.RowKit base ints sig term arity
def AnsEnd (w : World) (sg t : List Int) (a : Nat) (e : Ending) (w' : World) : Prop := e = .returned (.int .i64 (endI sg t a)) ∧ Below w.heap.size w w'
theorem end_bad {w w' : World} {sg t : List Int} {a : Nat} (h : scan sg 1 (t.drop a) = none) (hb : Below w.heap.size w w') : AnsEnd w sg t a (.returned (.int .i64 (-1))) w' := ⟨by rw [endI_none h], hb⟩
theorem end_good {w w' : World} {sg t : List Int} {a k : Nat} (h : Scn sg t a (k + 1) 0) (hb : Below w.heap.size w w') : AnsEnd w sg t a (.returned (.int .i64 ((k : Int) + 1))) w' := ⟨by rw [h.endI]; simp, hb⟩
def HeadEnd (w : World) (A : Option Addr) (n c m : Nat) (sg t : List Int) (a : Nat) (need i : Value) (wr : World) : Prop :=
 ∃ k q : Nat, need = .int .i64 ((q : Int) + 1) ∧ i = .int .i64 k ∧ q ≤ 3 * k ∧ k ≤ m ∧ Scn sg t a k (q + 1) ∧ Row wr w.heap.size 29 #[.slice A n c] ∧ Below w.heap.size w wr
theorem headEnd_step {w wr : World} {A : Option Addr} {n c m k q q' : Nat} {sg t : List Int} {a : Nat} {z : Int} (hl : Scn sg t a (k + 1) (q + z.toNat)) (hz : 0 ≤ z ∧ z ≤ 3) (hq : q ≤ 3 * k) (hk : k < m) (hq' : q + z.toNat = q' + 1)
  (hr : Row wr w.heap.size 29 #[.slice A n c]) (hb : Below w.heap.size w wr) : HeadEnd w A n c m sg t a (.int .i64 ((q : Int) + z)) (.int .i64 ((k : Int) + 1)) wr :=
 ⟨k + 1, q', by congr 1; omega, by simp, by omega, by omega, by rw [← hq']; exact hl, hr, hb⟩
set_option maxHeartbeats 1000000 in
theorem specEnd (A A' : Option Addr) (n c m c' : Nat) (sg t : List Int) (at_ : Int) (w : World) (h : Seg w w.heap.size A n sg) (h' : Seg w w.heap.size A' m t) (hn : n ≤ 1048576) (hm : m ≤ 1048576) (hs : Arities sg) (ha : 0 ≤ at_) (ha' : at_ ≤ m) :
  Calls Try.prog 108 #[.agg #[.slice A n c], .slice A' m c', .int .i64 at_] w (AnsEnd w sg t at_.toNat) := by
 obtain ⟨a, rfl⟩ := Int.eq_ofNat_of_zero_le ha
 rw [Int.toNat_natCast]
 have hlen := h'.1
 have HL := hid hlen
 go_enter Try.func108, Try.ntmps108
 go_wp2_with fail
 go_loopw [7, 8, 9] (fun need i _ wr => HeadEnd w A n c m sg t a need i wr) (fun _ i _ _ => m - (intOf i).toNat)
 case atStart => exact ⟨a, 0, rfl, rfl, by omega, by omega, Scn.start (by rw [HL.out]; omega), Row.new _ _ _, (Below.refl _ _).alloc (Nat.le_refl _) _⟩
 case round =>
  obtain ⟨k, q, rfl, rfl, hq, hk, hl, hr, hb⟩ := hrel
  by_cases hlt : k < m
  ·obtain ⟨b, off, x, rfl, hbb, hx, ex⟩ := h'.spot hlt
   have hx' : wr.cell? ⟨b, off + k, none⟩ = some (.int .i64 x) := (hb.cell (p := ⟨b, off + k, none⟩) hbb).trans hx
   have cA : wr.cell? ⟨w.heap.size, 0, none⟩ = some (.slice A n c) := hr.cell 0
   have s : Seg wr.drew wr.heap.size A n sg := ((h.below hb).more hb.size).drew
   obtain ⟨z, hz⟩ : ∃ z, ar sg x = z := ⟨_, rfl⟩
   have hzb := ar_bd hs x
   rw [hz] at hzb
   have i0 : (0 : Int) ≤ (k : Int) := by omega
   have i1 : (k : Int) < (m : Int) := by omega
   have i2 : (q : Int) ≤ 3145728 := by omega
   have HZ := hid hz
   clear hx hz h h'
   replace hr := hr.drew
   replace hb := hb.drew
   by_cases hneg : z < 0
   ·have S := hid (fun (w' : World) (b' : Below w.heap.size w w') => end_bad (hl.bad (by rw [HL.out]; exact hlt) ex.out (by rw [HZ.out]; exact hneg)) b')
    clear hl ex hs hlen
    go_wp2_with fail
    go_region_held3 (fun w' => w'.cell? ⟨w.heap.size, 0, none⟩ = some (.slice A n c) ∧ w'.cell? ⟨b, off + k, none⟩ = some (.int .i64 x))
     (go_keep)
     (first
      | (go_at_call 138; refine (specArity _ _ _ sg x _ s hn).mono ?_; rintro e w2 ⟨he, bb⟩; rw [HZ.out] at he; subst he; have cA' : w2.cell? ⟨w.heap.size, 0, none⟩ = some (.slice A n c) := (hr.next bb).cell 0; have cx' : w2.cell? ⟨b, off + k, none⟩ = some (.int .i64 x) := (bb.cell (p := ⟨b, off + k, none⟩) (Nat.lt_trans hbb hr.lt)).trans hx'; have b2 := hb.trans (bb.mono (Nat.le_of_lt hr.lt))))
    have F := hid (S.out _ b2)
    go_wp2
    go_ret
    exact F.out
   ·have hl' := hl.step (by rw [HL.out]; exact hlt) ex.out (by rw [HZ.out]; exact hneg)
    rw [HZ.out] at hl'
    clear hl ex hs hlen
    by_cases hend : q + z.toNat = 0
    ·rw [hend] at hl'
     have S := hid (fun (w' : World) (b' : Below w.heap.size w w') => end_good hl' b')
     have e1 : ((q : Int) + z == 0) = true := by simp; omega
     clear hl'
     go_wp2_with fail
     go_region_held3 (fun w' => w'.cell? ⟨w.heap.size, 0, none⟩ = some (.slice A n c) ∧ w'.cell? ⟨b, off + k, none⟩ = some (.int .i64 x))
      (go_keep)
      (first
       | (go_at_call 138; refine (specArity _ _ _ sg x _ s hn).mono ?_; rintro e w2 ⟨he, bb⟩; rw [HZ.out] at he; subst he; have cA' : w2.cell? ⟨w.heap.size, 0, none⟩ = some (.slice A n c) := (hr.next bb).cell 0; have cx' : w2.cell? ⟨b, off + k, none⟩ = some (.int .i64 x) := (bb.cell (p := ⟨b, off + k, none⟩) (Nat.lt_trans hbb hr.lt)).trans hx'; have b2 := hb.trans (bb.mono (Nat.le_of_lt hr.lt))))
     have F := hid (S.out _ b2)
     go_wp2
     go_ret
     exact F.out
    ·obtain ⟨q', hq'⟩ : ∃ q', q + z.toNat = q' + 1 := ⟨q + z.toNat - 1, by omega⟩
     have S := hid (fun (w' : World) (r' : Row w' w.heap.size 29 #[.slice A n c]) (b' : Below w.heap.size w w') => headEnd_step hl' ⟨by omega, hzb.2⟩ hq hlt hq' r' b')
     have e1 : ((q : Int) + z == 0) = false := by simp; omega
     clear hl' hq'
     go_wp2_with fail
     go_region_held3 (fun w' => w'.cell? ⟨w.heap.size, 0, none⟩ = some (.slice A n c) ∧ w'.cell? ⟨b, off + k, none⟩ = some (.int .i64 x))
      (go_keep)
      (first
       | (go_at_call 138; refine (specArity _ _ _ sg x _ s hn).mono ?_; rintro e w2 ⟨he, bb⟩; rw [HZ.out] at he; subst he; have r2 := hr.next bb; have cA' : w2.cell? ⟨w.heap.size, 0, none⟩ = some (.slice A n c) := r2.cell 0; have cx' : w2.cell? ⟨b, off + k, none⟩ = some (.int .i64 x) := (bb.cell (p := ⟨b, off + k, none⟩) (Nat.lt_trans hbb hr.lt)).trans hx'; have b2 := hb.trans (bb.mono (Nat.le_of_lt hr.lt))))
     have F := hid (S.out _ r2 b2)
     clear r2 b2 cA' cx' cA hx' s hr hb bb
     go_wp2
     go_roundw
     case rel => rw [show (q : Int) + 1 + z - 1 = (q : Int) + z by omega]; exact F.out
     case measure => simp [intOf]; omega
  ·have S := hid (end_bad (hl.out (by rw [HL.out]; exact hlt)) hb)
   clear hl hr hb h h' hs hlen
   go_wp2
   go_ret
   exact S.out
end endOf
end
section
open Go.Lib (hid)
namespace cursor
open Go.RowKit base ints sig term arity
structure Cur (w : World) (p : Nat) (A : Option Addr) (n c : Nat) (A' : Option Addr) (m c' : Nat) (sg t : List Int) (k : Nat) : Prop where
 row : Row w p 132 #[.slice A n c, .slice A' m c', .int .i64 k]
 s : Seg w p A n sg
 s' : Seg w p A' m t
 le : k ≤ m
 hn : n ≤ 1048576
 hm : m ≤ 1048576
 ars : Arities sg
theorem grown_trans {a b c : World} {r : Option Nat} (h : a.grownBy b r) (k : b.grownBy c r) : a.grownBy c r :=
 ⟨k.os.trans h.os, k.tape.trans h.tape, k.output.trans h.output, Nat.le_trans h.size k.size, fun i hi hn => (k.block i (Nat.lt_of_lt_of_le hi h.size) hn).trans (h.block i hi hn)⟩
theorem grown_below {a b : World} (h : Below a.heap.size a b) (r : Option Nat) : a.grownBy b r := ⟨h.os, h.tape, h.output, h.size, fun i hi _ => h.block i hi⟩
theorem grown_drewN {a b : World} {r : Option Nat} (h : a.grownBy b r) (d : Nat) : a.grownBy (b.drewN d) r := ⟨h.os, h.tape, h.output, h.size, h.block⟩
theorem grown_put {a b : World} {p : Nat} (h : a.grownBy b (some p)) (i : Nat) (u : Value) : a.grownBy (b.setCell ⟨p, i, none⟩ u) (some p) :=
 ⟨h.os, h.tape, h.output, by simpa [World.setCell] using h.size, fun k hk hn => (Below.heap_setCell _ _ _ _ (by intro e; exact hn (by rw [e]))).trans (h.block k hk hn)⟩
def AnsNext (w : World) (p : Nat) (A : Option Addr) (n c : Nat) (A' : Option Addr) (m c' : Nat) (sg t : List Int) (k : Nat) (e : Ending) (w' : World) : Prop :=
 w.grownBy w' (some p) ∧ ((k < m ∧ e = .returned (.int .i64 (ar sg (t.getD k 0))) ∧ Cur w' p A n c A' m c' sg t (k + 1)) ∨ (k = m ∧ e = .returned (.int .i64 (-1)) ∧ Cur w' p A n c A' m c' sg t k))
theorem Cur.below {w w' : World} {p : Nat} {A : Option Addr} {n c : Nat} {A' : Option Addr} {m c' : Nat} {sg t : List Int} {k : Nat} (h : Cur w p A n c A' m c' sg t k) (hb : Below w.heap.size w w') : Cur w' p A n c A' m c' sg t k :=
 have hp := h.row.lt
 ⟨h.row.next hb, h.s.below (hb.mono (Nat.le_of_lt hp)), h.s'.below (hb.mono (Nat.le_of_lt hp)), h.le, h.hn, h.hm, h.ars⟩
theorem Cur.drewN {w : World} {p : Nat} {A : Option Addr} {n c : Nat} {A' : Option Addr} {m c' : Nat} {sg t : List Int} {k : Nat} (h : Cur w p A n c A' m c' sg t k) (d : Nat) : Cur (w.drewN d) p A n c A' m c' sg t k :=
 ⟨h.row, h.s, h.s', h.le, h.hn, h.hm, h.ars⟩
theorem Cur.step {w : World} {p : Nat} {A : Option Addr} {n c : Nat} {A' : Option Addr} {m c' : Nat} {sg t : List Int} {k : Nat} (h : Cur w p A n c A' m c' sg t k) (hk : k < m) (d : Nat) :
  Cur ((w.drewN d).setCell ⟨p, 2, none⟩ (.int .i64 ((k : Int) + 1))) p A n c A' m c' sg t (k + 1) := by
 have r := (h.row.drewN d).put 2 (.int .i64 ((k : Int) + 1))
 refine ⟨?_, (h.s.drewN d).put (p := ⟨p, 2, none⟩) (Nat.le_refl _) _, (h.s'.drewN d).put (p := ⟨p, 2, none⟩) (Nat.le_refl _) _, hk, h.hn, h.hm, h.ars⟩
 have e : (.int .i64 ((k : Int) + 1) : Value) = .int .i64 ((k + 1 : Nat) : Int) := by simp
 rw [← e]
 exact r
set_option maxHeartbeats 1000000 in
theorem next (p : Nat) (A : Option Addr) (n c : Nat) (A' : Option Addr) (m c' : Nat) (sg t : List Int) (k : Nat) (w : World) (h : Cur w p A n c A' m c' sg t k) :
  Calls Try.prog 141 #[.pointer (some ⟨p, 0, none⟩)] w (AnsNext w p A n c A' m c' sg t k) := by
 have hr := h.row
 have hk := h.le
 have hm := h.hm
 have hp : p < w.heap.size := hr.lt
 have c0 : w.cell? ⟨p, 0, none⟩ = some (.slice A n c) := hr.cell 0
 have c1 : w.cell? ⟨p, 1, none⟩ = some (.slice A' m c') := hr.cell 1
 have c2 : w.cell? ⟨p, 2, none⟩ = some (.int .i64 k) := hr.cell 2
 have f2 : w.frozen? ⟨p, 2, none⟩ = false := hr.free 2
 by_cases hlt : k < m
 ·obtain ⟨b, off, x, rfl, hbb, hx, ex⟩ := h.s'.spot hlt
  have i0 : (0 : Int) ≤ (k : Int) := by omega
  have i1 : (k : Int) < (m : Int) := by omega
  have HS := hid (fun d => h.step hlt d)
  have HG := hid (fun d => grown_put (grown_drewN (World.grownBy.refl w (some p)) d) 2 (.int .i64 ((k : Int) + 1)))
  clear hr h
  go_enter Try.func141, Try.ntmps141
  go_wp2
  go_quiet (fail)
  go_wp2
  go_quiet (fail)
  go_wp2_with fail
  refine (implArity A n c sg x _ ((HS.out _).s.more (Nat.le_of_lt (HS.out _).row.lt)) (HS.out 0).hn).mono ?_
  rintro e w' ⟨rfl, bb⟩
  have F : AnsNext w p A n c (some ⟨b, off, none⟩) m c' sg t k (.returned (.int .i64 (ar sg x))) w' :=
   ⟨grown_trans (HG.out _) (grown_below bb _), .inl ⟨hlt, by rw [ex.out], (HS.out _).below bb⟩⟩
  have HF := hid F
  clear F HG HS bb ex
  go_wp2
  go_ret
  exact HF.out
 ·have e : k = m := by omega
  have HS := hid (fun d => h.drewN d)
  have HE := hid e
  have i2 : decide (m ≤ k) = true := by simp; omega
  clear e hr h
  go_enter Try.func141, Try.ntmps141
  go_wp2
  go_quiet (fail)
  go_wp2
  go_ret
  exact ⟨grown_drewN (World.grownBy.refl w (some p)) _, .inr ⟨HE.out, rfl, HS.out _⟩⟩
def AnsPass (w : World) (p : Nat) (A : Option Addr) (n c : Nat) (A' : Option Addr) (m c' : Nat) (sg t : List Int) (k : Nat) (e : Ending) (w' : World) : Prop :=
 w.grownBy w' (some p) ∧ ((∃ j, scan sg 1 (t.drop k) = some j ∧ e = .returned (.bool true) ∧ Cur w' p A n c A' m c' sg t (k + j)) ∨ (scan sg 1 (t.drop k) = none ∧ e = .returned (.bool false) ∧ ∃ k', Cur w' p A n c A' m c' sg t k'))
def HeadPass (w : World) (p : Nat) (A : Option Addr) (n c : Nat) (A' : Option Addr) (m c' : Nat) (sg t : List Int) (a : Nat) (q : Value) (wr : World) : Prop :=
 ∃ k q' : Nat, q = .int .i64 q' ∧ q' ≤ 3 * k + 1 ∧ Scn sg t a k q' ∧ Cur wr p A n c A' m c' sg t k ∧ w.grownBy wr (some p)
def placeOf (p : Nat) (wr : World) : Nat := (intOf ((wr.cell? ⟨p, 2, none⟩).getD undef)).toNat
theorem placeOf_cur {w : World} {p : Nat} {A : Option Addr} {n c : Nat} {A' : Option Addr} {m c' : Nat} {sg t : List Int} {k : Nat} (h : Cur w p A n c A' m c' sg t k) : placeOf p w = k := by
 have c2 : w.cell? ⟨p, 2, none⟩ = some (.int .i64 k) := h.row.cell 2
 unfold placeOf
 rw [c2]
 simp [intOf]
set_option maxHeartbeats 1000000 in
theorem pass (p : Nat) (A : Option Addr) (n c : Nat) (A' : Option Addr) (m c' : Nat) (sg t : List Int) (a : Nat) (w : World) (h : Cur w p A n c A' m c' sg t a) :
  Calls Try.prog 112 #[.pointer (some ⟨p, 0, none⟩)] w (AnsPass w p A n c A' m c' sg t a) := by
 have hm := h.hm
 have HL := hid h.s'.1
 have hs := h.ars
 have H0 : HeadPass w p A n c A' m c' sg t a (.int .i64 1) w := ⟨a, 1, rfl, by omega, Scn.start (by rw [HL.out]; exact h.le), h, World.grownBy.refl _ _⟩
 have HH := hid H0
 clear H0 h
 go_enter Try.func112, Try.ntmps112
 go_wp2_with fail
 go_loopw [3, 4] (fun q _ wr => HeadPass w p A n c A' m c' sg t a q wr) (fun _ _ wr => m - placeOf p wr)
 case atStart => exact HH.out
 case round =>
  obtain ⟨k, q, rfl, hq, hl, hc, hg⟩ := hrel
  clear HH
  have hk := hc.le
  by_cases h0 : q = 0
  ·subst h0
   have S : AnsPass w p A n c A' m c' sg t a (.returned (.bool true)) wr := ⟨hg, .inl ⟨k - a, hl.done, rfl, by rw [show a + (k - a) = k by have := hl.1; omega]; exact hc⟩⟩
   have HS := hid S
   clear S hl hc hg
   go_wp2
   go_ret
   exact HS.out
  ·obtain ⟨q1, rfl⟩ : ∃ q1, q = q1 + 1 := ⟨q - 1, by omega⟩
   have hq0 : (0 : Int) < ((q1 + 1 : Nat) : Int) := by omega
   go_wp2_with fail
   refine (next p A n c A' m c' sg t k wr hc).mono ?_
   rintro e w2 ⟨g2, ⟨hlt, rfl, hc2⟩ | ⟨hk', rfl, hc2⟩⟩
   ·obtain ⟨z, hz⟩ : ∃ z, ar sg (t.getD k 0) = z := ⟨_, rfl⟩
    have hzb := ar_bd hs (t.getD k 0)
    rw [hz] at hzb ⊢
    by_cases hneg : z < 0
    ·have S : AnsPass w p A n c A' m c' sg t a (.returned (.bool false)) w2 := ⟨grown_trans hg g2, .inr ⟨hl.bad (by rw [HL.out]; exact hlt) rfl (by rw [hz]; exact hneg), rfl, _, hc2⟩⟩
     have HS := hid S
     clear S hl hc hg hc2 g2 hz
     go_wp2
     go_ret
     exact HS.out
    ·have hl' := hl.step (by rw [HL.out]; exact hlt) rfl (by rw [hz]; exact hneg)
     rw [hz] at hl'
     have S : HeadPass w p A n c A' m c' sg t a (.int .i64 ((q1 : Int) + z)) w2 := ⟨k + 1, q1 + z.toNat, by congr 1; omega, by omega, hl', hc2, grown_trans hg g2⟩
     have HS := hid S
     have M := hid (show m - placeOf p w2 < m - placeOf p wr by rw [placeOf_cur hc, placeOf_cur hc2]; omega)
     have hz1 := hzb.1
     have hz2 := hzb.2
     have hq2 : (q1 : Int) ≤ 3145728 := by omega
     clear S hl hc hg hc2 g2 hz hl' hzb
     go_wp2
     go_roundw
     case rel => rw [show (q1 : Int) + 1 + z - 1 = (q1 : Int) + z by omega]; exact HS.out
     case measure => exact M.out
   ·have S : AnsPass w p A n c A' m c' sg t a (.returned (.bool false)) w2 := ⟨grown_trans hg g2, .inr ⟨hl.out (by rw [HL.out]; omega), rfl, _, hc2⟩⟩
    have HS := hid S
    clear S hl hc hg hc2 g2
    go_wp2
    go_ret
    exact HS.out
end cursor
end
section
open Go.Lib (hid)
namespace termOk
open Go.RowKit base ints sig term arity endOf cursor
def termOkB (sg t : List Int) : Bool := sigOkB sg && termB sg t
theorem sig_arities {sg : List Int} (h : sigOkB sg = true) : Arities sg ∧ 1 ≤ sg.length ∧ sg.length ≤ 8 := by
 unfold sigOkB at h
 rw [Bool.and_eq_true, decide_eq_true_eq, List.all_eq_true] at h
 refine ⟨fun j hj => ?_, h.1⟩
 have := h.2 (sg[j]) (List.getElem_mem hj)
 simp [arityOk] at this
 simp [List.getD, hj]
 omega
theorem endI_len {sg t : List Int} : (endI sg t 0 == (t.length : Int)) = decide (scan sg 1 t = some t.length) := by
 cases h : scan sg 1 t with
 | none =>
  rw [endI_none (by simpa using h)]
  simp
 | some j =>
  rw [endI_some (j := j) (by simpa using h)]
  simp
  by_cases e : j = t.length
  ·subst e; simp
  ·simp [e]; omega
def AnsTerm (w : World) (sg t : List Int) (e : Ending) (w' : World) : Prop := e = .returned (.bool (termOkB sg t)) ∧ Below w.heap.size w w'
theorem term_sig {w w' : World} {sg t : List Int} (h : sigOkB sg = false) (hb : Below w.heap.size w w') : AnsTerm w sg t (.returned (.bool false)) w' := ⟨by unfold termOkB; rw [h, Bool.false_and], hb⟩
theorem term_long {w w' : World} {sg t : List Int} {m : Nat} (hm : t.length = m) (h : 60 < m) (hb : Below w.heap.size w w') : AnsTerm w sg t (.returned (.bool false)) w' :=
 ⟨by unfold termOkB termB; rw [decide_eq_false (p := t.length ≤ 60) (by omega), Bool.false_and, Bool.and_false], hb⟩
theorem term_empty {w w' : World} {sg t : List Int} {m : Nat} (hm : t.length = m) (h : ¬ 1 ≤ m) (hb : Below w.heap.size w w') : AnsTerm w sg t (.returned (.bool false)) w' := by
 refine ⟨?_, hb⟩
 have : t = [] := List.eq_nil_of_length_eq_zero (by omega)
 subst this
 unfold termOkB termB
 simp [scan]
theorem term_end {w w' : World} {sg t : List Int} {m : Nat} (hm : t.length = m) (h : sigOkB sg = true) (h' : m ≤ 60) (hb : Below w.heap.size w w') : AnsTerm w sg t (.returned (.bool (endI sg t 0 == (m : Int)))) w' :=
 ⟨by unfold termOkB termB; rw [h, Bool.true_and, decide_eq_true (p := t.length ≤ 60) (by omega), Bool.true_and, ← endI_len, hm], hb⟩
set_option maxHeartbeats 1000000 in
theorem specTermOk (A A' : Option Addr) (n c m c' : Nat) (sg t : List Int) (w : World) (h : Seg w w.heap.size A n sg) (h' : Seg w w.heap.size A' m t) (hn : n ≤ 1048576) (hm : m ≤ 1048576) :
  Calls Try.prog 69 #[.agg #[.slice A n c], .slice A' m c'] w (AnsTerm w sg t) := by
 obtain ⟨W, hW⟩ : ∃ W, W = w.alloc (.cells #[.slice A n c] 29) := ⟨_, rfl⟩
 have rA : Row W w.heap.size 29 #[.slice A n c] := by rw [hW]; exact Row.new _ _ _
 have bel : Below w.heap.size w W := by rw [hW]; exact (Below.refl _ _).alloc (Nat.le_refl _) _
 replace h := (h.below bel).more bel.size
 replace h' := (h'.below bel).more bel.size
 have HW := hid hW
 have HL := hid h'.1
 clear hW
 have L := hid (specSigOk A n c sg W h hn)
 cases hsig : sigOkB sg with
 | false =>
  have HS := hid hsig
  clear hsig h h'
  go_enter Try.func69, Try.ntmps69
  go_wp2_with fail
  rw [← HW.out]
  refine L.out.mono ?_
  rintro e w1 ⟨he, bb⟩
  rw [HS.out] at he
  subst he
  have F := hid (term_sig (t := t) HS.out (bel.trans (bb.mono (Nat.le_of_lt rA.lt))))
  clear bb bel rA
  go_wp2
  go_ret
  exact F.out
 | true =>
  have HS := hid hsig
  have hars := (sig_arities hsig).1
  clear hsig
  by_cases hin : 1 ≤ (m : Int) ∧ (m : Int) ≤ 60
  ·go_enter Try.func69, Try.ntmps69
   go_wp2_with fail
   rw [← HW.out]
   refine L.out.mono ?_
   rintro e w1 ⟨he, bb⟩
   rw [HS.out] at he
   subst he
   replace h := h.next bb
   replace h' := h'.next bb
   have hlt := rA.lt
   replace rA := rA.next bb
   replace bel := bel.trans (bb.mono (Nat.le_of_lt hlt))
   have cA : w1.cell? ⟨w.heap.size, 0, none⟩ = some (.slice A n c) := rA.cell 0
   clear bb hlt
   go_wp2_with fail
   refine (inYes _ _ _ _ hin).mono ?_
   rintro e w2 ⟨rfl, rfl⟩
   go_wp2_with fail
   refine (specEnd A A' n c m c' sg t 0 _ h h' hn hm hars (by omega) (by omega)).mono ?_
   rintro e w2 ⟨rfl, bb⟩
   have F := hid (term_end HL.out HS.out (by omega) (bel.trans (bb.mono (Nat.le_of_lt rA.lt))))
   clear bb bel rA cA h h' hars
   rw [show (0 : Int).toNat = 0 from rfl]
   generalize endI sg t 0 = z at *
   go_wp2
   go_ret
   exact F.out
  ·go_enter Try.func69, Try.ntmps69
   go_wp2_with fail
   rw [← HW.out]
   refine L.out.mono ?_
   rintro e w1 ⟨he, bb⟩
   rw [HS.out] at he
   subst he
   have F : AnsTerm w sg t (.returned (.bool false)) w1 := by
    have b := bel.trans (bb.mono (Nat.le_of_lt rA.lt))
    by_cases h1 : 1 ≤ m
    ·exact term_long HL.out (by omega) b
    ·exact term_empty HL.out h1 b
   have HF := hid F
   clear F bb bel rA h h' hars
   go_wp2_with fail
   refine (inNo _ _ _ _ hin).mono ?_
   rintro e w2 ⟨rfl, rfl⟩
   go_wp2
   go_ret
   exact HF.out
theorem term_scan {w w' : World} {sg t : List Int} {m : Nat} {b : Bool} (hm : t.length = m) (h : sigOkB sg = true) (h' : m ≤ 60) (hs : decide (scan sg 1 t = some m) = b) (hb : Below w.heap.size w w') : AnsTerm w sg t (.returned (.bool b)) w' :=
 ⟨by unfold termOkB termB; rw [h, Bool.true_and, decide_eq_true (p := t.length ≤ 60) (by omega), Bool.true_and, hm, hs], hb⟩
theorem cur_new {w : World} {A A' : Option Addr} {n c m c' : Nat} {sg t : List Int} (h : Seg w w.heap.size A n sg) (h' : Seg w w.heap.size A' m t) (hn : n ≤ 1048576) (hm : m ≤ 1048576) (ha : Arities sg) (k : Nat) (hk : k ≤ m) :
  Cur (w.alloc (.cells #[.slice A n c, .slice A' m c', .int .i64 k] 132)) w.heap.size A n c A' m c' sg t k :=
 ⟨Row.new _ _ _, h.alloc (Nat.le_refl _) _, h'.alloc (Nat.le_refl _) _, hk, hn, hm, ha⟩
theorem grown_new {w w' : World} {o : Obj} (hg : (w.alloc o).grownBy w' (some w.heap.size)) : Below w.heap.size w w' :=
 ⟨hg.os, hg.tape, hg.output, by have := hg.size; simp at this; omega, fun i hi => by
  rw [hg.block i (by simp; omega) (by simp; omega)]
  exact Below.heap_alloc _ _ _ hi⟩
set_option maxHeartbeats 1000000 in
theorem implTermOk (A A' : Option Addr) (n c m c' : Nat) (sg t : List Int) (w : World) (h : Seg w w.heap.size A n sg) (h' : Seg w w.heap.size A' m t) (hn : n ≤ 1048576) (hm : m ≤ 1048576) :
  Calls Try.prog 72 #[.agg #[.slice A n c], .slice A' m c'] w (AnsTerm w sg t) := by
 obtain ⟨W, hW⟩ : ∃ W, W = w.alloc (.cells #[.slice A n c] 29) := ⟨_, rfl⟩
 have rA : Row W w.heap.size 29 #[.slice A n c] := by rw [hW]; exact Row.new _ _ _
 have bel : Below w.heap.size w W := by rw [hW]; exact (Below.refl _ _).alloc (Nat.le_refl _) _
 replace h := (h.below bel).more bel.size
 replace h' := (h'.below bel).more bel.size
 have HW := hid hW
 have HL := hid h'.1
 clear hW
 have L := hid (implSigOk A n c sg W h hn)
 cases hsig : sigOkB sg with
 | false =>
  have HS := hid hsig
  clear hsig h h'
  go_enter Try.func72, Try.ntmps72
  go_wp2_with fail
  rw [← HW.out]
  refine L.out.mono ?_
  rintro e w1 ⟨he, bb⟩
  rw [HS.out] at he
  subst he
  have F := hid (term_sig (t := t) HS.out (bel.trans (bb.mono (Nat.le_of_lt rA.lt))))
  clear bb bel rA
  go_wp2
  go_ret
  exact F.out
 | true =>
  have HS := hid hsig
  have hars := (sig_arities hsig).1
  clear hsig
  by_cases h60 : m ≤ 60
  ·go_enter Try.func72, Try.ntmps72
   go_wp2_with fail
   rw [← HW.out]
   refine L.out.mono ?_
   rintro e w1 ⟨he, bb⟩
   rw [HS.out] at he
   subst he
   replace h := h.next bb
   replace h' := h'.next bb
   have hlt := rA.lt
   replace rA := rA.next bb
   replace bel := bel.trans (bb.mono (Nat.le_of_lt hlt))
   have cA : w1.cell? ⟨w.heap.size, 0, none⟩ = some (.slice A n c) := rA.cell 0
   clear bb hlt
   have CN := hid (cur_new (c := c) (c' := c') h h' hn hm hars 0 (Nat.zero_le _))
   go_wp2_with fail
   refine (pass w1.heap.size A n c A' m c' sg t 0 _ CN.out).mono ?_
   rintro e w2 ⟨hg, ⟨j, hj, rfl, hc⟩ | ⟨hj, rfl, -⟩⟩
   ·have b2 := bel.trans ((grown_new hg).mono (Nat.le_of_lt rA.lt))
    have c2 : w2.cell? ⟨w1.heap.size, 2, none⟩ = some (.int .i64 ((0 + j : Nat) : Int)) := hc.row.cell 2
    rw [Nat.zero_add] at c2
    have F := hid (fun (b : Bool) (hb : decide (j = m) = b) => term_scan (b := b) HL.out HS.out h60 (by rw [show t.drop 0 = t from rfl] at hj; rw [hj, ← hb]; simp) b2)
    clear hj hc hg b2 bel rA cA h h' hars CN
    by_cases e : j = m
    ·have F' := hid (F.out true (by simp [e]))
     have e1 : ((j : Int) == (m : Int)) = true := by simp [e]
     clear F e
     go_wp2
     go_ret
     exact F'.out
    ·have F' := hid (F.out false (by simp [e]))
     have e1 : ((j : Int) == (m : Int)) = false := by simp; omega
     clear F e
     go_wp2
     go_ret
     exact F'.out
   ·have F := hid (term_scan (b := false) HL.out HS.out h60 (by rw [show t.drop 0 = t from rfl] at hj; rw [hj]; simp) (bel.trans ((grown_new hg).mono (Nat.le_of_lt rA.lt))))
    clear hj hg bel rA cA h h' hars CN
    go_wp2
    go_ret
    exact F.out
  ·have i1 : (60 : Int) < (m : Int) := by omega
   go_enter Try.func72, Try.ntmps72
   go_wp2_with fail
   rw [← HW.out]
   refine L.out.mono ?_
   rintro e w1 ⟨he, bb⟩
   rw [HS.out] at he
   subst he
   have F := hid (term_long HL.out (by omega) (bel.trans (bb.mono (Nat.le_of_lt rA.lt))) : AnsTerm w sg t _ _)
   clear bb bel rA h h' hars
   go_wp2
   go_ret
   exact F.out
end termOk
end
section
namespace varsMath
open term termOk
end varsMath
end
section
namespace term
theorem scan_split {sg : List Int} : ∀ {l : List Int} {p q j : Nat}, scan sg (p + q) l = some j → ∃ i, i ≤ j ∧ scan sg p l = some i ∧ scan sg q (l.drop i) = some (j - i) := by
 intro l
 induction l with
 | nil =>
  intro p q j h
  cases p with
  | zero => exact ⟨0, Nat.zero_le _, rfl, by simpa using h⟩
  | succ p => rw [show p + 1 + q = (p + q) + 1 by omega, scan_nil] at h; cases h
 | cons x r ih =>
  intro p q j h
  cases p with
  | zero => exact ⟨0, Nat.zero_le _, rfl, by simpa using h⟩
  | succ p =>
   rw [show p + 1 + q = (p + q) + 1 by omega] at h
   by_cases ha : ar sg x < 0
   ·rw [scan_bad ha] at h; cases h
   ·rw [scan_step ha] at h
    obtain ⟨j', hj', rfl⟩ := Option.map_eq_some_iff.1 h
    rw [show p + q + (ar sg x).toNat = (p + (ar sg x).toNat) + q by omega] at hj'
    obtain ⟨i, h1, h2, h3⟩ := ih hj'
    refine ⟨i + 1, by omega, by rw [scan_step ha, h2]; rfl, ?_⟩
    rw [List.drop_succ_cons, h3]
    congr 1
    omega
theorem scan_tail {sg : List Int} : ∀ {l : List Int} {q j a : Nat}, scan sg q l = some j → a < j → ∃ q', scan sg (q' + 1) (l.drop a) = some (j - a) := by
 intro l
 induction l with
 | nil =>
  intro q j a h ha
  cases q with
  | zero => rw [scan_zero] at h; injection h; omega
  | succ q => rw [scan_nil] at h; cases h
 | cons x r ih =>
  intro q j a h ha
  cases q with
  | zero => rw [scan_zero] at h; injection h; omega
  | succ q =>
   cases a with
   | zero => exact ⟨q, h⟩
   | succ a =>
    by_cases hx : ar sg x < 0
    ·rw [scan_bad hx] at h; cases h
    ·rw [scan_step hx] at h
     obtain ⟨j', hj', rfl⟩ := Option.map_eq_some_iff.1 h
     obtain ⟨q', h'⟩ := ih (a := a) hj' (by omega)
     exact ⟨q', by rw [List.drop_succ_cons, h']; congr 1; omega⟩
theorem scan_pos {sg : List Int} {l : List Int} {q j : Nat} (h : scan sg (q + 1) l = some j) : 1 ≤ j := by
 cases l with
 | nil => rw [scan_nil] at h; cases h
 | cons x r =>
  by_cases hx : ar sg x < 0
  ·rw [scan_bad hx] at h; cases h
  ·rw [scan_step hx] at h
   obtain ⟨j', _, rfl⟩ := Option.map_eq_some_iff.1 h
   omega
theorem scan_le {sg : List Int} : ∀ {l : List Int} {q j : Nat}, scan sg q l = some j → j ≤ l.length := by
 intro l
 induction l with
 | nil =>
  intro q j h
  cases q with
  | zero => rw [scan_zero] at h; injection h; omega
  | succ q => rw [scan_nil] at h; cases h
 | cons x r ih =>
  intro q j h
  cases q with
  | zero => rw [scan_zero] at h; injection h; omega
  | succ q =>
   by_cases hx : ar sg x < 0
   ·rw [scan_bad hx] at h; cases h
   ·rw [scan_step hx] at h
    obtain ⟨j', hj', rfl⟩ := Option.map_eq_some_iff.1 h
    have := ih hj'
    simp
    omega
theorem scan_at {sg t : List Int} (h : scan sg 1 t = some t.length) {a : Nat} (ha : a < t.length) : ∃ j, scan sg 1 (t.drop a) = some j ∧ 1 ≤ j ∧ a + j ≤ t.length := by
 obtain ⟨q', h'⟩ := scan_tail h ha
 rw [Nat.add_comm] at h'
 obtain ⟨i, h1, h2, _⟩ := scan_split h'
 have h3 := scan_pos (q := 0) h2
 exact ⟨i, h2, h3, by omega⟩
theorem scan_args {sg t : List Int} {a j : Nat} (h : scan sg 1 (t.drop a) = some j) : ∃ i, j = i + 1 ∧ a < t.length ∧ ¬ ar sg (t.getD a 0) < 0 ∧ scan sg (ar sg (t.getD a 0)).toNat (t.drop (a + 1)) = some i := by
 by_cases ha : a < t.length
 ·rw [drop_cons ha] at h
  by_cases hx : ar sg (t.getD a 0) < 0
  ·rw [scan_bad hx] at h; cases h
  ·rw [scan_step hx, Nat.zero_add] at h
   obtain ⟨i, hi, rfl⟩ := Option.map_eq_some_iff.1 h
   exact ⟨i, rfl, ha, hx, hi⟩
 ·rw [List.drop_eq_nil_of_le (by omega), scan_nil] at h; cases h
theorem scan_first {sg t : List Int} {q a i : Nat} (h : scan sg (q + 1) (t.drop a) = some i) : ∃ j, scan sg 1 (t.drop a) = some j ∧ 1 ≤ j ∧ j ≤ i ∧ scan sg q (t.drop (a + j)) = some (i - j) := by
 rw [Nat.add_comm] at h
 obtain ⟨j, h1, h2, h3⟩ := scan_split h
 rw [List.drop_drop] at h3
 exact ⟨j, h2, scan_pos (q := 0) h2, h1, h3⟩
def len1 (sg t : List Int) (a : Nat) : Nat := (scan sg 1 (t.drop a)).getD 0
theorem len1_eq {sg t : List Int} {a j : Nat} (h : scan sg 1 (t.drop a) = some j) : len1 sg t a = j := by unfold len1; rw [h]; rfl
def places (sg t : List Int) : Nat → Nat → List Int
 | 0, _ => []
 | k + 1, p => (p : Int) :: places sg t k (p + len1 sg t p)
def maxOver (sg t : List Int) (g : Nat → Int) : Nat → Nat → Int
 | 0, _ => 0
 | k + 1, p => max (g p) (maxOver sg t g k (p + len1 sg t p))
def dep (sg t : List Int) : Nat → Nat → Int
 | 0, _ => 0
 | f + 1, a => maxOver sg t (dep sg t f) (ar sg (t.getD a 0)).toNat (a + 1) + 1
theorem maxOver_bd {sg t : List Int} {g : Nat → Int} {B : Int} (hB : 0 ≤ B) (hg : ∀ p, 0 ≤ g p ∧ g p ≤ B) : ∀ k p, 0 ≤ maxOver sg t g k p ∧ maxOver sg t g k p ≤ B
 | 0, _ => by simp [maxOver, hB]
 | k + 1, p => by
  have h1 := hg p
  have h2 := maxOver_bd (sg := sg) (t := t) hB hg k (p + len1 sg t p)
  simp only [maxOver]
  omega
theorem dep_bd {sg t : List Int} : ∀ f a, 0 ≤ dep sg t f a ∧ dep sg t f a ≤ f
 | 0, _ => by simp [dep]
 | f + 1, a => by
  have := maxOver_bd (sg := sg) (t := t) (g := dep sg t f) (B := f) (by omega) (fun p => dep_bd (sg := sg) (t := t) f p) (ar sg (t.getD a 0)).toNat (a + 1)
  simp only [dep]
  omega
end term
end
section
namespace termFacts
open sig term termOk
theorem term_parts {sg t : List Int} (h : termOkB sg t = true) : sigOkB sg = true ∧ t.length ≤ 60 ∧ scan sg 1 t = some t.length := by
 unfold termOkB termB at h
 simp only [Bool.and_eq_true, decide_eq_true_eq] at h
 exact h
theorem term_len {sg t : List Int} (h : termOkB sg t = true) : 1 ≤ t.length ∧ t.length ≤ 60 := ⟨scan_pos (q := 0) (term_parts h).2.2, (term_parts h).2.1⟩
theorem term_ar {sg t : List Int} (h : termOkB sg t = true) {j : Nat} (hj : j < t.length) : ¬ ar sg (t.getD j 0) < 0 := by
 obtain ⟨i, h1, _, _⟩ := scan_at (term_parts h).2.2 hj
 obtain ⟨_, _, _, h2, _⟩ := scan_args h1
 exact h2
theorem term_num {sg t : List Int} (h : termOkB sg t = true) {j : Nat} (hj : j < t.length) : -24 ≤ t.getD j 0 ∧ t.getD j 0 < 8 := by
 have h1 := term_ar h hj
 have h2 := (sig_arities (term_parts h).1).2
 unfold ar at h1
 split at h1
 ·omega
 ·split at h1
  ·omega
  ·omega
theorem term_mem {sg t : List Int} (h : termOkB sg t = true) {x : Int} (hx : x ∈ t) : -24 ≤ x ∧ x < 8 := by
 obtain ⟨j, hj, rfl⟩ := List.getElem_of_mem hx
 have := term_num h hj
 simpa [List.getD, hj] using this
end termFacts
end
section
namespace marks
open Go.RowKit base ints sig cursor
def Own (w : World) (base : Nat) (v : Value) (xs : List Int) : Prop := w.ownsRow base 2 1 v xs.length (xs.map (Value.int .i64))
theorem Own.nil (w : World) (base : Nat) : Own w base (.slice none 0 0) [] := World.ownsRow_nil w base 2 1
theorem Own.form {w : World} {base : Nat} {v : Value} {xs : List Int} (h : Own w base v xs) : (v = .slice none 0 0 ∧ xs = []) ∨
  ∃ g c cur, v = .slice (some ⟨g, 0, none⟩) xs.length c ∧ base ≤ g ∧ Row w g 2 cur ∧ xs.length ≤ cur.size ∧ ∀ j, j < xs.length → cur[j]? = some (.int .i64 (xs.getD j 0)) := by
 obtain ⟨h1, h2⟩ := h
 rcases h2 with ⟨rfl, h0⟩ | ⟨g, cap, cur, rfl, hb, hg, hn, _, hs, ht⟩
 ·exact .inl ⟨rfl, List.eq_nil_of_length_eq_zero h0⟩
 ·refine .inr ⟨g, cap, cur, rfl, hb, hg, by omega, fun j hj => ?_⟩
  have h3 : (cur.toList.take (xs.length * 1))[j]? = (xs.map (Value.int .i64))[j]? := by rw [ht]
  rw [List.getElem?_take, if_pos (by omega)] at h3
  simpa [List.getD, hj] using h3
theorem Own.slice {w : World} {base : Nat} {v : Value} {xs : List Int} (h : Own w base v xs) : ∃ A c, v = .slice A xs.length c := by
 rcases h.form with ⟨rfl, rfl⟩ | ⟨g, c, _, rfl, _⟩
 ·exact ⟨none, 0, rfl⟩
 ·exact ⟨_, c, rfl⟩
theorem Own.seg {w : World} {base : Nat} {A : Option Addr} {n c : Nat} {xs : List Int} (h : Own w base (.slice A n c) xs) : Seg w w.heap.size A n xs := by
 rcases h.form with ⟨e, rfl⟩ | ⟨g, c', cur, e, hb, hr, hs, hc⟩
 ·injection e with e1 e2 e3
  subst e1 e2
  exact Seg.empty
 ·injection e with e1 e2 e3
  subst e1 e2
  exact hr.seg rfl hr.lt hc
theorem Own.next {w w' : World} {base : Nat} {v : Value} {xs : List Int} (h : Own w base v xs) (hb : Below w.heap.size w w') : Own w' base v xs :=
 World.ownsRow.kept h ⟨hb.os, hb.tape, hb.output, hb.size, fun k hk _ => hb.block k hk⟩ (row := none) (by cases v.ownBlock <;> simp)
theorem Own.of_row {w : World} {base g n c : Nat} {cs : Array Value} {xs : List Int} (hr : Row w g 2 cs) (hl : xs.length = n) (hs : cs.size = c) (hn : n ≤ c) (hm : c ≤ 9223372036854775807) (hb : base ≤ g) (hc : ∀ j, j < n → cs[j]? = some (.int .i64 (xs.getD j 0))) : Own w base (.slice (some ⟨g, 0, none⟩) n c) xs := by
 subst hl
 refine ⟨by simp, .inr ⟨g, c, cs, rfl, hb, hr, hn, by unfold maxLen; omega, by omega, ?_⟩⟩
 refine List.ext_getElem? fun j => ?_
 rw [List.getElem?_take]
 by_cases hj : j < xs.length
 ·rw [if_pos (by omega)]
  have := hc j hj
  simp [List.getD, hj] at this ⊢
  exact this
 ·rw [if_neg (by omega)]
  have : (xs.map (Value.int .i64))[j]? = none := List.getElem?_eq_none (by simp; omega)
  rw [this]
def blk (A : Option Addr) : Option Nat := A.map (·.block)
end marks
end
section
namespace app
open Go.RowKit base ints marks
end app
end
section
namespace sym
open Go.RowKit base ints marks app
theorem Own.len {w : World} {base : Nat} {A : Option Addr} {n c : Nat} {xs : List Int} (h : Own w base (.slice A n c) xs) : n = xs.length := by
 obtain ⟨_, _, e⟩ := h.slice
 injection e
end sym
end
section
namespace sub
open Go.RowKit base ints marks app sym
end sub
end
section
namespace appAt
open Go.RowKit base ints marks app
set_option maxRecDepth 100000
theorem blk_own (A : Option Addr) (n c : Nat) : (Value.slice A n c).ownBlock = blk A := by cases A <;> rfl
end appAt
end
section
namespace segs
open Go.RowKit base ints marks app sym appAt
set_option maxRecDepth 100000
def Cap (A : Option Addr) (n c : Nat) : Prop := n ≤ c ∧ c ≤ 9223372036854775807 ∧ (A = none → c = 0)
def Segs (w : World) (B : Nat) (A : Option Addr) (n : Nat) (xss : List (List Int)) : Prop :=
 xss.length = n ∧ (0 < n → ∃ b off, A = some ⟨b, off, none⟩ ∧ b < B ∧ ∀ j, j < n → ∃ A' n' c', w.cell? ⟨b, off + j, none⟩ = some (.slice A' n' c') ∧ Seg w B A' n' (xss.getD j []) ∧ Cap A' n' c')
section
variable {w w' : World} {B B' n : Nat} {A : Option Addr} {xss : List (List Int)}
theorem Segs.spot (h : Segs w B A n xss) {k : Nat} (hk : k < n) : ∃ b off A' n' c', A = some ⟨b, off, none⟩ ∧ b < B ∧ w.cell? ⟨b, off + k, none⟩ = some (.slice A' n' c') ∧ Seg w B A' n' (xss.getD k []) ∧ Cap A' n' c' := by
 obtain ⟨b, off, e, hb, hc⟩ := h.2 (by omega)
 obtain ⟨A', n', c', h1, h2, h3⟩ := hc k hk
 exact ⟨b, off, A', n', c', e, hb, h1, h2, h3⟩
theorem Segs.keep (h : Segs w B A n xss) (hk : ∀ p : Addr, p.block < B → w'.cell? p = w.cell? p) : Segs w' B A n xss :=
 ⟨h.1, fun hn => by
  obtain ⟨b, off, e, hb, hc⟩ := h.2 hn
  refine ⟨b, off, e, hb, fun j hj => ?_⟩
  obtain ⟨A', n', c', h1, h2, h3⟩ := hc j hj
  exact ⟨A', n', c', (hk ⟨b, off + j, none⟩ hb).trans h1, h2.keep hk, h3⟩⟩
theorem Segs.more (h : Segs w B A n xss) (hB : B ≤ B') : Segs w B' A n xss :=
 ⟨h.1, fun hn => by
  obtain ⟨b, off, e, hb, hc⟩ := h.2 hn
  refine ⟨b, off, e, by omega, fun j hj => ?_⟩
  obtain ⟨A', n', c', h1, h2, h3⟩ := hc j hj
  exact ⟨A', n', c', h1, h2.more hB, h3⟩⟩
theorem Segs.below (h : Segs w B A n xss) (hb : Below B w w') : Segs w' B A n xss := h.keep fun _ hp => hb.cell hp
theorem Segs.next (h : Segs w w.heap.size A n xss) (hb : Below w.heap.size w w') : Segs w' w'.heap.size A n xss := (h.below hb).more hb.size
theorem Row.ne_ {g g' : Nat} {t t' : TypeId} {cs cs' : Array Value} (h : Row w g t cs) (h' : Row w g' t' cs') (hne : t ≠ t') : g ≠ g' := by
 rintro rfl
 unfold Row at h h'
 rw [h] at h'
 injection h' with h'
 injection h' with _ ht
 exact hne ht
end
def Inn (w : World) (lo hi : Nat) (v : Value) (xs : List Int) : Prop := ∃ A c, v = .slice A xs.length c ∧ Own w lo v xs ∧ ∀ k, blk A = some k → k < hi
def Apart (n : Nat) (vs : List Value) : Prop := ∀ i j k, i < j → j < n → (vs.getD i undef).ownBlock = some k → (vs.getD j undef).ownBlock ≠ some k
structure Owns (w : World) (lo hi : Nat) (A : Option Addr) (n c : Nat) (xss : List (List Int)) : Prop where
 len : xss.length = n
 row : ∃ vs : List Value, w.ownsRow lo 27 1 (.slice A n c) n vs ∧ (∀ j, j < n → Inn w lo hi (vs.getD j undef) (xss.getD j [])) ∧ Apart n vs
 top : ∀ k, blk A = some k → k < hi
section
variable {w w' : World} {lo hi n c : Nat} {A : Option Addr} {xss : List (List Int)}
theorem own_form {base n c : Nat} {A : Option Addr} {vs : List Value} {t : TypeId} (h : w.ownsRow base t 1 (.slice A n c) n vs) : (A = none ∧ n = 0 ∧ c = 0 ∧ vs = []) ∨
  ∃ g cur, A = some ⟨g, 0, none⟩ ∧ base ≤ g ∧ Row w g t cur ∧ n ≤ c ∧ cur.size = c ∧ c ≤ 9223372036854775807 ∧ vs.length = n ∧ ∀ j, j < n → cur[j]? = some (vs.getD j undef) := by
 have hl : vs.length = n := by have := h.1; omega
 obtain ⟨h1, h2⟩ := h
 rcases h2 with ⟨e, h0⟩ | ⟨g, cap, cur, e, hb, hg, hn, hm, hs, ht⟩
 ·have e1 := (Value.slice.inj e)
  obtain ⟨rfl, rfl, rfl⟩ := e1
  exact .inl ⟨rfl, rfl, rfl, List.eq_nil_of_length_eq_zero hl⟩
 ·have e1 := (Value.slice.inj e)
  obtain ⟨rfl, -, rfl⟩ := e1
  refine .inr ⟨g, cur, rfl, hb, hg, hn, by omega, by unfold maxLen at hm; omega, hl, fun j hj => ?_⟩
  have h3 : (cur.toList.take (n * 1))[j]? = vs[j]? := by rw [ht]
  rw [List.getElem?_take, if_pos (by omega)] at h3
  rw [← Array.getElem?_toList, h3]
  simp [List.getD, show j < vs.length by omega]
theorem Inn.blk {v : Value} {xs : List Int} (h : Inn w lo hi v xs) : ∀ k, v.ownBlock = some k → lo ≤ k ∧ k < hi ∧ k < w.heap.size := fun k hk => by
 obtain ⟨A, c, rfl, ho, ht⟩ := h
 have h1 := World.ownsRow.lt ho k hk
 rw [blk_own] at hk
 exact ⟨h1.1, ht k hk, h1.2⟩
theorem Inn.next {v : Value} {xs : List Int} (h : Inn w lo hi v xs) (hb : Below w.heap.size w w') : Inn w' lo hi v xs := by
 obtain ⟨A, c, rfl, ho, ht⟩ := h
 exact ⟨A, c, rfl, ho.next hb, ht⟩
theorem Inn.cap {v : Value} {xs : List Int} (h : Inn w lo hi v xs) : ∃ A c, v = .slice A xs.length c ∧ Own w lo v xs ∧ Cap A xs.length c := by
 obtain ⟨A, c, rfl, ho, ht⟩ := h
 refine ⟨A, c, rfl, ho, ?_⟩
 rcases own_form (n := xs.length) (vs := xs.map (Value.int .i64)) ho with ⟨rfl, h1, rfl, _⟩ | ⟨g, cur, rfl, _, _, h1, h2, h3, _⟩
 ·exact ⟨by omega, by omega, fun _ => rfl⟩
 ·exact ⟨h1, h3, fun e => by cases e⟩
theorem Owns.segs (h : Owns w lo hi A n c xss) : Segs w w.heap.size A n xss := by
 obtain ⟨vs, hr, hi', _⟩ := h.row
 refine ⟨h.len, fun hn => ?_⟩
 rcases own_form hr with ⟨_, e, _⟩ | ⟨g, cur, rfl, _, hrow, _, _, _, _, hc⟩
 ·omega
 ·refine ⟨g, 0, rfl, hrow.lt, fun j hj => ?_⟩
  obtain ⟨A', c', e, ho, hcap⟩ := (hi' j hj).cap
  refine ⟨A', _, c', ?_, Own.seg (by rw [← e]; exact ho), hcap⟩
  rw [Nat.zero_add, hrow.cell j, hc j hj, e]
theorem Owns.rd (h : Owns w lo hi A n c xss) : Segs w w.heap.size A n xss := h.segs
theorem Owns.cap (h : Owns w lo hi A n c xss) : Cap A n c := by
 obtain ⟨vs, hr, _⟩ := h.row
 rcases own_form hr with ⟨rfl, h1, rfl, _⟩ | ⟨g, cur, rfl, _, _, h1, h2, h3, _⟩
 ·exact ⟨by omega, by omega, fun _ => rfl⟩
 ·exact ⟨h1, h3, fun e => by cases e⟩
theorem Owns.next (h : Owns w lo hi A n c xss) (hb : Below w.heap.size w w') : Owns w' lo hi A n c xss := by
 obtain ⟨h1, ⟨vs, hr, hi', ha⟩, h3⟩ := h
 refine ⟨h1, ⟨vs, ?_, fun j hj => (hi' j hj).next hb, ha⟩, h3⟩
 exact World.ownsRow.kept hr ⟨hb.os, hb.tape, hb.output, hb.size, fun k hk _ => hb.block k hk⟩ (row := none) (by cases (Value.slice A n c).ownBlock <;> simp)
theorem Owns.nil (w : World) (lo hi : Nat) : Owns w lo hi none 0 0 [] :=
 ⟨rfl, ⟨[], World.ownsRow_nil w lo 27 1, fun j hj => absurd hj (Nat.not_lt_zero _), fun i j k _ hj => absurd hj (Nat.not_lt_zero _)⟩, fun k hk => by cases hk⟩
end
theorem Inn.ne {w : World} {lo hi g : Nat} {v : Value} {xs : List Int} {cs : Array Value} (h : Inn w lo hi v xs) (hr : Row w g 27 cs) : v.ownBlock ≠ some g := by
 obtain ⟨A, c, rfl, ho, _⟩ := h
 rcases own_form (n := xs.length) ho with ⟨rfl, _⟩ | ⟨g', cur', rfl, _, hrow', _⟩
 ·intro e; cases e
 ·intro e
  have e2 : g' = g := by simpa [Value.ownBlock] using e
  exact Row.ne_ hr hrow' (by decide) e2.symm
end segs
end
section
namespace varsOf
open Go.RowKit base ints sig term termOk marks app sym sub segs varsMath termFacts
set_option maxRecDepth 100000
theorem Seg.pre {w : World} {B n k : Nat} {A : Option Addr} {xs : List Int} (h : Seg w B A n xs) (hk : k ≤ n) : Seg w B A k (xs.take k) := by
 refine ⟨by have := h.1; simp; omega, fun h0 => ?_⟩
 obtain ⟨b, off, e, hb, hc⟩ := h.2 (by omega)
 refine ⟨b, off, e, hb, fun j hj => ?_⟩
 rw [hc j (by omega)]
 simp [List.getD, List.getElem?_take, hj]
end varsOf
end
section
namespace varsOf
open Go.RowKit base
def AnsB (w : World) (b : Bool) (e : Ending) (w' : World) : Prop := e = .returned (.bool b) ∧ Below w.heap.size w w'
theorem ansB {w w' : World} {a b : Bool} (h : a = b) (hb : Below w.heap.size w w') : AnsB w b (.returned (.bool a)) w' := ⟨by rw [h], hb⟩
end varsOf
end
section
namespace varsOf
open Go.RowKit base ints sig term termOk marks app sym sub segs varsMath termFacts
set_option maxRecDepth 100000
end varsOf
end
section
namespace count
open Go.RowKit base ints sig term termOk
def cnt (t : List Int) (x : Int) (k : Nat) : Nat := (t.take k).count x
theorem cnt_le (t : List Int) (x : Int) (k : Nat) : cnt t x k ≤ k := by
 unfold cnt
 exact Nat.le_trans List.count_le_length (List.length_take_le _ _)
theorem cnt_step {t : List Int} {x y : Int} {k : Nat} (hk : k < t.length) (hy : t.getD k 0 = y) : cnt t x (k + 1) = cnt t x k + if y = x then 1 else 0 := by
 unfold cnt
 have e : t.take (k + 1) = t.take k ++ [y] := by
  rw [List.take_succ_eq_append_getElem hk, ← hy]
  simp [List.getD, hk]
 rw [e, List.count_append]
 by_cases h : y = x
 ·simp [h]
 ·simp [h]
def HeadCnt (m : Nat) (t : List Int) (x : Int) (many i : Value) : Prop := ∃ k : Nat, k ≤ m ∧ i = .int .i64 k ∧ many = .int .i64 (cnt t x k)
theorem headCnt_yes {m k : Nat} {t : List Int} {x : Int} (hm : t.length = m) (hk : k < m) (ex : Hid (t.getD k 0 = x)) : HeadCnt m t x (.int .i64 ((cnt t x k : Int) + 1)) (.int .i64 ((k : Int) + 1)) :=
 ⟨k + 1, hk, by simp, by rw [cnt_step (by omega) ex.out]; simp⟩
theorem headCnt_no {m k : Nat} {t : List Int} {x y : Int} (hm : t.length = m) (hk : k < m) (ex : Hid (t.getD k 0 = y)) (h : ¬ y = x) : HeadCnt m t x (.int .i64 (cnt t x k)) (.int .i64 ((k : Int) + 1)) :=
 ⟨k + 1, hk, by simp, by rw [cnt_step (by omega) ex.out, if_neg h]; simp⟩
set_option maxHeartbeats 400000 in
theorem l1Count (A : Option Addr) (m c : Nat) (t : List Int) (x : Int) (w : World) (h : Seg w w.heap.size A m t) (hm : m ≤ 1048576) :
  Calls Try.prog 127 #[.slice A m c, .int .i64 x] w fun e w' => w = w' ∧ e = .returned (.int .i64 (cnt t x t.length)) := by
 have HL := Lib.hid h.1
 go_enter Try.func127, Try.ntmps127
 go_wp2
 go_loop [5, 6] (fun many i => HeadCnt m t x many i) (fun _ i => m - (intOf i).toNat)
 case atStart => exact ⟨0, Nat.zero_le _, rfl, rfl⟩
 case round =>
  obtain ⟨k, hk, rfl, rfl⟩ := hrel
  have hle := cnt_le t x k
  by_cases hlt : k < m
  ·obtain ⟨b, off, y, rfl, -, hy, ey⟩ := h.spot hlt
   by_cases he : y = x
   ·subst he
    have S := Lib.hid (headCnt_yes HL.out hlt ey)
    have e1 : (y == y) = true := by simp
    clear h ey
    generalize cnt t y k = z at *
    go_wp2
    go_round
    case rel => exact S.out
    case measure => simp [intOf]; omega
   ·have S := Lib.hid (headCnt_no HL.out hlt ey he)
    have e1 : (y == x) = false := by simp [he]
    clear h ey
    generalize cnt t x k = z at *
    go_wp2
    go_round
    case rel => exact S.out
    case measure => simp [intOf]; omega
  ·have e : cnt t x k = cnt t x t.length := by rw [HL.out, show k = m by omega]
   have E := Lib.hid e
   clear h e
   generalize cnt t x k = z at *
   go_wp2
   go_ret
   exact ⟨rfl, by rw [← E.out]; rfl⟩
end count
end
section
namespace linear
open Go.RowKit base ints sig term termOk marks sym count varsMath termFacts varsOf
set_option maxRecDepth 100000
def many (t : List Int) (x : Int) : Nat := cnt t x t.length
end linear
end
end Go.Proofs.Ytiimbmkofpnebaa
section
namespace Go.Proofs
open Go.Shelf
end Go.Proofs
end
namespace Go.Proofs.Ytiimbmkofpnebaa
section
namespace sorted
open Go.RowKit base marks app sym appAt segs
set_option maxRecDepth 100000
end sorted
end
section
namespace varsMath
open term termOk sorted
end varsMath
end
end Go.Proofs.Ytiimbmkofpnebaa
section
namespace Go.Proofs.Ytiimbmkofpnebaa.varsOf
open Go.RowKit base ints sig term termOk marks app sym sub segs sorted varsMath termFacts
set_option maxRecDepth 100000
end Go.Proofs.Ytiimbmkofpnebaa.varsOf
namespace Go.Proofs.Ytiimbmkofpnebaa.linear
open Go.RowKit base ints sig term termOk marks sym count varsMath termFacts varsOf
end Go.Proofs.Ytiimbmkofpnebaa.linear
end
namespace Go.Proofs.Ytiimbmkofpnebaa
section
namespace segsHelp
open Go.RowKit base ints sig cursor marks app sym appAt segs
set_option maxRecDepth 100000
end segsHelp
end
section
namespace segsMark
open Go.RowKit base ints sig cursor marks app sym appAt segs segsHelp
set_option maxRecDepth 100000
end segsMark
end
section
namespace kinds
open Go.RowKit base ints sig cursor marks app sym appAt segs segsHelp segsMark
set_option maxRecDepth 100000
def Ownd (w : World) (lo hi : Nat) (A : Option Addr) (n c : Nat) (xs : List Int) : Prop := Own w lo (.slice A n c) xs ∧ ∀ k, blk A = some k → k < hi
section
variable {w w' : World} {lo hi n c : Nat} {A : Option Addr} {xs : List Int}
theorem Ownd.rd (h : Ownd w lo hi A n c xs) : Seg w w.heap.size A n xs := Own.seg h.1
theorem Ownd.next (h : Ownd w lo hi A n c xs) (hb : Below w.heap.size w w') : Ownd w' lo hi A n c xs := ⟨h.1.next hb, h.2⟩
theorem Ownd.of_own (h : Own w lo (.slice A n c) xs) : Ownd w lo w.heap.size A n c xs := ⟨h, fun k hk => (World.ownsRow.lt h k (by rw [blk_own]; exact hk)).2⟩
theorem Ownd.cap (h : Ownd w lo hi A n c xs) : Cap A n c := by
 have hl := Own.len h.1
 rcases own_form (n := n) (vs := xs.map (Value.int .i64)) (by rw [hl]; have := h.1; rw [hl] at this; exact this) with ⟨rfl, h1, rfl, _⟩ | ⟨g, cur, rfl, _, _, h1, h2, h3, _⟩
 ·exact ⟨by omega, by omega, fun _ => rfl⟩
 ·exact ⟨h1, h3, fun e => by cases e⟩
theorem drew_below (w : World) : Below w.heap.size w w.drew := ⟨rfl, rfl, rfl, Nat.le_refl _, fun _ _ => rfl⟩
theorem drewN_below (w : World) (d : Nat) : Below w.heap.size w (w.drewN d) := ⟨rfl, rfl, rfl, Nat.le_refl _, fun _ _ => rfl⟩
end
def CopyInts (w : World) (n : Nat) (xs : List Int) (e : Ending) (w' : World) : Prop := ∃ g, e = .returned (.slice (some ⟨g, 0, none⟩) n n) ∧ Ownd w' w.heap.size w'.heap.size (some ⟨g, 0, none⟩) n n xs ∧ w.heap.size < w'.heap.size ∧ Below w.heap.size w w'
theorem intsTo (A : Option Addr) (n c : Nat) (xs : List Int) (w : World) (h : Seg w w.heap.size A n xs) (hn : n ≤ 1048576) :
  Calls Try.prog 43 #[.slice A n c] w (CopyInts w n xs) :=
 (toInts A n c xs w h hn).mono fun _ _ ⟨cs, he, hr, hs, hc, hz, hb⟩ => ⟨w.heap.size, he, Ownd.of_own (Own.of_row hr h.1 hs (Nat.le_refl _) (by omega) (Nat.le_refl _) hc), by omega, hb⟩
theorem intsEq (A A' : Option Addr) (n n' c c' : Nat) (xs : List Int) (w : World) (h : Seg w w.heap.size A n xs) (h' : Seg w w.heap.size A' n' xs) (hn : n ≤ 1048576) :
  Calls Try.prog 44 #[.slice A n c, .slice A' n' c'] w fun e w' => e = .returned (.bool true) ∧ Below w.heap.size w w' := by
 obtain rfl : n = n' := by rw [← h.1, ← h'.1]
 exact (eqYes A A' n c c' xs w h h' hn).mono fun _ _ ⟨he, d, hd⟩ => ⟨he, by rw [hd]; exact drewN_below _ _⟩
end kinds
end
section
namespace shape
open Go.RowKit base ints sig cursor marks app sym appAt segs segsHelp segsMark kinds
inductive Sh where
 | num : Sh
 | bit : Sh
 | row : TypeId → Sh → Sh
 | cat : Sh → Sh → Sh
@[reducible] def Dat : Sh → Type
 | .num => Int
 | .bit => Bool
 | .row _ s => List (Dat s)
 | .cat a b => Dat a × Dat b
def nc : Sh → Nat
 | .num => 1
 | .bit => 1
 | .row _ _ => 1
 | .cat a b => nc a + nc b
def dft : (s : Sh) → Dat s
 | .num => (0 : Int)
 | .bit => false
 | .row _ _ => []
 | .cat a b => (dft a, dft b)
def Piece (w : World) (b off : Nat) (es : List Value) : Prop := ∀ i, i < es.length → w.cell? ⟨b, off + i, none⟩ = es[i]?
theorem nc_pos : ∀ s : Sh, 1 ≤ nc s
 | .num => Nat.le_refl _
 | .bit => Nat.le_refl _
 | .row _ _ => Nat.le_refl _
 | .cat a b => Nat.le_trans (nc_pos a) (Nat.le_add_right _ _)
def Rd (w : World) (B : Nat) : (s : Sh) → List Value → Dat s → Prop
 | .num, cs, (x : Int) => cs = [.int .i64 x]
 | .bit, cs, (x : Bool) => cs = [.bool x]
 | .row _ s, cs, (d : List (Dat s)) => ∃ A n c, cs = [.slice A n c] ∧ Cap A n c ∧ d.length = n ∧
   (0 < n → ∃ b off, A = some ⟨b, off, none⟩ ∧ b < B ∧ ∀ j, j < n → ∃ es, es.length = nc s ∧ Piece w b (off + j * nc s) es ∧ Rd w B s es (d.getD j (dft s)))
 | .cat a b, cs, d => ∃ ca cb, cs = ca ++ cb ∧ Rd w B a ca d.1 ∧ Rd w B b cb d.2
def Ow (w : World) : (s : Sh) → List Value → Dat s → List Nat → Prop
 | .num, cs, (x : Int), F => cs = [.int .i64 x] ∧ F = []
 | .bit, cs, (x : Bool), F => cs = [.bool x] ∧ F = []
 | .row e s, cs, (d : List (Dat s)), F => ∃ A n c, cs = [.slice A n c] ∧ d.length = n ∧
   ((A = none ∧ n = 0 ∧ c = 0 ∧ F = []) ∨ ∃ (g : Nat) (cur : Array Value) (E : Nat → List Value) (G : Nat → List Nat), A = some ⟨g, 0, none⟩ ∧ Row w g e cur ∧ n ≤ c ∧ c ≤ 9223372036854775807 ∧ cur.size = c * nc s ∧
    F = g :: (List.range n).flatMap G ∧ ∀ j, j < n → (E j).length = nc s ∧ (∀ i, i < nc s → cur[j * nc s + i]? = (E j)[i]?) ∧ Ow w s (E j) (d.getD j (dft s)) (G j))
 | .cat a b, cs, d, F => ∃ ca cb Fa Fb, cs = ca ++ cb ∧ F = Fa ++ Fb ∧ Ow w a ca d.1 Fa ∧ Ow w b cb d.2 Fb
section
variable {w w' : World} {B B' : Nat}
theorem Rd.len : ∀ {s : Sh} {cs : List Value} {d : Dat s}, Rd w B s cs d → cs.length = nc s
 | .num, _, _, h => by have h : _ = _ := h; rw [h]; rfl
 | .bit, _, _, h => by have h : _ = _ := h; rw [h]; rfl
 | .row _ _, _, _, h => by obtain ⟨A, n, c, e, _⟩ := h; rw [e]; rfl
 | .cat a b, _, _, h => by
  obtain ⟨ca, cb, e, h1, h2⟩ := h
  rw [e, List.length_append, h1.len, h2.len]; rfl
theorem Piece.keep {b off : Nat} {es : List Value} (h : Piece w b off es) (hk : ∀ p : Addr, p.block = b → w'.cell? p = w.cell? p) : Piece w' b off es := fun i hi => (hk _ rfl).trans (h i hi)
theorem Rd.keep (hk : ∀ p : Addr, p.block < B → w'.cell? p = w.cell? p) : ∀ {s : Sh} {cs : List Value} {d : Dat s}, Rd w B s cs d → Rd w' B s cs d
 | .num, _, _, h => h
 | .bit, _, _, h => h
 | .row _ s, _, _, h => by
  obtain ⟨A, n, c, e, hc, hl, h1⟩ := h
  refine ⟨A, n, c, e, hc, hl, fun hn => ?_⟩
  obtain ⟨b, off, e2, hb, h2⟩ := h1 hn
  refine ⟨b, off, e2, hb, fun j hj => ?_⟩
  obtain ⟨es, he, hp, hr⟩ := h2 j hj
  exact ⟨es, he, hp.keep (fun p hp => hk p (by rw [hp]; exact hb)), hr.keep hk⟩
 | .cat a b, _, _, h => by
  obtain ⟨ca, cb, e, h1, h2⟩ := h
  exact ⟨ca, cb, e, h1.keep hk, h2.keep hk⟩
theorem Rd.more (hB : B ≤ B') : ∀ {s : Sh} {cs : List Value} {d : Dat s}, Rd w B s cs d → Rd w B' s cs d
 | .num, _, _, h => h
 | .bit, _, _, h => h
 | .row _ s, _, _, h => by
  obtain ⟨A, n, c, e, hc, hl, h1⟩ := h
  refine ⟨A, n, c, e, hc, hl, fun hn => ?_⟩
  obtain ⟨b, off, e2, hb, h2⟩ := h1 hn
  refine ⟨b, off, e2, by omega, fun j hj => ?_⟩
  obtain ⟨es, he, hp, hr⟩ := h2 j hj
  exact ⟨es, he, hp, hr.more hB⟩
 | .cat a b, _, _, h => by
  obtain ⟨ca, cb, e, h1, h2⟩ := h
  exact ⟨ca, cb, e, h1.more hB, h2.more hB⟩
theorem Rd.below {s : Sh} {cs : List Value} {d : Dat s} (h : Rd w B s cs d) (hb : Below B w w') : Rd w' B s cs d := h.keep fun _ hp => hb.cell hp
theorem Rd.next {s : Sh} {cs : List Value} {d : Dat s} (h : Rd w w.heap.size s cs d) (hb : Below w.heap.size w w') : Rd w' w'.heap.size s cs d := (h.below hb).more hb.size
theorem Ow.len : ∀ {s : Sh} {cs : List Value} {d : Dat s} {F : List Nat}, Ow w s cs d F → cs.length = nc s
 | .num, _, _, _, h => by obtain ⟨e, _⟩ := h; rw [e]; rfl
 | .bit, _, _, _, h => by obtain ⟨e, _⟩ := h; rw [e]; rfl
 | .row _ _, _, _, _, h => by obtain ⟨A, n, c, e, _⟩ := h; rw [e]; rfl
 | .cat a b, _, _, _, h => by
  obtain ⟨ca, cb, Fa, Fb, e, _, h1, h2⟩ := h
  rw [e, List.length_append, h1.len, h2.len]; rfl
theorem Ow.keep : ∀ {s : Sh} {cs : List Value} {d : Dat s} {F : List Nat}, Ow w s cs d F → (∀ k ∈ F, w'.heap[k]? = w.heap[k]?) → Ow w' s cs d F
 | .num, _, _, _, h, _ => h
 | .bit, _, _, _, h, _ => h
 | .row e s, _, _, F, h, hk => by
  obtain ⟨A, n, c, e1, hl, h1⟩ := h
  refine ⟨A, n, c, e1, hl, ?_⟩
  rcases h1 with h1 | ⟨g, cur, E, G, e2, hr, h2, h3, h4, h5, h6⟩
  ·exact .inl h1
  ·subst h5
   refine .inr ⟨g, cur, E, G, e2, (hk g (List.mem_cons_self ..)).trans hr, h2, h3, h4, rfl, fun j hj => ?_⟩
   obtain ⟨q1, q2, q3⟩ := h6 j hj
   exact ⟨q1, q2, q3.keep fun k hkG => hk k (List.mem_cons_of_mem _ (List.mem_flatMap.2 ⟨j, List.mem_range.2 hj, hkG⟩))⟩
 | .cat a b, _, _, F, h, hk => by
  obtain ⟨ca, cb, Fa, Fb, e, e2, h1, h2⟩ := h
  subst e2
  exact ⟨ca, cb, Fa, Fb, e, rfl, h1.keep fun k h => hk k (List.mem_append_left _ h), h2.keep fun k h => hk k (List.mem_append_right _ h)⟩
theorem Ow.lt : ∀ {s : Sh} {cs : List Value} {d : Dat s} {F : List Nat}, Ow w s cs d F → ∀ k ∈ F, k < w.heap.size
 | .num, _, _, _, h, k, hk => by obtain ⟨_, e⟩ := h; rw [e] at hk; cases hk
 | .bit, _, _, _, h, k, hk => by obtain ⟨_, e⟩ := h; rw [e] at hk; cases hk
 | .row e s, _, _, F, h, k, hk => by
  obtain ⟨A, n, c, e1, hl, h1⟩ := h
  rcases h1 with ⟨_, _, _, h1⟩ | ⟨g, cur, E, G, e2, hr, h2, h3, h4, h5, h6⟩
  ·rw [h1] at hk; cases hk
  ·rw [h5] at hk
   rcases List.mem_cons.1 hk with hk | hk
   ·rw [hk]; exact hr.lt
   ·obtain ⟨j, hj, hk⟩ := List.mem_flatMap.1 hk
    exact (h6 j (List.mem_range.1 hj)).2.2.lt k hk
 | .cat a b, _, _, F, h, k, hk => by
  obtain ⟨ca, cb, Fa, Fb, e, e2, h1, h2⟩ := h
  rw [e2] at hk
  rcases List.mem_append.1 hk with hk | hk
  ·exact h1.lt k hk
  ·exact h2.lt k hk
theorem Ow.next {s : Sh} {cs : List Value} {d : Dat s} {F : List Nat} (h : Ow w s cs d F) (hb : Below w.heap.size w w') : Ow w' s cs d F := h.keep fun k hk => hb.block k (h.lt k hk)
theorem Ow.rd : ∀ {s : Sh} {cs : List Value} {d : Dat s} {F : List Nat}, Ow w s cs d F → Rd w w.heap.size s cs d
 | .num, _, _, _, h => h.1
 | .bit, _, _, _, h => h.1
 | .row e s, _, _, F, h => by
  obtain ⟨A, n, c, e1, hl, h1⟩ := h
  rcases h1 with ⟨rfl, rfl, rfl, _⟩ | ⟨g, cur, E, G, e2, hr, h2, h3, h4, h5, h6⟩
  ·exact ⟨none, 0, 0, e1, ⟨by omega, by omega, fun _ => rfl⟩, hl, fun h => absurd h (by omega)⟩
  ·refine ⟨A, n, c, e1, ⟨h2, h3, fun e => by rw [e] at e2; cases e2⟩, hl, fun hn => ⟨g, 0, e2, hr.lt, fun j hj => ?_⟩⟩
   obtain ⟨q1, q2, q3⟩ := h6 j hj
   refine ⟨E j, q1, fun i hi => ?_, q3.rd⟩
   rw [Nat.zero_add, hr.cell, q2 i (by omega)]
 | .cat a b, _, _, F, h => by
  obtain ⟨ca, cb, Fa, Fb, e, e2, h1, h2⟩ := h
  exact ⟨ca, cb, e, h1.rd, h2.rd⟩
def Owned (w : World) (lo hi : Nat) (s : Sh) (cs : List Value) (d : Dat s) : Prop := ∃ F, Ow w s cs d F ∧ F.Nodup ∧ ∀ k ∈ F, lo ≤ k ∧ k < hi
variable {lo hi : Nat} {s : Sh} {cs : List Value} {d : Dat s}
theorem Owned.rd (h : Owned w lo hi s cs d) : Rd w w.heap.size s cs d := by obtain ⟨F, h, _⟩ := h; exact h.rd
theorem Owned.next (h : Owned w lo hi s cs d) (hb : Below w.heap.size w w') : Owned w' lo hi s cs d := by obtain ⟨F, h, h2⟩ := h; exact ⟨F, h.next hb, h2⟩
theorem Owned.drew (h : Owned w lo hi s cs d) : Owned w.drew lo hi s cs d := h.next (drew_below w)
theorem Owned.wider {lo' hi' : Nat} (h : Owned w lo hi s cs d) (h1 : lo' ≤ lo) (h2 : hi ≤ hi') : Owned w lo' hi' s cs d := by
 obtain ⟨F, h, h3, h4⟩ := h
 exact ⟨F, h, h3, fun k hk => by have := h4 k hk; omega⟩
theorem Owned.put {g i : Nat} {u : Value} (h : Owned w lo hi s cs d) (hg : g < lo ∨ hi ≤ g) : Owned (w.setCell ⟨g, i, none⟩ u) lo hi s cs d := by
 obtain ⟨F, h, h3, h4⟩ := h
 exact ⟨F, h.keep fun k hk => Below.heap_setCell w _ u k (by have := h4 k hk; show k ≠ g; omega), h3, h4⟩
theorem Owned.cat {mid mid' : Nat} {a b : Sh} {ca cb : List Value} {da : Dat a} {db : Dat b} (h1 : Owned w lo mid a ca da) (h2 : Owned w mid' hi b cb db) (hm : mid ≤ mid') (hl : lo ≤ mid') (hh : mid ≤ hi) : Owned w lo hi (.cat a b) (ca ++ cb) (da, db) := by
 obtain ⟨F, h1, n1, b1⟩ := h1
 obtain ⟨G, h2, n2, b2⟩ := h2
 refine ⟨F ++ G, ⟨ca, cb, F, G, rfl, rfl, h1, h2⟩, List.nodup_append.2 ⟨n1, n2, fun x hx y hy e => ?_⟩, fun k hk => ?_⟩
 ·have := b1 x hx; have := b2 y hy; omega
 ·rcases List.mem_append.1 hk with hk | hk
  ·have := b1 k hk; omega
  ·have := b2 k hk; omega
end
abbrev sI : Sh := .row 2 .num
section
variable {w w' : World} {B : Nat}
theorem rd_ints {v : Value} {xs : List Int} : Rd w B sI [v] xs ↔ ∃ A n c, v = .slice A n c ∧ Seg w B A n xs ∧ Cap A n c := by
 constructor
 ·rintro ⟨A, n, c, e, hc, hl, h⟩
  refine ⟨A, n, c, by injection e, ⟨hl, fun hn => ?_⟩, hc⟩
  obtain ⟨b, off, e2, hb, h2⟩ := h hn
  refine ⟨b, off, e2, hb, fun j hj => ?_⟩
  obtain ⟨es, he, hp, hr⟩ := h2 j hj
  have hr : es = [.int .i64 (xs.getD j 0)] := hr
  have := hp 0 (by rw [hr]; simp)
  rw [hr] at this
  simpa [nc] using this
 ·rintro ⟨A, n, c, rfl, h, hc⟩
  refine ⟨A, n, c, rfl, hc, h.1, fun hn => ?_⟩
  obtain ⟨b, off, e2, hb, h2⟩ := h.2 hn
  refine ⟨b, off, e2, hb, fun j hj => ⟨[.int .i64 (xs.getD j 0)], rfl, fun i hi => ?_, rfl⟩⟩
  have hi : i = 0 := by simpa using hi
  subst hi
  first | (simp [nc]; done) | (simpa [nc] using h2 j hj)
theorem Rd.seg {A : Option Addr} {n c : Nat} {xs : List Int} (h : Rd w B sI [.slice A n c] xs) : Seg w B A n xs := by
 obtain ⟨A', n', c', e, h, _⟩ := rd_ints.1 h
 injection e with e1 e2 e3
 subst e1 e2
 exact h
theorem ow_ints {lo hi : Nat} {A : Option Addr} {n c : Nat} {xs : List Int} : Owned w lo hi sI [.slice A n c] xs ↔ Ownd w lo hi A n c xs := by
 constructor
 ·rintro ⟨F, ⟨A', n', c', e, hl, h⟩, _, hb⟩
  injection e with e
  injection e with e1 e2 e3
  subst e1 e2 e3
  rcases h with ⟨rfl, rfl, rfl, rfl⟩ | ⟨g, cur, E, G, rfl, hr, h2, h3, h4, rfl, h6⟩
  ·have hx : xs = [] := List.eq_nil_of_length_eq_zero hl
   subst hx
   exact ⟨Own.nil _ _, fun k hk => by cases hk⟩
  ·have hg := hb g (List.mem_cons_self ..)
   refine ⟨Own.of_row hr hl (by simpa [nc] using h4) h2 h3 hg.1 fun j hj => ?_, fun k hk => by have : g = k := Option.some.inj hk; omega⟩
   obtain ⟨q1, q2, q3⟩ := h6 j hj
   have q3 : E j = [.int .i64 (xs.getD j 0)] := q3.1
   have := q2 0 (by simp [nc])
   rw [q3] at this
   simpa [nc] using this
 ·rintro ⟨ho, hb⟩
  have hl := Own.len ho
  rcases own_form (n := n) (vs := xs.map (Value.int .i64)) (by rw [hl]; rw [hl] at ho; exact ho) with ⟨rfl, h1, rfl, _⟩ | ⟨g, cur, rfl, hlo, hr, h1, h2, h3, _, h5⟩
  ·subst h1
   exact ⟨[], ⟨none, 0, 0, rfl, hl.symm, .inl ⟨rfl, rfl, rfl, rfl⟩⟩, List.nodup_nil, fun k hk => by cases hk⟩
  ·have hg := hb g rfl
   refine ⟨[g], ⟨some ⟨g, 0, none⟩, n, c, rfl, hl.symm, .inr ⟨g, cur, fun j => [.int .i64 (xs.getD j 0)], fun _ => [], rfl, hr, h1, h3, by simp [nc, h2], ?_, fun j hj => ⟨rfl, fun i hi => ?_, rfl, rfl⟩⟩⟩, by simp, fun k hk => ?_⟩
   ·have : ∀ l : List Nat, l.flatMap (fun _ => ([] : List Nat)) = [] := fun l => by induction l <;> simp_all
    rw [this]
   ·have hi : i = 0 := by simpa [nc] using hi
    subst hi
    have := h5 j hj
    simp only [nc, Nat.mul_one, Nat.add_zero]
    rw [this]
    have hj' : j < xs.length := by omega
    simp [List.getD, hj']
   ·rw [List.mem_singleton.1 hk]; exact ⟨hlo, hg⟩
end
def sz : (s : Sh) → Dat s → Nat
 | .num, _ => 0
 | .bit, _ => 0
 | .row _ s, (d : List (Dat s)) => d.length + (d.map (sz s)).sum
 | .cat a b, d => sz a d.1 + sz b d.2
def szs (s : Sh) (d : List (Dat s)) (k : Nat) : Nat := ((d.take k).map (sz s)).sum
theorem szs_succ {s : Sh} {d : List (Dat s)} {k : Nat} (h : k < d.length) : szs s d (k + 1) = szs s d k + sz s (d.getD k (dft s)) := by
 unfold szs
 rw [List.take_succ_eq_append_getElem h, List.map_append, List.sum_append]
 simp [List.getD, h]
theorem szs_mono {s : Sh} {d : List (Dat s)} : ∀ {k m : Nat}, k ≤ m → m ≤ d.length → szs s d k ≤ szs s d m
 | k, 0, h, _ => by rw [show k = 0 by omega]; exact Nat.le_refl _
 | k, m + 1, h, hm => by
  by_cases e : k = m + 1
  ·rw [e]; exact Nat.le_refl _
  ·have := szs_mono (d := d) (show k ≤ m by omega) (by omega)
   rw [szs_succ (by omega)]
   omega
theorem szs_all {s : Sh} {d : List (Dat s)} {n : Nat} (h : d.length = n) : szs s d n = (d.map (sz s)).sum := by unfold szs; rw [List.take_of_length_le (by omega)]
theorem sz_row {e : TypeId} {s : Sh} {d : List (Dat s)} : sz (.row e s) d = d.length + szs s d d.length := by rw [szs_all rfl]; rfl
theorem sz_each {e : TypeId} {s : Sh} {d : List (Dat s)} {L : Nat} (h : sz (.row e s) d ≤ L) {j : Nat} (hj : j < d.length) : sz s (d.getD j (dft s)) ≤ L := by
 have h1 := szs_succ hj
 have h2 := szs_mono (d := d) (show j + 1 ≤ d.length by omega) (Nat.le_refl _)
 rw [sz_row] at h
 omega
theorem sz_len {e : TypeId} {s : Sh} {d : List (Dat s)} {L : Nat} (h : sz (.row e s) d ≤ L) : d.length ≤ L := by rw [sz_row] at h; omega
theorem sz_ints (xs : List Int) : sz sI xs = xs.length := by
 have : ∀ l : List Int, (l.map (sz .num)).sum = 0 := fun l => by induction l <;> simp_all [sz]
 show xs.length + (xs.map (sz .num)).sum = _
 rw [this]; rfl
def cnt : (s : Sh) → Dat s → Nat
 | .num, _ => 1
 | .bit, _ => 1
 | .row _ s, (d : List (Dat s)) => (d.map (cnt s)).sum
 | .cat a b, d => cnt a d.1 + cnt b d.2
def wd : Sh → Nat
 | .num => 1
 | .bit => 1
 | .row _ s => wd s
 | .cat a b => wd a + wd b
theorem sum_le {α : Type} {f g : α → Nat} {C : Nat} : ∀ {l : List α}, (∀ x ∈ l, f x ≤ C * (1 + g x)) → (l.map f).sum ≤ C * (l.length + (l.map g).sum)
 | [], _ => Nat.zero_le _
 | x :: l, h => by
  have h1 := h x (List.mem_cons_self ..)
  have h2 := sum_le (l := l) fun y hy => h y (List.mem_cons_of_mem _ hy)
  simp only [List.map_cons, List.sum_cons, List.length_cons]
  have e : C * (l.length + 1 + (g x + (l.map g).sum)) = C * (1 + g x) + C * (l.length + (l.map g).sum) := by rw [← Nat.mul_add]; congr 1; omega
  omega
theorem cnt_le : ∀ (s : Sh) (d : Dat s), cnt s d ≤ wd s * (1 + sz s d)
 | .num, _ => by simp [cnt, wd]
 | .bit, _ => by simp [cnt, wd]
 | .row _ s, (d : List (Dat s)) => by
  have h := sum_le (f := cnt s) (g := sz s) (C := wd s) (l := d) fun x _ => cnt_le s x
  show (d.map (cnt s)).sum ≤ wd s * (1 + (d.length + (d.map (sz s)).sum))
  have : wd s * (d.length + (d.map (sz s)).sum) ≤ wd s * (1 + (d.length + (d.map (sz s)).sum)) := Nat.mul_le_mul_left _ (by omega)
  omega
 | .cat a b, d => by
  have h1 := cnt_le a d.1
  have h2 := cnt_le b d.2
  show cnt a d.1 + cnt b d.2 ≤ (wd a + wd b) * (1 + (sz a d.1 + sz b d.2))
  have h3 : wd a * (1 + sz a d.1) ≤ wd a * (1 + (sz a d.1 + sz b d.2)) := Nat.mul_le_mul_left _ (by omega)
  have h4 : wd b * (1 + sz b d.2) ≤ wd b * (1 + (sz a d.1 + sz b d.2)) := Nat.mul_le_mul_left _ (by omega)
  rw [Nat.add_mul]
  omega
end shape
end
section
namespace shape
open Go.RowKit base ints sig cursor marks app sym appAt segs segsHelp segsMark kinds
structure Only (F : List Nat) (w w' : World) : Prop where
 os : w'.os = w.os
 tape : w'.tape = w.tape
 output : w'.output = w.output
 size : w.heap.size ≤ w'.heap.size
 block : ∀ k, k < w.heap.size → k ∉ F → w'.heap[k]? = w.heap[k]?
section
variable {w w' w2 : World} {B : Nat} {s : Sh} {e : TypeId} {v : Value} {F G : List Nat}
theorem Ow.only {cs : List Value} {d : Dat s} (h : Ow w s cs d F) (ho : Only G w w') (hd : ∀ k ∈ F, k ∉ G) : Ow w' s cs d F := h.keep fun k hk => ho.block k (h.lt k hk) (hd k hk)
theorem Rd.elem {D : List (Dat s)} {j : Nat} (h : Rd w B (.row e s) [v] D) (hj : j < D.length) : ∃ b off n c es, v = .slice (some ⟨b, off, none⟩) n c ∧ D.length = n ∧ n ≤ c ∧ b < B ∧ es.length = nc s ∧ Piece w b (off + j * nc s) es ∧ Rd w B s es (D.getD j (dft s)) := by
 obtain ⟨A, n, c, e1, hc, hl, h1⟩ := h
 injection e1 with e1
 subst hl
 obtain ⟨b, off, e2, hb, h2⟩ := h1 (by omega)
 obtain ⟨es, he, hp, hr⟩ := h2 j hj
 exact ⟨b, off, _, c, es, by rw [e1, e2], rfl, hc.1, hb, he, hp, hr⟩
theorem Rd.slice {D : List (Dat s)} (h : Rd w B (.row e s) [v] D) : ∃ A c, v = .slice A D.length c ∧ Cap A D.length c := by
 obtain ⟨A, n, c, e1, hc, hl, h1⟩ := h
 injection e1 with e1
 subst hl
 exact ⟨A, c, e1, hc⟩
def Copy1 (w : World) (s : Sh) (d : Dat s) (e : Ending) (w' : World) : Prop := ∃ A n c, e = .returned (.slice A n c) ∧ Owned w' w.heap.size w'.heap.size s [.slice A n c] d ∧ Below w.heap.size w w'
def AnsSzK (w : World) (left : Int) (t : Nat) (e : Ending) (w' : World) : Prop := e = .returned (.int .i64 (if left - t < 0 then -1 else left - t)) ∧ Below w.heap.size w w'
def Yes (w : World) (e : Ending) (w' : World) : Prop := e = .returned (.bool true) ∧ Below w.heap.size w w'
theorem szK_ints (v : Value) (xs : List Int) (left : Int) (w : World) (h : Rd w w.heap.size sI [v] xs) (h0 : 0 ≤ left) (h1 : left ≤ 1048576) :
  Calls Try.prog 83 #[v, .int .i64 left] w (AnsSzK w left (sz sI xs)) := by
 obtain ⟨A, n, c, rfl, hs, hc⟩ := rd_ints.1 h
 rw [sz_ints, hs.1]
 exact (szInts A n c left w (Nat.le_trans hc.1 hc.2.1) h0 h1).mono fun _ _ ⟨e1, e2⟩ => ⟨e2, e1 ▸ Below.refl _ _⟩
theorem toK_ints (v : Value) (xs : List Int) (w : World) (h : Rd w w.heap.size sI [v] xs) (hz : sz sI xs ≤ 1048576) :
  Calls Try.prog 43 #[v] w (Copy1 w sI xs) := by
 obtain ⟨A, n, c, rfl, hs, hc⟩ := rd_ints.1 h
 rw [sz_ints, hs.1] at hz
 exact (intsTo A n c xs w hs hz).mono fun _ _ ⟨g, e, ho, _, hb⟩ => ⟨_, _, _, e, ow_ints.2 ho, hb⟩
theorem eqK_ints (v v' : Value) (xs : List Int) (w : World) (h : Rd w w.heap.size sI [v] xs) (h' : Rd w w.heap.size sI [v'] xs) (hz : sz sI xs ≤ 1048576) :
  Calls Try.prog 44 #[v, v'] w (Yes w) := by
 obtain ⟨A, n, c, rfl, hs, hc⟩ := rd_ints.1 h
 obtain ⟨A', n', c', rfl, hs', hc'⟩ := rd_ints.1 h'
 rw [sz_ints, hs.1] at hz
 exact intsEq A A' n n' c c' xs w hs hs' hz
end
section
variable {s : Sh} {e : TypeId}
def HeadCp (w : World) (e : TypeId) (s : Sh) (n : Nat) (D : List (Dat s)) (i : Value) (wr : World) : Prop :=
 ∃ (k : Nat) (cs : Array Value) (E : Nat → List Value) (G : Nat → List Nat), k ≤ n ∧ i = .int .i64 k ∧ Row wr w.heap.size e cs ∧ cs.size = n * nc s ∧ ((List.range k).flatMap G).Nodup ∧
  (∀ j, j < k → (E j).length = nc s ∧ (∀ i, i < nc s → cs[j * nc s + i]? = (E j)[i]?) ∧ Ow wr s (E j) (D.getD j (dft s)) (G j) ∧ ∀ q ∈ G j, w.heap.size < q) ∧ Below w.heap.size w wr
theorem headCp_zero {w : World} {n : Nat} {D : List (Dat s)} {cs : Array Value} (hs : cs.size = n * nc s) : HeadCp w e s n D (.int .i64 0) (w.alloc (.cells cs e)) :=
 ⟨0, cs, fun _ => [], fun _ => [], Nat.zero_le _, rfl, Row.new _ _ _, hs, by simp, fun j hj => absurd hj (Nat.not_lt_zero _), (Below.refl _ _).alloc (Nat.le_refl _) _⟩
def putAll (w : World) (g : Nat) : Nat → List Value → World
 | _, [] => w
 | off, u :: r => putAll (w.setCell ⟨g, off, none⟩ u) g (off + 1) r
def rowPut (cs : Array Value) : Nat → List Value → Array Value
 | _, [] => cs
 | off, u :: r => rowPut (cs.setIfInBounds off u) (off + 1) r
theorem rowPut_size : ∀ {es : List Value} {cs : Array Value} {off : Nat}, (rowPut cs off es).size = cs.size
 | [], _, _ => rfl
 | u :: r, cs, off => by rw [rowPut, rowPut_size]; simp
theorem rowPut_get : ∀ {es : List Value} {cs : Array Value} {off q : Nat}, off + es.length ≤ cs.size → (rowPut cs off es)[q]? = if off ≤ q ∧ q < off + es.length then es[q - off]? else cs[q]?
 | [], cs, off, q, _ => by rw [rowPut, if_neg (by simp only [List.length_nil]; omega)]
 | u :: r, cs, off, q, h => by
  simp only [List.length_cons] at h
  rw [rowPut, rowPut_get (by simp; omega)]
  simp only [List.length_cons]
  by_cases e1 : q = off
  ·subst e1
   rw [if_neg (by omega), if_pos (by omega), Array.getElem?_setIfInBounds, if_pos rfl, if_pos (by omega)]
   simp
  ·by_cases e2 : off ≤ q ∧ q < off + (r.length + 1)
   ·rw [if_pos (by omega), if_pos e2]
    obtain ⟨m, rfl⟩ : ∃ m, q = off + 1 + m := ⟨q - off - 1, by omega⟩
    rw [show off + 1 + m - (off + 1) = m by omega, show off + 1 + m - off = m + 1 by omega, List.getElem?_cons_succ]
   ·rw [if_neg (by omega), if_neg e2, Array.getElem?_setIfInBounds, if_neg (by omega)]
theorem putAll_row {g : Nat} {t : TypeId} : ∀ {es : List Value} {w : World} {cs : Array Value} {off : Nat}, Row w g t cs → Row (putAll w g off es) g t (rowPut cs off es)
 | [], _, _, _, h => h
 | u :: r, w, cs, off, h => by rw [putAll, rowPut]; exact putAll_row (h.put off u)
theorem putAll_keep {g : Nat} : ∀ {es : List Value} {w : World} {off : Nat} {k : Nat}, k ≠ g → (putAll w g off es).heap[k]? = w.heap[k]?
 | [], _, _, _, _ => rfl
 | u :: r, w, off, k, h => by rw [putAll, putAll_keep h]; exact Below.heap_setCell w _ u k h
theorem putAll_below {g B : Nat} {a : World} : ∀ {es : List Value} {w : World} {off : Nat}, Below B a w → B ≤ g → Below B a (putAll w g off es)
 | [], _, _, h, _ => h
 | u :: r, w, off, h, hg => by rw [putAll]; exact putAll_below (h.setCell hg u) hg
theorem headCp_step {w wr w1 : World} {n k : Nat} {D : List (Dat s)} {cs : Array Value} {E : Nat → List Value} {G : Nat → List Nat} (hk : k < n) (hr : Row wr w.heap.size e cs) (hs : cs.size = n * nc s) (hn : ((List.range k).flatMap G).Nodup)
  (hi : ∀ j, j < k → (E j).length = nc s ∧ (∀ i, i < nc s → cs[j * nc s + i]? = (E j)[i]?) ∧ Ow wr s (E j) (D.getD j (dft s)) (G j) ∧ ∀ q ∈ G j, w.heap.size < q) (hb : Below w.heap.size w wr)
  {es : List Value} (ho : Owned w1 wr.heap.size w1.heap.size s es (D.getD k (dft s))) (bb : Below wr.heap.size wr w1) : HeadCp w e s n D (.int .i64 ((k : Int) + 1)) (putAll w1 w.heap.size (k * nc s) es) := by
 obtain ⟨F, ho, hnF, hF⟩ := ho
 have hz := hr.lt
 have hle : k * nc s + nc s ≤ cs.size := by
  have := Nat.mul_le_mul_right (nc s) (show k + 1 ≤ n by omega)
  rw [Nat.add_mul] at this
  omega
 have hel := ho.len
 have hfr : ∀ j, j < k → ∀ q ∈ G j, q < wr.heap.size := fun j hj => (hi j hj).2.2.1.lt
 refine ⟨k + 1, _, fun j => if j = k then es else E j, fun j => if j = k then F else G j, hk, by simp, putAll_row (hr.next bb), by rw [rowPut_size]; exact hs, ?_, fun j hj => ?_, putAll_below (hb.trans (bb.mono hb.size)) (Nat.le_refl _)⟩
 ·rw [List.range_succ, List.flatMap_append]
  have e1 : (List.range k).flatMap (fun j => if j = k then F else G j) = (List.range k).flatMap G := by
   rw [List.flatMap_def, List.flatMap_def]
   congr 1
   exact List.map_congr_left fun j hj => if_neg (by have := List.mem_range.1 hj; omega)
  rw [e1]
  refine List.nodup_append.2 ⟨hn, by simpa using hnF, fun x hx y hy e => ?_⟩
  obtain ⟨j, hj, hx⟩ := List.mem_flatMap.1 hx
  have h1 := hfr j (List.mem_range.1 hj) x hx
  have h2 := hF y (by simpa using hy)
  omega
 ·by_cases ej : j = k
  ·subst ej
   simp only [if_pos]
   refine ⟨hel, fun i hi2 => ?_, ho.keep fun q hq => putAll_keep (by have := hF q hq; omega), fun q hq => by have := hF q hq; omega⟩
   rw [rowPut_get (by omega), if_pos (by omega)]
   congr 1
   omega
  ·simp only [if_neg ej]
   obtain ⟨q1, q2, q3, q4⟩ := hi j (by omega)
   refine ⟨q1, fun i hi2 => ?_, (q3.next bb).keep fun q hq => putAll_keep (by have := q4 q hq; omega), q4⟩
   rw [rowPut_get (by omega), if_neg ?_]
   ·exact q2 i hi2
   ·have := Nat.mul_le_mul_right (nc s) (show j + 1 ≤ k by omega)
    rw [Nat.add_mul] at this
    omega
theorem headCp_end {w wr : World} {n : Nat} {D : List (Dat s)} {cs : Array Value} {E : Nat → List Value} {G : Nat → List Nat} (hl : D.length = n) (hm : n ≤ 1048576) (hr : Row wr w.heap.size e cs) (hs : cs.size = n * nc s) (hn : ((List.range n).flatMap G).Nodup)
  (hi : ∀ j, j < n → (E j).length = nc s ∧ (∀ i, i < nc s → cs[j * nc s + i]? = (E j)[i]?) ∧ Ow wr s (E j) (D.getD j (dft s)) (G j) ∧ ∀ q ∈ G j, w.heap.size < q) (hb : Below w.heap.size w wr) :
  Copy1 w (.row e s) D (.returned (.slice (some ⟨w.heap.size, 0, none⟩) n n)) wr := by
 refine ⟨_, _, _, rfl, ⟨w.heap.size :: (List.range n).flatMap G, ⟨_, n, n, rfl, hl, .inr ⟨w.heap.size, cs, E, G, rfl, hr, Nat.le_refl _, by omega, hs, rfl, fun j hj => ⟨(hi j hj).1, (hi j hj).2.1, (hi j hj).2.2.1⟩⟩⟩, List.nodup_cons.2 ⟨fun h => ?_, hn⟩, fun k hk => ?_⟩, hb⟩
 ·obtain ⟨j, hj, h⟩ := List.mem_flatMap.1 h
  have := (hi j (List.mem_range.1 hj)).2.2.2 _ h
  omega
 ·rcases List.mem_cons.1 hk with hk | hk
  ·rw [hk]; exact ⟨Nat.le_refl _, hr.lt⟩
  ·obtain ⟨j, hj, h⟩ := List.mem_flatMap.1 hk
   have h1 := (hi j (List.mem_range.1 hj)).2.2.2 _ h
   have h2 := (hi j (List.mem_range.1 hj)).2.2.1.lt _ h
   omega
end
theorem Rd.split {w : World} {B : Nat} {a b : Sh} {ca cb : List Value} {d : Dat (.cat a b)} (h : Rd w B (.cat a b) (ca ++ cb) d) (hl : ca.length = nc a) : Rd w B a ca d.1 ∧ Rd w B b cb d.2 := by
 obtain ⟨ca', cb', e, h1, h2⟩ := h
 obtain ⟨rfl, rfl⟩ := List.append_inj e (by rw [hl, h1.len])
 exact ⟨h1, h2⟩
theorem Ow.split {w : World} {a b : Sh} {ca cb : List Value} {d : Dat (.cat a b)} {F : List Nat} (h : Ow w (.cat a b) (ca ++ cb) d F) (hl : ca.length = nc a) : ∃ Fa Fb, F = Fa ++ Fb ∧ Ow w a ca d.1 Fa ∧ Ow w b cb d.2 Fb := by
 obtain ⟨ca', cb', Fa, Fb, e, e2, h1, h2⟩ := h
 obtain ⟨rfl, rfl⟩ := List.append_inj e (by rw [hl, h1.len])
 exact ⟨Fa, Fb, e2, h1, h2⟩
theorem Row.only {w w' : World} {g : Nat} {t : TypeId} {cs : Array Value} {F : List Nat} (h : Row w g t cs) (ho : Only F w w') (hg : g ∉ F) : Row w' g t cs := (ho.block g h.lt hg).trans h
section
variable {s : Sh} {e : TypeId}
def HeadSzK (w : World) (n : Nat) (s : Sh) (D : List (Dat s)) (left : Int) (l i : Value) (wr : World) : Prop := ∃ k : Nat, k ≤ n ∧ i = .int .i64 k ∧ l = .int .i64 (left - n - szs s D k) ∧ 0 ≤ left - n - szs s D k ∧ Below w.heap.size w wr
theorem headSzK_zero {w : World} {n : Nat} {D : List (Dat s)} {left : Int} (h : 0 ≤ left - n) : HeadSzK w n s D left (.int .i64 (left - n)) (.int .i64 0) w := ⟨0, Nat.zero_le _, rfl, by simp [szs], by simp [szs]; omega, Below.refl _ _⟩
theorem headSzK_bad {n k t : Nat} {D : List (Dat s)} {left : Int} (hn : D.length = n) (hk : k < n) (hs : szs s D (k + 1) = szs s D k + t) (q : left - n - szs s D k - t < 0) : Ending.returned (.int .i64 (-1)) = .returned (.int .i64 (if left - (sz (.row e s) D : Nat) < 0 then -1 else left - (sz (.row e s) D : Nat))) := by
 have h2 := szs_mono (d := D) (show k + 1 ≤ D.length by omega) (Nat.le_refl _)
 rw [if_pos (by rw [sz_row]; omega)]
theorem headSzK_step {w w1 : World} {n k t : Nat} {D : List (Dat s)} {left l : Int} (hk : k < n) (hs : szs s D (k + 1) = szs s D k + t) (hl : left - n - szs s D k = l) (q : ¬ l - t < 0) (hb : Below w.heap.size w w1) : HeadSzK w n s D left (.int .i64 (l - t)) (.int .i64 ((k : Int) + 1)) w1 :=
 ⟨k + 1, hk, by simp, by rw [hs, ← hl]; exact congrArg (Value.int .i64) (by omega), by rw [hs]; omega, hb⟩
theorem headSzK_end {w wr : World} {n k : Nat} {D : List (Dat s)} {left : Int} (hn : D.length = n) (hk : ¬ k < n) (hk' : k ≤ n) (h : 0 ≤ left - n - szs s D k) (hb : Below w.heap.size w wr) : AnsSzK w left (sz (.row e s) D) (.returned (.int .i64 (left - n - szs s D k))) wr := by
 have e1 : k = n := by omega
 subst e1
 have e2 : (left - (sz (.row e s) D : Nat) : Int) = left - k - szs s D k := by rw [sz_row, hn]; omega
 exact ⟨by rw [e2, if_neg (by omega)], hb⟩
end
structure CpS (w : World) (tL tI : TypeId) (cs zs part : Array Value) (wr : World) : Prop where
 box : Row wr w.heap.size tL cs
 res : Row wr (w.heap.size + 1) tI zs
 cur : Row wr (w.heap.size + 1 + 1) tI part
 bel : Below w.heap.size w wr
 size : w.heap.size + 1 + 1 + 1 ≤ wr.heap.size
section
variable {w wr w1 : World} {tL tI : TypeId} {cs zs part : Array Value}
theorem CpS.zero (w : World) (tL tI : TypeId) (cs zs : Array Value) : CpS w tL tI cs zs zs (((w.alloc (.cells cs tL)).alloc (.cells zs tI)).alloc (.cells zs tI)) where
 box := by have := ((Row.new w tL cs).alloc (.cells zs tI)).alloc (.cells zs tI); simpa using this
 res := by have := (Row.new (w.alloc (.cells cs tL)) tI zs).alloc (.cells zs tI); simpa using this
 cur := by have := Row.new ((w.alloc (.cells cs tL)).alloc (.cells zs tI)) tI zs; simpa using this
 bel := (((Below.refl _ _).alloc (Nat.le_refl _) _).alloc (by simp) _).alloc (by simp; omega) _
 size := by simp
theorem CpS.next (h : CpS w tL tI cs zs part wr) (bb : Below wr.heap.size wr w1) : CpS w tL tI cs zs part w1 :=
 ⟨h.box.next bb, h.res.next bb, h.cur.next bb, h.bel.trans (bb.mono h.bel.size), Nat.le_trans h.size bb.size⟩
theorem CpS.put (h : CpS w tL tI cs zs part wr) (i : Nat) (u : Value) : CpS w tL tI cs zs (part.setIfInBounds i u) (wr.setCell ⟨w.heap.size + 1 + 1, i, none⟩ u) :=
 ⟨h.box.far (by show _ ≠ w.heap.size + 1 + 1; omega) _, h.res.far (by show _ ≠ w.heap.size + 1 + 1; omega) _, h.cur.put i u, h.bel.setCell (by show _ ≤ w.heap.size + 1 + 1; omega) _, by simpa using h.size⟩
theorem CpS.fin (h : CpS w tL tI cs zs part wr) (i : Nat) (u : Value) : CpS w tL tI cs (zs.setIfInBounds i u) part (wr.setCell ⟨w.heap.size + 1, i, none⟩ u) :=
 ⟨h.box.far (by show _ ≠ w.heap.size + 1; omega) _, h.res.put i u, h.cur.far (by show _ ≠ w.heap.size + 1; omega) _, h.bel.setCell (by show _ ≤ w.heap.size + 1; omega) _, by simpa using h.size⟩
end
end shape
end
end Go.Proofs.Ytiimbmkofpnebaa
