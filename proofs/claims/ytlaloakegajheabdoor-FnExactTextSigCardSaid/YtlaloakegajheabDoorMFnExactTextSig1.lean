/-
  MERGED: my texts Base, Open, Ints, Sig, Term, Arity, Cursor, Marks, Append, AnsB, ShelfS, Text, TextL, End, TermOk, List, AppAt, Segs, SegsHelp, SegsMark, Kinds, Shape, Shape2, KindsR, SigText, SplitMath, SplitSpec, one behind the other, as they are. By an AI agent.
-/
import Derived.WalkKit
import Derived.Lib.Hide
import Derived.Deep.Draws
import Derived.ProofKit
import Derived.OpenShut
import Derived.Lib.SmallJoins
import Derived.Test.YtlaloakegajheabDoorRows
import Derived.Deep.QuietTactic
import Derived.BigQuiet
import Derived.Deep.RegionHeld3
import Derived.Deep.AppendLies
import Derived.Laws.AppendOwnNone
import Derived.Shelf.Strings.OnBuilder
import Derived.Shelf.Strconv.Itoa4
import Derived.Test.YtlaloakegajheabDoorProg
import Derived.Laws.Concat
import Derived.Lib.SlBytesRow
import Derived.Maps.AppendAt
namespace Go.Proofs.YtlaloakegajheabDoor
section
namespace base
open Go.RowKit
def Seg (w : World) (B : Nat) (A : Option Addr) (n : Nat) (xs : List Int) : Prop :=
 xs.length = n ∧ (0 < n → ∃ b off, A = some ⟨b, off, none⟩ ∧ b < B ∧ ∀ j, j < n → w.cell? ⟨b, off + j, none⟩ = some (.int .i64 (xs.getD j 0)))
def Row (w : World) (g : Nat) (t : TypeId) (cs : Array Value) : Prop := w.heap[g]? = some (.cells cs t (0, 0))
section
variable {w w' : World} {B B' n : Nat} {A : Option Addr} {xs : List Int}
theorem Seg.empty : Seg w B A 0 [] := ⟨rfl, fun h => absurd h (by omega)⟩
theorem Seg.round (h : Seg w B A n xs) {k : Nat} (hk : k < n) : ∃ b off, A = some ⟨b, off, none⟩ ∧ b < B ∧ w.cell? ⟨b, off + k, none⟩ = some (.int .i64 (xs.getD k 0)) := by
 obtain ⟨b, off, e, hb, hc⟩ := h.2 (by omega)
 exact ⟨b, off, e, hb, hc k hk⟩
theorem Seg.spot (h : Seg w B A n xs) {k : Nat} (hk : k < n) : ∃ b off x, A = some ⟨b, off, none⟩ ∧ b < B ∧ w.cell? ⟨b, off + k, none⟩ = some (.int .i64 x) ∧ Hid (xs.getD k 0 = x) := by
 obtain ⟨b, off, e, hb, hc⟩ := h.2 (by omega)
 exact ⟨b, off, _, e, hb, hc k hk, Lib.hid rfl⟩
theorem Seg.keep (h : Seg w B A n xs) (hk : ∀ p : Addr, p.block < B → w'.cell? p = w.cell? p) : Seg w' B A n xs :=
 ⟨h.1, fun hn => by
  obtain ⟨b, off, e, hb, hc⟩ := h.2 hn
  exact ⟨b, off, e, hb, fun j hj => (hk ⟨b, off + j, none⟩ hb).trans (hc j hj)⟩⟩
theorem Seg.more (h : Seg w B A n xs) (hB : B ≤ B') : Seg w B' A n xs :=
 ⟨h.1, fun hn => by
  obtain ⟨b, off, e, hb, hc⟩ := h.2 hn
  exact ⟨b, off, e, by omega, hc⟩⟩
theorem Seg.below (h : Seg w B A n xs) (hb : Below B w w') : Seg w' B A n xs := h.keep fun _ hp => hb.cell hp
theorem Seg.next (h : Seg w w.heap.size A n xs) (hb : Below w.heap.size w w') : Seg w' w'.heap.size A n xs := (h.below hb).more hb.size
theorem Row.lt {g : Nat} {t : TypeId} {cs : Array Value} (h : Row w g t cs) : g < w.heap.size := by
 unfold Row at h
 exact (Array.getElem?_eq_some_iff.1 h).1
theorem Row.cell {g : Nat} {t : TypeId} {cs : Array Value} (h : Row w g t cs) (i : Nat) : w.cell? ⟨g, i, none⟩ = cs[i]? := cell_of_row w g i cs t (0, 0) h
theorem Row.free {g : Nat} {t : TypeId} {cs : Array Value} (h : Row w g t cs) (i : Nat) : w.frozen? ⟨g, i, none⟩ = false := by
 unfold Row at h
 simp [World.frozen?, h]
theorem Row.new (w : World) (t : TypeId) (cs : Array Value) : Row (w.alloc (.cells cs t)) w.heap.size t cs := heap_alloc_new w _
theorem Row.put {g : Nat} {t : TypeId} {cs : Array Value} (h : Row w g t cs) (i : Nat) (u : Value) : Row (w.setCell ⟨g, i, none⟩ u) g t (cs.setIfInBounds i u) := by
 unfold Row at h ⊢
 simp [World.setCell, Array.getElem?_modify, h]
theorem Row.far {g : Nat} {t : TypeId} {cs : Array Value} (h : Row w g t cs) {p : Addr} (hp : g ≠ p.block) (u : Value) : Row (w.setCell p u) g t cs := (Below.heap_setCell w p u g hp).trans h
theorem Row.alloc {g : Nat} {t : TypeId} {cs : Array Value} (h : Row w g t cs) (o : Obj) : Row (w.alloc o) g t cs := (Below.heap_alloc w o g h.lt).trans h
theorem Row.below {g : Nat} {t : TypeId} {cs : Array Value} (h : Row w g t cs) (hb : Below B w w') (hg : g < B) : Row w' g t cs := (hb.block g hg).trans h
theorem Row.next {g : Nat} {t : TypeId} {cs : Array Value} (h : Row w g t cs) (hb : Below w.heap.size w w') : Row w' g t cs := h.below hb h.lt
theorem Row.seg {g : Nat} {t : TypeId} {cs : Array Value} (h : Row w g t cs) (hl : xs.length = n) (hB : g < B) (hc : ∀ j, j < n → cs[j]? = some (.int .i64 (xs.getD j 0))) : Seg w B (some ⟨g, 0, none⟩) n xs :=
 ⟨hl, fun _ => ⟨g, 0, rfl, hB, fun j hj => by rw [Nat.zero_add, h.cell j]; exact hc j hj⟩⟩
theorem next_trans {a b c : World} (h : Below a.heap.size a b) (k : Below b.heap.size b c) : Below a.heap.size a c := h.trans (k.mono h.size)
theorem below_drewN {a : World} (h : Below B a w) (k : Nat) : Below B a (w.drewN k) := ⟨h.os, h.tape, h.output, h.size, h.block⟩
end
end base
end
section
namespace openArgs
open Go.ChangeShapes Go.WideShapes Go.ChangeAt Go.RowKit base
section
variable {H : Type} {enc : TypeId × Value → H} {P : Program} {w : World}
end
end openArgs
end
section
namespace ints
open Go.RowKit base
theorem info_i64 : (Tryd.prog.info? 2).map (fun i => (i.zero, i.size, i.bytes)) = some (some (.int .i64 0), 1, 8) := by kernel_rfl
theorem lists_eq {xs ys : List Int} {n : Nat} (hx : xs.length = n) (hy : ys.length = n) (h : ∀ j, j < n → xs.getD j 0 = ys.getD j 0) : xs = ys := by
 subst hx
 refine List.ext_getElem hy.symm fun j h1 h2 => ?_
 have := h j h1
 simpa [List.getD, h1, h2] using this
def HeadSame (w : World) (n : Nat) (xs ys : List Int) (i : Value) (wr : World) : Prop :=
 ∃ (k d : Nat), k ≤ n ∧ i = .int .i64 k ∧ wr = w.drewN d ∧ ∀ j, j < k → xs.getD j 0 = ys.getD j 0
theorem alike_step {w : World} {n k : Nat} {xs ys : List Int} {x : Int} (hk : k < n) (h : ∀ j, j < k → xs.getD j 0 = ys.getD j 0) (hx : Hid (xs.getD k 0 = x)) (hy : Hid (ys.getD k 0 = x)) (d : Nat) :
  HeadSame w n xs ys (.int .i64 ((k : Int) + 1)) (w.drewN d) :=
 ⟨k + 1, d, hk, by simp, rfl, fun j hj => by
  by_cases e : j = k
  ·subst e; rw [hx.out, hy.out]
  ·exact h j (by omega)⟩
def AnsSame (w : World) (xs ys : List Int) (e : Ending) (w' : World) : Prop := e = .returned (.bool (decide (xs = ys))) ∧ ∃ d, w' = w.drewN d
theorem same_not {w : World} {xs ys : List Int} {k : Nat} {x y : Int} (hx : Hid (xs.getD k 0 = x)) (hy : Hid (ys.getD k 0 = y)) (h : ¬ x = y) (d : Nat) : AnsSame w xs ys (.returned (.bool false)) (w.drewN d) :=
 ⟨by rw [decide_eq_false (fun e => h (by rw [← hx.out, ← hy.out, e]))], d, rfl⟩
theorem same_yes {w : World} {xs ys : List Int} {n k : Nat} (hx : xs.length = n) (hy : ys.length = n) (hn : ¬ k < n) (h : ∀ j, j < k → xs.getD j 0 = ys.getD j 0) (d : Nat) : AnsSame w xs ys (.returned (.bool true)) (w.drewN d) :=
 ⟨by rw [decide_eq_true (lists_eq hx hy (fun j hj => h j (by omega)))], d, rfl⟩
theorem same_len {w : World} {xs ys : List Int} {n m : Nat} (hx : xs.length = n) (hy : ys.length = m) (h : ¬ n = m) : AnsSame w xs ys (.returned (.bool false)) w :=
 ⟨by rw [decide_eq_false (fun e => h (by rw [← hx, ← hy, e]))], 0, rfl⟩
set_option maxHeartbeats 400000 in
theorem eqInts (A A' : Option Addr) (n m c c' : Nat) (xs ys : List Int) (w : World) (h : Seg w w.heap.size A n xs) (h' : Seg w w.heap.size A' m ys) (hn : n ≤ 1048576) (hm : m ≤ 1048576) :
  Calls Tryd.prog 12 #[.slice A n c, .slice A' m c'] w (AnsSame w xs ys) := by
 by_cases hnm : n = m
 ·subst hnm
  go_enter Tryd.func12, Tryd.ntmps12
  go_wp2
  go_loopw [5] (fun i wr => HeadSame w n xs ys i wr) (fun i _ => n - (intOf i).toNat)
  case atStart => exact ⟨0, 0, Nat.zero_le _, rfl, rfl, fun j h => absurd h (Nat.not_lt_zero _)⟩
  case round =>
   obtain ⟨k, d, hk, rfl, rfl, hc⟩ := hrel
   by_cases hlt : k < n
   ·obtain ⟨b, off, x, rfl, -, hx, ex⟩ := h.spot hlt
    obtain ⟨b', off', y, rfl, -, hx', ey⟩ := h'.spot hlt
    by_cases he : x = y
    ·subst he
     have S := Lib.hid (alike_step (w := w) hlt hc ex ey)
     clear hc h h' ex ey
     go_wp2
     go_quiet (fail)
     go_wp2
     go_roundw
     case rel => exact S.out _
     case measure => simp [intOf]; omega
    ·have S := Lib.hid (same_not (w := w) ex ey he)
     have hne : (x != y) = true := by simp [he]
     clear hc h h' ex ey he
     go_wp2
     go_quiet (fail)
     go_wp2
     go_ret
     rw [World.drewN_drewN]
     exact S.out _
   ·have S := Lib.hid (same_yes (w := w) h.1 h'.1 hlt hc)
    clear hc h h'
    go_wp2
    go_ret
    exact S.out _
 ·have S := Lib.hid (same_len (w := w) h.1 h'.1 hnm)
  have hne : ((n : Int) != (m : Int)) = true := by simp; omega
  clear h h'
  go_enter Tryd.func12, Tryd.ntmps12
  go_wp2
  go_ret
  exact S.out
theorem eqYes (A A' : Option Addr) (n c c' : Nat) (xs : List Int) (w : World) (h : Seg w w.heap.size A n xs) (h' : Seg w w.heap.size A' n xs) (hn : n ≤ 1048576) :
  Calls Tryd.prog 12 #[.slice A n c, .slice A' n c'] w fun e w' => e = .returned (.bool true) ∧ ∃ d, w' = w.drewN d :=
 (eqInts A A' n n c c' xs xs w h h' hn hn).mono fun _ _ ⟨he, hd⟩ => ⟨by rw [he]; simp, hd⟩
def Fine (w : World) (e : Ending) (w' : World) : Prop := e = .returned (.bool true) ∧ Below w.heap.size w w'
end ints
end
section
open Go.Lib (hid)
namespace sig
open Go.RowKit base ints
theorem szInts (A : Option Addr) (n c : Nat) (left : Int) (w : World) (hn : n ≤ 9223372036854775807) (h0 : 0 ≤ left) (h1 : left ≤ 1048576) :
  Calls Tryd.prog 32 #[.slice A n c, .int .i64 left] w fun e w' => w = w' ∧ e = .returned (.int .i64 (if left - n < 0 then -1 else left - n)) := by
 by_cases h : left - n < 0
 ·rw [if_pos h]
  go_enter Tryd.func32, Tryd.ntmps32
  go_wp2
  go_ret
  exact ⟨rfl, rfl⟩
 ·rw [if_neg h]
  go_enter Tryd.func32, Tryd.ntmps32
  go_wp2
  go_ret
  exact ⟨rfl, rfl⟩
theorem szSig (A : Option Addr) (n c : Nat) (left : Int) (w : World) (hn : n ≤ 9223372036854775807) (h0 : 0 ≤ left) (h1 : left ≤ 1048576) :
  Calls Tryd.prog 8 #[.agg #[.slice A n c], .int .i64 left] w fun e w' => e = .returned (.int .i64 (if left - n < 0 then -1 else left - n)) ∧ Below w.heap.size w w' := by
 have L := fun W => hid (szInts A n c left W hn h0 h1)
 have hb : Below w.heap.size w (w.alloc (.cells #[.slice A n c] 24)) := (Below.refl _ _).alloc (Nat.le_refl _) _
 by_cases h : left - n < 0
 ·rw [if_pos h] at L ⊢
  go_enter Tryd.func8, Tryd.ntmps8
  go_wp2_with fail
  refine (L _).out.mono ?_
  rintro e w' ⟨rfl, rfl⟩
  go_wp2
  go_ret
  exact ⟨rfl, hb⟩
 ·rw [if_neg h] at L ⊢
  go_enter Tryd.func8, Tryd.ntmps8
  go_wp2_with fail
  refine (L _).out.mono ?_
  rintro e w' ⟨rfl, rfl⟩
  go_wp2
  go_ret
  exact ⟨rfl, hb⟩
def arityOk (a : Int) : Bool := decide (0 ≤ a ∧ a ≤ 3)
def sigOkB (xs : List Int) : Bool := decide (1 ≤ xs.length ∧ xs.length ≤ 8) && xs.all arityOk
theorem inYes (x lo hi : Int) (w : World) (h : lo ≤ x ∧ x ≤ hi) : Calls Tryd.prog 64 #[.int .i64 x, .int .i64 lo, .int .i64 hi] w fun e w' => w = w' ∧ e = .returned (.bool true) := by
 obtain ⟨h1, h2⟩ := h
 go_enter Tryd.func64, Tryd.ntmps64
 go_wp2
 go_ret
 exact ⟨rfl, rfl⟩
theorem inNo (x lo hi : Int) (w : World) (h : ¬ (lo ≤ x ∧ x ≤ hi)) : Calls Tryd.prog 64 #[.int .i64 x, .int .i64 lo, .int .i64 hi] w fun e w' => w = w' ∧ e = .returned (.bool false) := by
 by_cases h1 : lo ≤ x
 ·have h2 : decide (x ≤ hi) = false := by simp; omega
  go_enter Tryd.func64, Tryd.ntmps64
  go_wp2
  go_ret
  exact ⟨rfl, rfl⟩
 ·go_enter Tryd.func64, Tryd.ntmps64
  go_wp2
  go_ret
  exact ⟨rfl, rfl⟩
def AnsSig (w : World) (xs : List Int) (e : Ending) (w' : World) : Prop := e = .returned (.bool (sigOkB xs)) ∧ Below w.heap.size w w'
theorem sig_len {w w' : World} {xs : List Int} {n : Nat} (hx : xs.length = n) (h : ¬ (1 ≤ n ∧ n ≤ 8)) (hb : Below w.heap.size w w') : AnsSig w xs (.returned (.bool false)) w' :=
 ⟨by unfold sigOkB; rw [decide_eq_false (by omega), Bool.false_and], hb⟩
theorem sig_bad {w w' : World} {xs : List Int} {n k : Nat} {x : Int} (hx : xs.length = n) (hk : k < n) (ex : Hid (xs.getD k 0 = x)) (h : ¬ (0 ≤ x ∧ x ≤ 3)) (hb : Below w.heap.size w w') : AnsSig w xs (.returned (.bool false)) w' := by
 refine ⟨?_, hb⟩
 have hm : x ∈ xs := by
  have := ex.out
  subst hx
  rw [← this]
  simp [List.getD, hk]
 have : xs.all arityOk = false := by
  rw [List.all_eq_false]
  exact ⟨x, hm, by simp [arityOk]; omega⟩
 unfold sigOkB
 rw [this, Bool.and_false]
theorem sig_good {w w' : World} {xs : List Int} {n k : Nat} (hx : xs.length = n) (h : 1 ≤ n ∧ n ≤ 8) (hn : ¬ k < n) (hc : ∀ j, j < k → 0 ≤ xs.getD j 0 ∧ xs.getD j 0 ≤ 3) (hb : Below w.heap.size w w') : AnsSig w xs (.returned (.bool true)) w' := by
 refine ⟨?_, hb⟩
 have : xs.all arityOk = true := by
  rw [List.all_eq_true]
  intro x hxm
  obtain ⟨j, hj, rfl⟩ := List.getElem_of_mem hxm
  have := hc j (by omega)
  simp [List.getD, hj] at this
  simp [arityOk, this]
 unfold sigOkB
 rw [this, Bool.and_true, decide_eq_true (by omega)]
def HeadSig (n : Nat) (xs : List Int) (i : Value) : Prop := ∃ k : Nat, k ≤ n ∧ i = .int .i64 k ∧ ∀ j, j < k → 0 ≤ xs.getD j 0 ∧ xs.getD j 0 ≤ 3
theorem headSig_step {n k : Nat} {xs : List Int} {x : Int} (hk : k < n) (h : ∀ j, j < k → 0 ≤ xs.getD j 0 ∧ xs.getD j 0 ≤ 3) (hx : Hid (xs.getD k 0 = x)) (h0 : 0 ≤ x ∧ x ≤ 3) : HeadSig n xs (.int .i64 ((k : Int) + 1)) :=
 ⟨k + 1, hk, by simp, fun j hj => by
  by_cases e : j = k
  ·subst e; rw [hx.out]; exact h0
  ·exact h j (by omega)⟩
set_option maxHeartbeats 400000 in
theorem specSigOk (A : Option Addr) (n c : Nat) (xs : List Int) (w : World) (h : Seg w w.heap.size A n xs) (hn : n ≤ 1048576) :
  Calls Tryd.prog 45 #[.agg #[.slice A n c]] w (AnsSig w xs) := by
 have b : Below w.heap.size w (w.alloc (.cells #[.slice A n c] 28)) := (Below.refl _ _).alloc (Nat.le_refl _) _
 by_cases hl : 1 ≤ n ∧ n ≤ 8
 ·go_enter Tryd.func45, Tryd.ntmps45
  go_wp2_with fail
  refine (inYes _ _ _ _ (by omega)).mono ?_
  rintro e w' ⟨rfl, rfl⟩
  go_wp2_with fail
  go_loop [3] (fun i => HeadSig n xs i) (fun i => n - (intOf i).toNat)
  case atStart => exact ⟨0, Nat.zero_le _, rfl, fun j h => absurd h (Nat.not_lt_zero _)⟩
  case round =>
   obtain ⟨k, hk, rfl, hc⟩ := hrel
   by_cases hlt : k < n
   ·obtain ⟨g, off, x, rfl, hg, hx, ex⟩ := h.spot hlt
    by_cases hin : 0 ≤ x ∧ x ≤ 3
    ·have S := hid (headSig_step (n := n) hlt hc ex hin)
     have L := hid (fun W => inYes x 0 3 W hin)
     clear hc h ex hin
     go_wp2_with fail
     refine (L.out _).mono ?_
     rintro e w' ⟨rfl, rfl⟩
     go_wp2
     go_round
     case rel => exact S.out
     case measure => simp [intOf]; omega
    ·have S := hid (sig_bad h.1 hlt ex hin b)
     have L := hid (fun W => inNo x 0 3 W hin)
     clear hc h ex hin b
     go_wp2_with fail
     refine (L.out _).mono ?_
     rintro e w' ⟨rfl, rfl⟩
     go_wp2
     go_ret
     exact S.out
   ·have S := hid (sig_good h.1 hl hlt hc b)
    clear hc h b
    go_wp2
    go_ret
    exact S.out
 ·have S := hid (sig_len h.1 hl b)
  clear h b
  go_enter Tryd.func45, Tryd.ntmps45
  go_wp2_with fail
  refine (inNo _ _ _ _ (by omega)).mono ?_
  rintro e w' ⟨rfl, rfl⟩
  go_wp2
  go_ret
  exact S.out
set_option maxHeartbeats 400000 in
theorem implSigOk (A : Option Addr) (n c : Nat) (xs : List Int) (w : World) (h : Seg w w.heap.size A n xs) (hn : n ≤ 1048576) :
  Calls Tryd.prog 47 #[.agg #[.slice A n c]] w (AnsSig w xs) := by
 have b : Below w.heap.size w (w.alloc (.cells #[.slice A n c] 28)) := (Below.refl _ _).alloc (Nat.le_refl _) _
 by_cases hl : 1 ≤ n ∧ n ≤ 8
 ·obtain ⟨hl1, hl2⟩ := hl
  go_enter Tryd.func47, Tryd.ntmps47
  go_wp2_with fail
  go_loop [18] (fun i => HeadSig n xs i) (fun i => n - (intOf i).toNat)
  case atStart => exact ⟨0, Nat.zero_le _, rfl, fun j h => absurd h (Nat.not_lt_zero _)⟩
  case round =>
   obtain ⟨k, hk, rfl, hc⟩ := hrel
   by_cases hlt : k < n
   ·obtain ⟨g, off, x, rfl, hg, hx, ex⟩ := h.spot hlt
    by_cases hin : 0 ≤ x ∧ x ≤ 3
    ·have S := hid (headSig_step (n := n) hlt hc ex hin)
     obtain ⟨hin1, hin2⟩ := hin
     clear hc h ex
     go_wp2
     go_round
     case rel => exact S.out
     case measure => simp [intOf]; omega
    ·have S := hid (sig_bad h.1 hlt ex hin b)
     clear hc h ex b
     by_cases hx0 : x < 0
     ·go_wp2
      go_ret
      exact S.out
     ·have hx3 : 3 < x := by omega
      go_wp2
      go_ret
      exact S.out
   ·have S := hid (sig_good h.1 ⟨hl1, hl2⟩ hlt hc b)
    clear hc h b
    go_wp2
    go_ret
    exact S.out
 ·have S := hid (sig_len h.1 hl b)
  clear h b
  by_cases hl1 : n < 1
  ·go_enter Tryd.func47, Tryd.ntmps47
   go_wp2
   go_ret
   exact S.out
  ·have hl2 : 8 < n := by omega
   go_enter Tryd.func47, Tryd.ntmps47
   go_wp2
   go_ret
   exact S.out
end sig
end
section
namespace term
def ar (sg : List Int) (x : Int) : Int := if -24 ≤ x ∧ x ≤ -1 then 0 else if 0 ≤ x ∧ x < sg.length then sg.getD x.toNat 0 else -1
def Arities (sg : List Int) : Prop := ∀ j, j < sg.length → 0 ≤ sg.getD j 0 ∧ sg.getD j 0 ≤ 3
def scan (sg : List Int) : Nat → List Int → Option Nat
 | 0, _ => some 0
 | _ + 1, [] => none
 | m + 1, x :: r => if ar sg x < 0 then none else (scan sg (m + (ar sg x).toNat) r).map (· + 1)
theorem scan_zero (sg l : List Int) : scan sg 0 l = some 0 := by cases l <;> rfl
theorem scan_nil (sg : List Int) (m : Nat) : scan sg (m + 1) [] = none := rfl
def Scn (sg t : List Int) (at_ k m : Nat) : Prop := at_ ≤ k ∧ k ≤ t.length ∧ scan sg 1 (t.drop at_) = (scan sg m (t.drop k)).map (· + (k - at_))
theorem Scn.out {sg t : List Int} {at_ k m : Nat} (h : Scn sg t at_ k (m + 1)) (hk : ¬ k < t.length) : scan sg 1 (t.drop at_) = none := by
 rw [h.2.2, List.drop_eq_nil_of_le (by omega), scan_nil]
 rfl
theorem Scn.done {sg t : List Int} {at_ k : Nat} (h : Scn sg t at_ k 0) : scan sg 1 (t.drop at_) = some (k - at_) := by
 rw [h.2.2, scan_zero]
 simp
end term
end
section
namespace arity
open Go.RowKit base ints sig term
end arity
end
section
namespace cursor
open Go.RowKit base ints sig term arity
theorem grown_put {a b : World} {p : Nat} (h : a.grownBy b (some p)) (i : Nat) (u : Value) : a.grownBy (b.setCell ⟨p, i, none⟩ u) (some p) :=
 ⟨h.os, h.tape, h.output, by simpa [World.setCell] using h.size, fun k hk hn => (Below.heap_setCell _ _ _ _ (by intro e; exact hn (by rw [e]))).trans (h.block k hk hn)⟩
end cursor
end
section
namespace marks
open Go.RowKit base ints sig cursor
def Own (w : World) (base : Nat) (v : Value) (xs : List Int) : Prop := w.ownsRow base 2 1 v xs.length (xs.map (Value.int .i64))
theorem Own.nil (w : World) (base : Nat) : Own w base (.slice none 0 0) [] := World.ownsRow_nil w base 2 1
theorem Own.form {w : World} {base : Nat} {v : Value} {xs : List Int} (h : Own w base v xs) : (v = .slice none 0 0 ∧ xs = []) ∨
  ∃ g c cur, v = .slice (some ⟨g, 0, none⟩) xs.length c ∧ base ≤ g ∧ Row w g 2 cur ∧ xs.length ≤ cur.size ∧ ∀ j, j < xs.length → cur[j]? = some (.int .i64 (xs.getD j 0)) := by
 obtain ⟨h1, h2⟩ := h
 rcases h2 with ⟨rfl, h0⟩ | ⟨g, cap, cur, rfl, hb, hg, hn, _, hs, ht⟩
 ·exact .inl ⟨rfl, List.eq_nil_of_length_eq_zero h0⟩
 ·refine .inr ⟨g, cap, cur, rfl, hb, hg, by omega, fun j hj => ?_⟩
  have h3 : (cur.toList.take (xs.length * 1))[j]? = (xs.map (Value.int .i64))[j]? := by rw [ht]
  rw [List.getElem?_take, if_pos (by omega)] at h3
  simpa [List.getD, hj] using h3
theorem Own.slice {w : World} {base : Nat} {v : Value} {xs : List Int} (h : Own w base v xs) : ∃ A c, v = .slice A xs.length c := by
 rcases h.form with ⟨rfl, rfl⟩ | ⟨g, c, _, rfl, _⟩
 ·exact ⟨none, 0, rfl⟩
 ·exact ⟨_, c, rfl⟩
theorem Own.seg {w : World} {base : Nat} {A : Option Addr} {n c : Nat} {xs : List Int} (h : Own w base (.slice A n c) xs) : Seg w w.heap.size A n xs := by
 rcases h.form with ⟨e, rfl⟩ | ⟨g, c', cur, e, hb, hr, hs, hc⟩
 ·injection e with e1 e2 e3
  subst e1 e2
  exact Seg.empty
 ·injection e with e1 e2 e3
  subst e1 e2
  exact hr.seg rfl hr.lt hc
theorem Own.next {w w' : World} {base : Nat} {v : Value} {xs : List Int} (h : Own w base v xs) (hb : Below w.heap.size w w') : Own w' base v xs :=
 World.ownsRow.kept h ⟨hb.os, hb.tape, hb.output, hb.size, fun k hk _ => hb.block k hk⟩ (row := none) (by cases v.ownBlock <;> simp)
theorem Own.of_row {w : World} {base g n c : Nat} {cs : Array Value} {xs : List Int} (hr : Row w g 2 cs) (hl : xs.length = n) (hs : cs.size = c) (hn : n ≤ c) (hm : c ≤ 9223372036854775807) (hb : base ≤ g) (hc : ∀ j, j < n → cs[j]? = some (.int .i64 (xs.getD j 0))) : Own w base (.slice (some ⟨g, 0, none⟩) n c) xs := by
 subst hl
 refine ⟨by simp, .inr ⟨g, c, cs, rfl, hb, hr, hn, by unfold maxLen; omega, by omega, ?_⟩⟩
 refine List.ext_getElem? fun j => ?_
 rw [List.getElem?_take]
 by_cases hj : j < xs.length
 ·rw [if_pos (by omega)]
  have := hc j hj
  simp [List.getD, hj] at this ⊢
  exact this
 ·rw [if_neg (by omega)]
  have : (xs.map (Value.int .i64))[j]? = none := List.getElem?_eq_none (by simp; omega)
  rw [this]
def blk (A : Option Addr) : Option Nat := A.map (·.block)
theorem Own.far {w w' : World} {base : Nat} {v : Value} {xs : List Int} {r : Option Nat} (h : Own w base v xs) (hg : w.grownBy w' r) (hr : ∀ k, r = some k → k < base) : Own w' base v xs := by
 refine World.ownsRow.kept h hg ?_
 cases hv : v.ownBlock with
 | none => exact .inl rfl
 | some g =>
  right
  intro e
  have h1 := World.ownsRow.lt h g hv
  have h2 := hr g e.symm
  omega
def marks (k : Int) (n : Nat) : List Int := (List.range n).map fun (j : Nat) => k + (j : Int)
theorem marks_len (k : Int) (n : Nat) : (marks k n).length = n := by simp [marks]
theorem marks_get {k : Int} {n j : Nat} (h : j < n) : (marks k n).getD j 0 = k + (j : Int) := by simp [marks, List.getD, h]
def HeadMark (w : World) (g n : Nat) (k : Int) (z : Nat) (kk i : Value) (wr : World) : Prop :=
 ∃ (j : Nat) (cs : Array Value), j ≤ n ∧ i = .int .i64 j ∧ kk = .int .i64 (k + (j : Int)) ∧ Row wr g 2 cs ∧ cs.size = z ∧ (∀ q, q < j → cs[q]? = some (.int .i64 (k + (q : Int)))) ∧ w.grownBy wr (some g)
theorem headMark_step {w wr : World} {g n : Nat} {k : Int} {z j : Nat} {cs : Array Value} (hj : j < n) (hz : n ≤ z) (hr : Row wr g 2 cs) (hs : cs.size = z) (hc : ∀ q, q < j → cs[q]? = some (.int .i64 (k + (q : Int)))) (hg : w.grownBy wr (some g)) :
  HeadMark w g n k z (.int .i64 (k + (j : Int) + 1)) (.int .i64 ((j : Int) + 1)) (wr.setCell ⟨g, j, none⟩ (.int .i64 (k + (j : Int)))) := by
 refine ⟨j + 1, _, hj, by simp, congrArg (Value.int .i64) (by omega), hr.put j _, by simp [hs], fun q hq => ?_, grown_put hg _ _⟩
 rw [Array.getElem?_setIfInBounds]
 by_cases e : j = q
 ·subst e; simp [hs]; try omega
 ·simp [e]; exact hc q (by omega)
theorem heldInts (A : Option Addr) (n c : Nat) (k : Int) (w : World) (h : Seg w w.heap.size A n (marks k n)) (hn : n ≤ 1048576) (hk0 : 0 ≤ k) (hk : k ≤ 1099511627776) :
  Calls Tryd.prog 16 #[.slice A n c, .int .i64 k] w fun e w' => w = w' ∧ e = .returned (.int .i64 (k + (n : Int))) := by
 go_enter Tryd.func16, Tryd.ntmps16
 go_wp2
 go_loop [1, 5] (fun kk i => ∃ j : Nat, j ≤ n ∧ i = .int .i64 j ∧ kk = .int .i64 (k + (j : Int))) (fun _ i => n - (intOf i).toNat)
 case atStart => exact ⟨0, Nat.zero_le _, rfl, by simp⟩
 case round =>
  obtain ⟨j, hj, rfl, rfl⟩ := hrel
  by_cases hlt : j < n
  ·obtain ⟨b, off, x, rfl, -, hx, ex⟩ := h.spot hlt
   have e1 : x = k + (j : Int) := by rw [← ex.out, marks_get hlt]
   subst e1
   have e2 : (k + (j : Int) != k + (j : Int)) = false := by simp
   clear h ex
   go_wp2
   go_round
   case rel => exact ⟨j + 1, hlt, by go_num, congrArg (Value.int .i64) (by omega)⟩
   case measure => simp [intOf]; omega
  ·have e : j = n := by omega
   subst e
   clear h
   go_wp2
   go_ret
   exact ⟨rfl, rfl⟩
end marks
end
section
namespace app
open Go.RowKit base ints marks
theorem Own.blk_ge {w : World} {base : Nat} {A : Option Addr} {n c : Nat} {xs : List Int} (h : Own w base (.slice A n c) xs) : ∀ k, (Value.slice A n c).ownBlock = some k → base ≤ k := fun k hk => (World.ownsRow.lt h k hk).1
theorem own_of {w : World} {base : Nat} {v : Value} {n : Nat} {xs : List Int} (h : w.ownsRow base 2 1 v n (xs.map (Value.int .i64))) : ∃ A c, v = .slice A n c ∧ Own w base (.slice A n c) xs := by
 have hl : n = xs.length := by have := h.1; simpa using this.symm
 subst hl
 obtain ⟨A, c, rfl⟩ := Own.slice (w := w) (base := base) (v := v) (xs := xs) h
 exact ⟨A, c, rfl, h⟩
theorem below_grown {w w' : World} {base : Nat} {A : Option Addr} {n c : Nat} {xs : List Int} (h : Own w base (.slice A n c) xs) (hg : w.grownBy w' (Value.slice A n c).ownBlock) (hb : base ≤ w.heap.size) : Below base w w' :=
 (Below.refl base w).grown hg hb (Own.blk_ge h)
set_option maxRecDepth 100000 in
theorem app1 {w : World} {ops : Array Oper} {rest : List Oper} {o : Oper} {a : Act} {Q : Exit → Act → World → Prop} (hgd : o.guard = none) (s x : Operand)
  (ho : o.op = .call { callee := .builtin .append, args := #[s, x], argTypes := #[22, 22] })
  (base : Nat) (A : Option Addr) (n c : Nat) (xs : List Int) (hs : a.eval s = .slice A n c) (hown : Own w base (.slice A n c) xs)
  (g c2 : Nat) (y : Int) (hx : a.eval x = .slice (some ⟨g, 0, none⟩) 1 c2) (hy : w.cell? ⟨g, 0, none⟩ = some (.int .i64 y)) (hn : n ≤ 2097152) (hbase : base ≤ w.heap.size)
  (h : ∀ A' c' w', Own w' base (.slice A' (n + 1) c') (xs ++ [y]) → Below base w w' → wpList Tryd.prog ops Q rest (a.put o.dst (.slice A' (n + 1) c')) w') : wpList Tryd.prog ops Q (o :: rest) a w := by
 obtain ⟨i0, hi, hz0, hz1, hz2⟩ := info_parts info_i64
 have hl : xs.length = n := by
  obtain ⟨A', c', e⟩ := hown.slice
  injection e with _ e _
  exact e.symm
 refine wpList_append_own w hgd s x 22 ho base 2 i0 (.int .i64 0) 1 8 Tryd.underlying22 hi hz0 hz1 hz2 rfl (by decide) (.slice A n c) n (xs.map (Value.int .i64)) hs (by rw [← hl]; rw [← hl] at hown; exact hown)
  ⟨g, 0, none⟩ 1 c2 [.int .i64 y] hx rfl (fun j u hj => ?_) (fun u hu => ?_) (by unfold maxLen; omega) (by omega) hbase ?_
 ·match j, hj with
  | 0, hj => simp at hj; subst hj; simpa [Addr.add] using hy
 ·simp at hu; subst hu; rfl
 ·intro v' w' hown' hg _
  have : xs.map (Value.int .i64) ++ [.int .i64 y] = (xs ++ [y]).map (Value.int .i64) := by simp
  rw [this] at hown'
  obtain ⟨A', c', rfl, ho'⟩ := own_of hown'
  exact h A' c' w' ho' (below_grown hown hg hbase)
end app
end
section
namespace varsOf
open Go.RowKit base
end varsOf
end
end Go.Proofs.YtlaloakegajheabDoor
section
namespace Go.Proofs
open Go.Shelf
def Tryd.lays156_ren : Go.Shelf.Ren := ⟨fun | 156 => 49 | 165 => 77 | 166 => 78 | 169 => 79 | 240 => 93 | 241 => 94 | 276 => 115 | 277 => 116 | n => n, fun | 31 => 63 | 9 => 9 | 3 => 3 | 4 => 4 | 0 => 0 | 20 => 20 | 72 => 102 | 76 => 106 | 70 => 99 | 37 => 100 | 75 => 105 | 127 => 122 | 164 => 138 | 5 => 5 | 80 => 94 | n => n, fun | n => n⟩
theorem Tryd.lays156 : Go.Proofs.Lays.n156 Tryd.prog Tryd.lays156_ren := {
 mixed := by kernel_rfl
 f156 := Tryd.func49.trans (congrArg some (by kernel_rfl))
 f165 := Tryd.func77.trans (congrArg some (by kernel_rfl))
 f166 := Tryd.func78.trans (congrArg some (by kernel_rfl))
 f169 := Tryd.func79.trans (congrArg some (by kernel_rfl))
 f240 := Tryd.func93.trans (congrArg some (by kernel_rfl))
 f241 := Tryd.func94.trans (congrArg some (by kernel_rfl))
 f276 := Tryd.func115.trans (congrArg some (by kernel_rfl))
 f277 := Tryd.func116.trans (congrArg some (by kernel_rfl))
 t0 := Tryd.underlying0
 a0 := Tryd.isAgg0
 z0 := Tryd.sizeOf0
 v0 := Tryd.zeroValue0
 t3 := Tryd.underlying3
 a3 := Tryd.isAgg3
 z3 := Tryd.sizeOf3
 v3 := Tryd.zeroValue3
 t4 := Tryd.underlying4
 a4 := Tryd.isAgg4
 z4 := Tryd.sizeOf4
 v4 := Tryd.zeroValue4
 t9 := Tryd.underlying9
 a9 := Tryd.isAgg9
 z9 := Tryd.sizeOf9
 v9 := Tryd.zeroValue9
 t20 := Tryd.underlying20
 a20 := Tryd.isAgg20
 z20 := Tryd.sizeOf20
 v20 := Tryd.zeroValue20
 t31 := Tryd.underlying63
 a31 := Tryd.isAgg63
 z31 := Tryd.sizeOf63
 v31 := Tryd.zeroValue63
 t37 := Tryd.underlying100
 a37 := Tryd.isAgg100
 z37 := Tryd.sizeOf100
 v37 := Tryd.zeroValue100
 t70 := Tryd.underlying99
 a70 := Tryd.isAgg99
 z70 := Tryd.sizeOf99
 v70 := Tryd.zeroValue99
 t72 := Tryd.underlying102
 a72 := Tryd.isAgg102
 z72 := Tryd.sizeOf102
 v72 := Tryd.zeroValue102
 t75 := Tryd.underlying105
 a75 := Tryd.isAgg105
 z75 := Tryd.sizeOf105
 v75 := Tryd.zeroValue105
 t76 := Tryd.underlying106
 a76 := Tryd.isAgg106
 z76 := Tryd.sizeOf106
 v76 := Tryd.zeroValue106
 t127 := Tryd.underlying122
 a127 := Tryd.isAgg122
 z127 := Tryd.sizeOf122
 v127 := Tryd.zeroValue122
 t164 := Tryd.underlying138
 a164 := Tryd.isAgg138
 z164 := Tryd.sizeOf138
 v164 := Tryd.zeroValue138 }
theorem Tryd.Builder_Extra_156 : Builder.Extra Tryd.prog Tryd.lays156_ren := {
 sizeBuilder := by kernel_rfl
 liesBuilder := by kernel_rfl
 t5 := Tryd.underlying5
 a5 := Tryd.isAgg5
 z5 := Tryd.sizeOf5
 v5 := Tryd.zeroValue5
 infoByte := by kernel_rfl
 cellsByte := by kernel_rfl
 sizeByte := by kernel_rfl
 neB5 := by decide }
open Go.RowKit in
theorem Tryd.strings_Join_none (a : Option Addr) (c : Nat) (sep : ByteArray) (w : World) :
  Calls Tryd.prog 49 #[.slice a 0 c, .string sep] w fun e w' => e = .returned (.string ⟨#[]⟩) ∧ w' = w := Any.strings_Join_none Tryd.lays156 Tryd.Builder_Extra_156 a c sep w
open Go.RowKit in
theorem Tryd.strings_Join (bk o c : Nat) (xs : List ByteArray) (sep : ByteArray) (w : World) (hcells : ∀ (j : Nat) x, xs[j]? = some x → w.cell? ⟨bk, o + j, none⟩ = some (.string x)) (hbk : bk < w.heap.size) (hN : xs.length ≤ 140737488355328) (hcap : xs.length ≤ c) (hlen : (Lib.join (xs.map (·.data.toList)) sep.data.toList).length ≤ 140737488355328) :
  Calls Tryd.prog 49 #[.slice (some ⟨bk, o, none⟩) xs.length c, .string sep] w fun e w' => e = .returned (.string ⟨(Lib.join (xs.map (·.data.toList)) sep.data.toList).toArray⟩) ∧ Below w.heap.size w w' := Any.strings_Join Tryd.lays156 Tryd.Builder_Extra_156 bk o c xs sep w hcells hbk hN hcap hlen
def Tryd.lays173_ren : Go.Shelf.Ren := ⟨fun | 173 => 76 | 246 => 92 | 283 => 111 | 284 => 112 | 285 => 113 | 286 => 114 | 129 => 129 | 317 => 128 | 318 => 130 | 319 => 131 | 320 => 132 | 337 => 141 | 338 => 142 | n => n, fun | 2 => 2 | 3 => 3 | 9 => 9 | 4 => 4 | 171 => 132 | 0 => 0 | 53 => 133 | 37 => 100 | 5 => 5 | 173 => 136 | 212 => 151 | 51 => 152 | 20 => 20 | 213 => 153 | 46 => 129 | 232 => 171 | 233 => 172 | n => n, fun | 17 => 1 | 18 => 6 | 19 => 7 | n => n⟩
theorem Tryd.lays173 : Go.Proofs.Lays.n173 Tryd.prog Tryd.lays173_ren := {
 mixed := by kernel_rfl
 f129 := Tryd.func129.trans (congrArg some (by kernel_rfl))
 f173 := Tryd.func76.trans (congrArg some (by kernel_rfl))
 f246 := Tryd.func92.trans (congrArg some (by kernel_rfl))
 f283 := Tryd.func111.trans (congrArg some (by kernel_rfl))
 f284 := Tryd.func112.trans (congrArg some (by kernel_rfl))
 f285 := Tryd.func113.trans (congrArg some (by kernel_rfl))
 f286 := Tryd.func114.trans (congrArg some (by kernel_rfl))
 f317 := Tryd.func128.trans (congrArg some (by kernel_rfl))
 f318 := Tryd.func130.trans (congrArg some (by kernel_rfl))
 f319 := Tryd.func131.trans (congrArg some (by kernel_rfl))
 f320 := Tryd.func132.trans (congrArg some (by kernel_rfl))
 f337 := Tryd.func141.trans (congrArg some (by kernel_rfl))
 f338 := Tryd.func142.trans (congrArg some (by kernel_rfl))
 t0 := Tryd.underlying0
 a0 := Tryd.isAgg0
 z0 := Tryd.sizeOf0
 v0 := Tryd.zeroValue0
 t2 := Tryd.underlying2
 a2 := Tryd.isAgg2
 z2 := Tryd.sizeOf2
 v2 := Tryd.zeroValue2
 t3 := Tryd.underlying3
 a3 := Tryd.isAgg3
 z3 := Tryd.sizeOf3
 v3 := Tryd.zeroValue3
 t4 := Tryd.underlying4
 a4 := Tryd.isAgg4
 z4 := Tryd.sizeOf4
 v4 := Tryd.zeroValue4
 t5 := Tryd.underlying5
 a5 := Tryd.isAgg5
 z5 := Tryd.sizeOf5
 v5 := Tryd.zeroValue5
 t9 := Tryd.underlying9
 a9 := Tryd.isAgg9
 z9 := Tryd.sizeOf9
 v9 := Tryd.zeroValue9
 t20 := Tryd.underlying20
 a20 := Tryd.isAgg20
 z20 := Tryd.sizeOf20
 v20 := Tryd.zeroValue20
 t37 := Tryd.underlying100
 a37 := Tryd.isAgg100
 z37 := Tryd.sizeOf100
 v37 := Tryd.zeroValue100
 t46 := Tryd.underlying129
 a46 := Tryd.isAgg129
 z46 := Tryd.sizeOf129
 v46 := Tryd.zeroValue129
 t51 := Tryd.underlying152
 a51 := Tryd.isAgg152
 z51 := Tryd.sizeOf152
 v51 := Tryd.zeroValue152
 t53 := Tryd.underlying133
 a53 := Tryd.isAgg133
 z53 := Tryd.sizeOf133
 v53 := Tryd.zeroValue133
 t171 := Tryd.underlying132
 a171 := Tryd.isAgg132
 z171 := Tryd.sizeOf132
 v171 := Tryd.zeroValue132
 t173 := Tryd.underlying136
 a173 := Tryd.isAgg136
 z173 := Tryd.sizeOf136
 v173 := Tryd.zeroValue136
 t212 := Tryd.underlying151
 a212 := Tryd.isAgg151
 z212 := Tryd.sizeOf151
 v212 := Tryd.zeroValue151
 t213 := Tryd.underlying153
 a213 := Tryd.isAgg153
 z213 := Tryd.sizeOf153
 t232 := Tryd.underlying171
 a232 := Tryd.isAgg171
 z232 := Tryd.sizeOf171
 v232 := Tryd.zeroValue171
 t233 := Tryd.underlying172
 a233 := Tryd.isAgg172
 z233 := Tryd.sizeOf172
 v233 := Tryd.zeroValue172
 g17 := by kernel_rfl
 g18 := by kernel_rfl
 g19 := by kernel_rfl }
open Go.RowKit Go.Sort Go.Lib in
theorem Tryd.strconv_FormatInt_10_small (i : Nat) (hi : i < 100) (w : World) :
  Calls Tryd.prog 76 #[.int .i64 i, .int .i64 10] w fun e w' => e = .returned (.string ⟨(Lib.decDigits i).toArray⟩) ∧ w' = w := Any.strconv_FormatInt_10_small Tryd.lays173 i hi w
end Go.Proofs
end
namespace Go.Proofs.YtlaloakegajheabDoor
section
namespace text
open Go.RowKit base ints marks app
set_option maxRecDepth 100000
def dg (n : Nat) : List UInt8 := Lib.decDigits n
def bs (l : List UInt8) : ByteArray := ⟨l.toArray⟩
def ch (d : Nat) : UInt8 := UInt8.ofNat (48 + d)
theorem dg_one {n : Nat} (h : n < 10) : dg n = [ch n] := by unfold dg ch Lib.decDigits; rw [dif_pos h]
theorem dg_two {n : Nat} (h : ¬ n < 10) : dg n = dg (n / 10) ++ [ch (n % 10)] := by
 show Lib.decDigits n = _
 rw [Lib.decDigits, dif_neg h]
 rfl
theorem dg_len {n : Nat} (h : n < 100) : (dg n).length ≤ 2 := by
 by_cases h0 : n < 10
 ·rw [dg_one h0]; simp
 ·rw [dg_two h0, dg_one (by omega)]; simp
theorem conv0 (w : World) (b : Nat) (x : Nat) (hx : x < 256) (hc : w.cell? ⟨b, 0, none⟩ = some (.int .u8 (x : Int))) :
  (convert 100 9 (.slice (some ⟨b, 0, none⟩) 1 1)).run Tryd.prog w = .ok (.string (bs [UInt8.ofNat x])) w :=
 Lib.run_convert_whole (P := Tryd.prog) w 100 5 9 Tryd.underlying100 Tryd.underlying5 Tryd.underlying9 b 0 (bs [UInt8.ofNat x]) (fun i hi => by
  have h1 : i < 1 := hi
  obtain rfl : i = 0 := by omega
  show w.cell? ⟨b, 0, none⟩ = some (.int .u8 ((UInt8.ofNat x).toNat : Int))
  rw [hc]
  congr 2
  have : (UInt8.ofNat x).toNat = x := by simp; omega
  omega) 1
theorem bs_app (x y : List UInt8) : bs x ++ bs y = bs (x ++ y) := ByteArray.mk_append_mk x y
theorem str_eq (a : ByteArray) : (a == a) = true := by
 show (a.data == a.data) = true
 exact beq_self_eq_true _
theorem str_ne (a : ByteArray) : (a != a) = false := by rw [bne, str_eq]; rfl
def fresh : Value → Nat
 | .string b => if b.size = 0 then 1 else 0
 | _ => 0
theorem bs_nil {l : List UInt8} (h : l ≠ []) : ¬ (bs l).toList = [] := by
 rw [ByteArray.toList_eq]
 exact fun e => h (by simpa [bs] using e)
theorem bs_emp {l : List UInt8} (h : l ≠ []) : (bs l).toList.isEmpty = false := by
 cases e : (bs l).toList with
 | nil => exact absurd e (bs_nil h)
 | cons _ _ => rfl
theorem bs_size (l : List UInt8) : (bs l).size = l.length := by simp [bs, ByteArray.size]
theorem dg_ne (n : Nat) : dg n ≠ [] := by
 by_cases h : n < 10
 ·rw [dg_one h]; simp
 ·rw [dg_two h]; simp
theorem conv1 (w : World) (m : Nat) :
  (convert 100 9 (.slice (some ⟨w.heap.size, 0, none⟩) 1 1)).run Tryd.prog (w.alloc (.cells #[.int .u8 (48 + (m : Int) % 10)] 5)) = .ok (.string (bs [ch (m % 10)])) (w.alloc (.cells #[.int .u8 (48 + (m : Int) % 10)] 5)) :=
 conv0 _ _ (48 + m % 10) (by omega) (by rw [show ((48 + m % 10 : Nat) : Int) = 48 + (m : Int) % 10 by omega]; exact (Row.new _ _ _).cell 0)
theorem app_nil (x : List UInt8) : bs x ++ (⟨#[]⟩ : ByteArray) = bs x := by
 have := bs_app x []
 rw [List.append_nil] at this
 exact this
theorem fresh_bs {x : List UInt8} (h : x ≠ []) : fresh (.string (bs x)) = 0 := by
 have : (bs x).size = x.length := by simp [bs, ByteArray.size]
 show (if (bs x).size = 0 then 1 else 0) = 0
 rw [if_neg (by rw [this]; exact fun e => h (List.length_eq_zero_iff.1 e))]
def HeadI (w : World) (n0 : Nat) (n s : Value) (wr : World) : Prop :=
 Below w.heap.size w wr ∧ ((n = .int .i64 (n0 : Int) ∧ s = .string ⟨#[]⟩) ∨ (¬ n0 < 10 ∧ n = .int .i64 ((n0 / 10 : Nat) : Int) ∧ s = .string (bs [ch (n0 % 10)])) ∨ (n = .int .i64 0 ∧ s = .string (bs (dg n0))))
set_option maxHeartbeats 1000000 in
theorem l1Int (n0 : Nat) (w : World) (h : n0 < 100) :
  Calls Tryd.prog 57 #[.int .i64 (n0 : Int)] w fun e w' => e = .returned (.string (bs (dg n0))) ∧ Below w.heap.size w w' := by
 have h0 : ¬ (n0 : Int) < 0 := by omega
 go_enter Tryd.func57, Tryd.ntmps57
 go_wp2_with fail
 go_loopw [0, 3] (fun n s wr => HeadI w n0 n s wr) (fun n s _ => (intOf n).toNat + fresh s)
 case atStart => exact ⟨Below.refl _ _, .inl ⟨rfl, rfl⟩⟩
 case round =>
  obtain ⟨hb, ⟨rfl, rfl⟩ | ⟨h1, rfl, rfl⟩ | ⟨rfl, rfl⟩⟩ := hrel
  ·have hd : ¬ (n0 : Int) % 10 < 0 := by omega
   have hconv := conv1 wr n0
   have S := Lib.hid (show HeadI w n0 (.int .i64 ((n0 : Int) / 10)) (.string (bs [ch (n0 % 10)] ++ ⟨#[]⟩)) (wr.alloc (.cells #[.int .u8 (48 + (n0 : Int) % 10)] 5)) from by
    refine ⟨hb.alloc hb.size _, ?_⟩
    rw [app_nil]
    by_cases h1 : n0 < 10
    ·exact .inr (.inr ⟨by congr 1; omega, by rw [dg_one h1, Nat.mod_eq_of_lt h1]⟩)
    ·exact .inr (.inl ⟨h1, by congr 1, rfl⟩))
   clear hb
   go_wp2
   go_roundw
   case rel => exact S.out
   case measure => rw [app_nil, fresh_bs (by simp)]; simp [intOf, fresh, ByteArray.size]; omega
  ·have hd : ¬ ((n0 / 10 : Nat) : Int) % 10 < 0 := by omega
   have hconv := conv1 wr (n0 / 10)
   have hne := bs_nil (l := [ch (n0 % 10)]) (by simp)
   have hne2 := bs_emp (l := [ch (n0 % 10)]) (by simp)
   have hov : ¬ 9223372036854775807 < (bs [ch (n0 / 10 % 10)]).size + (bs [ch (n0 % 10)]).size := by rw [bs_size, bs_size]; simp
   have hz : (((n0 / 10 : Nat) : Int) != 0) = true := by simp; omega
   have S := Lib.hid (show HeadI w n0 (.int .i64 (((n0 / 10 : Nat) : Int) / 10)) (.string (bs [ch (n0 / 10 % 10)] ++ bs [ch (n0 % 10)])) (wr.alloc (.cells #[.int .u8 (48 + ((n0 / 10 : Nat) : Int) % 10)] 5)) from by
    refine ⟨hb.alloc hb.size _, .inr (.inr ⟨by congr 1; omega, ?_⟩)⟩
    rw [bs_app, dg_two h1, dg_one (by omega), Nat.mod_eq_of_lt (show n0 / 10 < 10 by omega)])
   obtain ⟨m, hm⟩ : ∃ m, n0 / 10 = m := ⟨_, rfl⟩
   have HM := Lib.hid hm
   rw [hm] at hd hconv hz S hov ⊢
   have hm9 : m ≤ 9 := by omega
   clear hb hm
   go_wp2
   go_roundw
   case rel => exact S.out
   case measure => rw [bs_app, fresh_bs (by simp)]; simp [intOf]; have h9 := HM.out; by_cases hm0 : m = 0 <;> omega
  ·have hne := bs_nil (dg_ne n0)
   have hne2 := bs_emp (dg_ne n0)
   have F := Lib.hid hb
   clear hb
   go_wp2
   go_ret
   exact ⟨rfl, F.out⟩
end text
end
section
open Go.Lib (hid)
namespace textL
open Go.RowKit base ints marks app text
set_option maxRecDepth 100000
theorem join_snoc {l : List (List UInt8)} (x sep : List UInt8) (h : l ≠ []) : Lib.join (l ++ [x]) sep = Lib.join l sep ++ sep ++ x := by
 cases l with
 | nil => exact absurd rfl h
 | cons y r =>
  rw [List.cons_append, Lib.join_cons, Lib.join_cons]
  unfold Lib.joinTail
  simp
theorem join_bd {M : Nat} (sep : List UInt8) : ∀ xs : List (List UInt8), (∀ x ∈ xs, x.length ≤ M) → (Lib.join xs sep).length ≤ xs.length * (M + sep.length)
 | [], _ => by rw [Lib.join_nil]; simp
 | x :: r, h => by
  rw [Lib.join_cons]
  have h1 : ∀ (r : List (List UInt8)), (∀ x ∈ r, x.length ≤ M) → (Lib.joinTail sep r).length ≤ r.length * (M + sep.length) := by
   intro r
   induction r with
   | nil => intro _; simp [Lib.joinTail]
   | cons y r ih =>
    intro hr
    have h2 := ih (fun z hz => hr z (List.mem_cons_of_mem _ hz))
    have h3 := hr y (List.mem_cons_self ..)
    have e : Lib.joinTail sep (y :: r) = sep ++ y ++ Lib.joinTail sep r := by simp [Lib.joinTail]
    rw [e]
    simp only [List.length_append, List.length_cons, Nat.add_mul, Nat.one_mul]
    omega
  have h2 := h1 r (fun z hz => h z (List.mem_cons_of_mem _ hz))
  have h3 := h x (List.mem_cons_self ..)
  simp only [List.length_append, List.length_cons, Nat.add_mul, Nat.one_mul]
  omega
def StrAt (w : World) (B : Nat) (A : Option Addr) (n : Nat) (xs : List (List UInt8)) : Prop :=
 xs.length = n ∧ (0 < n → ∃ b off, A = some ⟨b, off, none⟩ ∧ b < B ∧ ∀ j, j < n → w.cell? ⟨b, off + j, none⟩ = some (.string (bs (xs.getD j []))))
theorem StrAt.below {w w' : World} {B : Nat} {A : Option Addr} {n : Nat} {xs : List (List UInt8)} (h : StrAt w B A n xs) (hb : Below B w w') : StrAt w' B A n xs :=
 ⟨h.1, fun hn => by
  obtain ⟨b, off, e, hbB, hc⟩ := h.2 hn
  exact ⟨b, off, e, hbB, fun j hj => (hb.cell (p := ⟨b, off + j, none⟩) hbB).trans (hc j hj)⟩⟩
def OwnS (w : World) (base : Nat) (v : Value) (xs : List (List UInt8)) : Prop := w.ownsRow base 9 1 v xs.length (xs.map fun x => Value.string (bs x))
theorem OwnS.nil (w : World) (base : Nat) : OwnS w base (.slice none 0 0) [] := World.ownsRow_nil w base 9 1
theorem OwnS.form {w : World} {base : Nat} {v : Value} {xs : List (List UInt8)} (h : OwnS w base v xs) : (v = .slice none 0 0 ∧ xs = []) ∨
  ∃ g c cur, v = .slice (some ⟨g, 0, none⟩) xs.length c ∧ base ≤ g ∧ Row w g 9 cur ∧ xs.length ≤ c ∧ ∀ j, j < xs.length → cur[j]? = some (.string (bs (xs.getD j []))) := by
 obtain ⟨h1, h2⟩ := h
 rcases h2 with ⟨rfl, h0⟩ | ⟨g, cap, cur, rfl, hb, hg, hn, _, hs, ht⟩
 ·exact .inl ⟨rfl, List.eq_nil_of_length_eq_zero h0⟩
 ·refine .inr ⟨g, cap, cur, rfl, hb, hg, hn, fun j hj => ?_⟩
  have h3 : (cur.toList.take (xs.length * 1))[j]? = (xs.map fun x => Value.string (bs x))[j]? := by rw [ht]
  rw [List.getElem?_take, if_pos (by omega)] at h3
  simpa [List.getD, hj] using h3
theorem OwnS.slice {w : World} {base : Nat} {v : Value} {xs : List (List UInt8)} (h : OwnS w base v xs) : ∃ A c, v = .slice A xs.length c := by
 rcases h.form with ⟨rfl, rfl⟩ | ⟨g, c, _, rfl, _⟩
 ·exact ⟨none, 0, rfl⟩
 ·exact ⟨_, c, rfl⟩
theorem OwnS.next {w w' : World} {base : Nat} {v : Value} {xs : List (List UInt8)} (h : OwnS w base v xs) (hb : Below w.heap.size w w') : OwnS w' base v xs :=
 World.ownsRow.kept h ⟨hb.os, hb.tape, hb.output, hb.size, fun k hk _ => hb.block k hk⟩ (row := none) (by cases v.ownBlock <;> simp)
theorem OwnS.at {w : World} {base : Nat} {A : Option Addr} {n c : Nat} {xs : List (List UInt8)} (h : OwnS w base (.slice A n c) xs) : StrAt w w.heap.size A n xs := by
 rcases h.form with ⟨e, rfl⟩ | ⟨g, c', cur, e, hb, hr, hs, hc⟩
 ·injection e with e1 e2 e3
  subst e1 e2
  exact ⟨rfl, fun h => absurd h (by omega)⟩
 ·injection e with e1 e2 e3
  subst e1 e2
  exact ⟨rfl, fun _ => ⟨g, 0, rfl, hr.lt, fun j hj => by rw [Nat.zero_add]; exact (hr.cell j).trans (hc j hj)⟩⟩
theorem ownS_empty (w : World) (base : Nat) (hb : base ≤ w.heap.size) : OwnS (w.alloc (.cells #[] 9)) base (.slice (some ⟨w.heap.size, 0, none⟩) 0 0) [] :=
 ⟨rfl, .inr ⟨w.heap.size, 0, #[], rfl, hb, Row.new _ _ _, Nat.le_refl _, by unfold maxLen; omega, rfl, rfl⟩⟩
theorem info_str : (Tryd.prog.info? 9).map (fun i => (i.zero, i.size, i.bytes)) = some (some (.string ⟨#[]⟩), 1, 16) := by kernel_rfl
theorem app1S {w : World} {ops : Array Oper} {rest : List Oper} {o : Oper} {a : Act} {Q : Exit → Act → World → Prop} (hgd : o.guard = none) (s x : Operand)
  (ho : o.op = .call { callee := .builtin .append, args := #[s, x], argTypes := #[63, 63] })
  (base : Nat) (A : Option Addr) (n c : Nat) (xs : List (List UInt8)) (hs : a.eval s = .slice A n c) (hown : OwnS w base (.slice A n c) xs)
  (g c2 : Nat) (y : List UInt8) (hx : a.eval x = .slice (some ⟨g, 0, none⟩) 1 c2) (hy : w.cell? ⟨g, 0, none⟩ = some (.string (bs y))) (hn : n ≤ 2097152) (hbase : base ≤ w.heap.size)
  (h : ∀ A' c' w', OwnS w' base (.slice A' (n + 1) c') (xs ++ [y]) → Below base w w' → wpList Tryd.prog ops Q rest (a.put o.dst (.slice A' (n + 1) c')) w') : wpList Tryd.prog ops Q (o :: rest) a w := by
 obtain ⟨i0, hi, hz0, hz1, hz2⟩ := info_parts info_str
 have hl : xs.length = n := by
  obtain ⟨A', c', e⟩ := hown.slice
  injection e with _ e _
  exact e.symm
 refine wpList_append_own w hgd s x 63 ho base 9 i0 (.string ⟨#[]⟩) 1 16 Tryd.underlying63 hi hz0 hz1 hz2 rfl (by decide) (.slice A n c) n (xs.map fun x => Value.string (bs x)) hs (by rw [← hl]; rw [← hl] at hown; exact hown)
  ⟨g, 0, none⟩ 1 c2 [.string (bs y)] hx rfl (fun j u hj => ?_) (fun u hu => ?_) (by unfold maxLen; omega) (by omega) hbase ?_
 ·match j, hj with
  | 0, hj => simp at hj; subst hj; simpa [Addr.add] using hy
 ·simp at hu; subst hu; rfl
 ·intro v' w' hown' hg _
  have : (xs.map fun x => Value.string (bs x)) ++ [.string (bs y)] = (xs ++ [y]).map fun x => Value.string (bs x) := by simp
  rw [this] at hown'
  have ho2 : OwnS w' base v' (xs ++ [y]) := by
   have h9 : n + 1 = (xs ++ [y]).length := by simp; omega
   rw [h9] at hown'
   exact hown'
  obtain ⟨A', c', e⟩ := ho2.slice
  subst e
  have h9 : (xs ++ [y]).length = n + 1 := by simp; omega
  rw [h9] at ho2 ⊢
  exact h A' c' w' ho2 ((Below.refl base w).grown hg hbase (fun k hk => (World.ownsRow.lt hown k hk).1))
theorem join_take {xs : List (List UInt8)} {sep : List UInt8} {k : Nat} (hk : k < xs.length) (h0 : k ≠ 0) : Lib.join (xs.take (k + 1)) sep = Lib.join (xs.take k) sep ++ sep ++ xs.getD k [] := by
 have hne : xs.take k ≠ [] := by
  intro e
  have h9 : (xs.take k).length = 0 := by rw [e]; rfl
  rw [List.length_take] at h9
  omega
 rw [List.take_succ_eq_append_getElem hk, join_snoc _ _ hne]
 simp [List.getD, hk]
theorem join_take_le {M : Nat} {xs : List (List UInt8)} {sep : List UInt8} (h : ∀ x ∈ xs, x.length ≤ M) (k : Nat) : (Lib.join (xs.take k) sep).length ≤ xs.length * (M + sep.length) := by
 refine Nat.le_trans (join_bd (M := M) sep (xs.take k) (fun x hx => h x (List.mem_of_mem_take hx))) (Nat.mul_le_mul_right _ ?_)
 rw [List.length_take]
 omega
theorem getD_le {M : Nat} {xs : List (List UInt8)} (h : ∀ x ∈ xs, x.length ≤ M) (k : Nat) : (xs.getD k []).length ≤ M := by
 by_cases hk : k < xs.length
 ·simp only [List.getD, List.getElem?_eq_getElem hk, Option.getD_some]
  exact h _ (List.getElem_mem hk)
 ·simp [List.getD, hk]
def HeadWd (w : World) (n : Nat) (xs : List (List UInt8)) (sep : List UInt8) (s i : Value) (wr : World) : Prop :=
 ∃ k : Nat, k ≤ n ∧ i = .int .i64 k ∧ s = .string (bs (Lib.join (xs.take k) sep)) ∧ Below w.heap.size w wr
set_option maxHeartbeats 2000000 in
theorem l1Words (A : Option Addr) (n c : Nat) (xs : List (List UInt8)) (sep : List UInt8) (w : World) (h : StrAt w w.heap.size A n xs) (hn : n ≤ 1048576) (hx : ∀ x ∈ xs, x.length ≤ 4096) (hs : sep.length ≤ 4096) :
  Calls Tryd.prog 58 #[.slice A n c, .string (bs sep)] w fun e w' => e = .returned (.string (bs (Lib.join xs sep))) ∧ Below w.heap.size w w' := by
 have HB := hid (fun k => join_take_le (sep := sep) hx k)
 have HG := hid (fun k => getD_le hx k)
 have HL := hid h.1
 have H := hid h
 have HS := hid hs
 have HN := hid hn
 clear h hx hs
 go_enter Tryd.func58, Tryd.ntmps58
 go_wp2_with fail
 go_loopw [5, 6] (fun s i wr => HeadWd w n xs sep s i wr) (fun _ i _ => n - (intOf i).toNat)
 case atStart => exact ⟨0, Nat.zero_le _, rfl, by rw [List.take_zero, Lib.join_nil]; rfl, Below.refl _ _⟩
 case round =>
  obtain ⟨k, hk, rfl, rfl, hb⟩ := hrel
  by_cases hlt : k < n
  ·obtain ⟨b, off, rfl, hbB, hc⟩ := (H.out.below hb).2 (by omega)
   have c0 := hc k hlt
   obtain ⟨y, hy⟩ : ∃ y, xs.getD k [] = y := ⟨_, rfl⟩
   obtain ⟨J, hJ⟩ : ∃ J, Lib.join (xs.take k) sep = J := ⟨_, rfl⟩
   have hJl : J.length ≤ 1048576 * 8192 := by
    rw [← hJ]
    refine Nat.le_trans (HB.out k) (Nat.mul_le_mul (by rw [HL.out]; exact HN.out) (by have := HS.out; omega))
   have hyl : y.length ≤ 4096 := by rw [← hy]; exact HG.out k
   have hsl := HS.out
   rw [hy] at c0
   rw [hJ]
   have i0 : (0 : Int) ≤ (k : Int) := by omega
   have i1 : (k : Int) < (n : Int) := by omega
   by_cases h0 : k = 0
   ·have hk0 : ¬ (0 : Int) < (k : Int) := by omega
    have o2 : ¬ 9223372036854775807 < (bs J).size + (bs y).size := by rw [bs_size, bs_size]; omega
    have S := hid (show HeadWd w n xs sep (.string (bs J ++ bs y)) (.int .i64 ((k : Int) + 1)) wr from ⟨k + 1, by omega, by simp, by
     have hy : xs.getD 0 [] = y := by rw [← hy, h0]
     have hlt : 0 < n := by omega
     rw [bs_app, ← hJ, h0, List.take_zero, Lib.join_nil, List.nil_append]
     have e : xs.take (0 + 1) = [y] := by
      have h9 := List.take_succ_eq_append_getElem (l := xs) (i := 0) (by rw [HL.out]; exact hlt)
      rw [List.take_zero, List.nil_append] at h9
      have h10 : xs[0]'(by rw [HL.out]; exact hlt) = y := by rw [← hy]; simp [List.getD, HL.out, hlt]
      rw [h9, h10]
     rw [e, Lib.join_one], hb⟩)
    clear hb hc hJ hy hJl hyl h0
    go_wp2
    go_roundw
    case rel => exact S.out
    case measure => simp [intOf]; omega
   ·have o1 : ¬ 9223372036854775807 < (bs J).size + (bs sep).size := by rw [bs_size, bs_size]; omega
    have o2 : ¬ 9223372036854775807 < (bs J ++ bs sep).size + (bs y).size := by rw [bs_app, bs_size, bs_size, List.length_append]; omega
    have o3 : ¬ 9223372036854775807 < (bs J).size + (bs sep).size + (bs y).size := by rw [bs_size, bs_size, bs_size]; omega
    have hk0 : (0 : Int) < (k : Int) := by omega
    have S := hid (show HeadWd w n xs sep (.string (bs J ++ bs sep ++ bs y)) (.int .i64 ((k : Int) + 1)) wr from ⟨k + 1, by omega, by simp, by
     rw [bs_app, bs_app, join_take (by rw [HL.out]; exact hlt) h0, hJ, hy], hb⟩)
    clear hb hc hJ hy hJl hyl
    go_wp2
    go_roundw
    case rel => exact S.out
    case measure => simp [intOf]; omega
  ·have e : xs.take k = xs := List.take_of_length_le (by rw [HL.out]; omega)
   rw [e]
   have hkn : k = n := by omega
   have F := hid hb
   clear hb e
   subst hkn
   go_wp2
   go_ret
   exact ⟨rfl, F.out⟩
theorem numberText (n : Nat) (w : World) (h : n < 100) :
  Calls Tryd.prog 48 #[.int .i64 (n : Int)] w fun e w' => e = .returned (.string (bs (dg n))) ∧ w' = w := by
 have L := hid (Tryd.strconv_FormatInt_10_small n h w)
 go_enter Tryd.func48, Tryd.ntmps48
 go_wp2_with fail
 refine L.out.mono ?_
 rintro e w' ⟨rfl, rfl⟩
 go_wp2
 go_ret
 exact ⟨rfl, rfl⟩
theorem joinOwn (A : Option Addr) (n c : Nat) (xs : List (List UInt8)) (sep : List UInt8) (w : World) {base : Nat} (h : OwnS w base (.slice A n c) xs) (hn : n ≤ 1048576) (hx : ∀ x ∈ xs, x.length ≤ 4096) (hs : sep.length ≤ 4096) :
  Calls Tryd.prog 49 #[.slice A n c, .string (bs sep)] w fun e w' => e = .returned (.string (bs (Lib.join xs sep))) ∧ Below w.heap.size w w' := by
 have hl : xs.length = n := h.at.1
 rcases h.form with ⟨e, rfl⟩ | ⟨g, c', cur, e, hb, hr, hcc, hc⟩
 ·injection e with e1 e2 e3
  subst e1 e2 e3
  exact (Tryd.strings_Join_none none 0 (bs sep) w).mono fun e w' ⟨he, hw⟩ => ⟨by rw [he, Lib.join_nil]; rfl, by rw [hw]; exact Below.refl _ _⟩
 ·injection e with e1 e2 e3
  subst e1 e2 e3
  have hm : ∀ (l : List (List UInt8)), (l.map bs).map (·.data.toList) = l := by
   intro l
   rw [List.map_map]
   conv => rhs; rw [← List.map_id l]
   exact List.map_congr_left (fun x _ => by simp [bs])
  have hlen := join_bd (M := 4096) sep xs hx
  have hb2 : (Lib.join xs sep).length ≤ 140737488355328 := Nat.le_trans hlen (Nat.le_trans (Nat.mul_le_mul (show xs.length ≤ 1048576 from hn) (show 4096 + sep.length ≤ 8192 by omega)) (by decide))
  have J := Tryd.strings_Join g 0 c (xs.map bs) (bs sep) w (fun j x hj => by
   have hjl : j < xs.length := by have := (List.getElem?_eq_some_iff.1 hj).1; simpa using this
   rw [List.getElem?_map, List.getElem?_eq_getElem hjl] at hj
   have hx2 : bs xs[j] = x := by simpa using hj
   have h8 : xs.getD j [] = xs[j] := by simp [List.getD, hjl]
   rw [Nat.zero_add, ← hx2, ← h8]
   exact (hr.cell j).trans (hc j hjl)) hr.lt (by simp; omega) (by simp; exact hcc) (by
   rw [hm]
   have e9 : (bs sep).data.toList = sep := by simp [bs]
   rw [e9]
   exact hb2)
  rw [List.length_map] at J
  refine J.mono fun e w' ⟨he, hw⟩ => ⟨?_, hw⟩
  rw [he, hm]
  have e9 : (bs sep).data.toList = sep := by simp [bs]
  rw [e9]
  rfl
end textL
end
section
namespace endOf
open Go.RowKit base ints sig term arity
end endOf
end
section
namespace termOk
open Go.RowKit base ints sig term arity endOf cursor
theorem sig_arities {sg : List Int} (h : sigOkB sg = true) : Arities sg ∧ 1 ≤ sg.length ∧ sg.length ≤ 8 := by
 unfold sigOkB at h
 rw [Bool.and_eq_true, decide_eq_true_eq, List.all_eq_true] at h
 refine ⟨fun j hj => ?_, h.1⟩
 have := h.2 (sg[j]) (List.getElem_mem hj)
 simp [arityOk] at this
 simp [List.getD, hj]
 omega
end termOk
end
section
namespace sym
open Go.RowKit base ints marks app
theorem Own.len {w : World} {base : Nat} {A : Option Addr} {n c : Nat} {xs : List Int} (h : Own w base (.slice A n c) xs) : n = xs.length := by
 obtain ⟨_, _, e⟩ := h.slice
 injection e
theorem Own.lower {w : World} {base base' : Nat} {v : Value} {xs : List Int} (h : Own w base v xs) (hb : base' ≤ base) : Own w base' v xs := by
 obtain ⟨h1, h2⟩ := h
 refine ⟨h1, ?_⟩
 rcases h2 with h2 | ⟨g, cap, cur, hv, hg, r⟩
 ·exact .inl h2
 ·exact .inr ⟨g, cap, cur, hv, Nat.le_trans hb hg, r⟩
end sym
end
section
namespace appAt
open Go.RowKit base ints marks app
set_option maxRecDepth 100000
theorem blk_own (A : Option Addr) (n c : Nat) : (Value.slice A n c).ownBlock = blk A := by cases A <;> rfl
end appAt
end
section
namespace segs
open Go.RowKit base ints marks app sym appAt
set_option maxRecDepth 100000
def Cap (A : Option Addr) (n c : Nat) : Prop := n ≤ c ∧ c ≤ 9223372036854775807 ∧ (A = none → c = 0)
section
variable {w w' : World} {B B' n : Nat} {A : Option Addr} {xss : List (List Int)}
structure Btw (lo hi : Nat) (w w' : World) : Prop where
 os : w'.os = w.os
 tape : w'.tape = w.tape
 output : w'.output = w.output
 size : w.heap.size ≤ w'.heap.size
 block : ∀ k, k < w.heap.size → (k < lo ∨ hi ≤ k) → w'.heap[k]? = w.heap[k]?
theorem Btw.below {lo hi : Nat} (h : Btw lo hi w w') (hB : B ≤ lo) (hs : B ≤ w.heap.size) : Below B w w' := ⟨h.os, h.tape, h.output, h.size, fun k hk => h.block k (by omega) (.inl (by omega))⟩
theorem Below.btw {a : World} {lo hi : Nat} (h : Below B a w) (k : Btw lo hi w w') (hB : B ≤ lo) (hs : B ≤ w.heap.size) : Below B a w' := h.trans (k.below hB hs)
theorem Row.btw {g : Nat} {t : TypeId} {cs : Array Value} {lo hi : Nat} (h : Row w g t cs) (hb : Btw lo hi w w') (hg : g < lo ∨ hi ≤ g) : Row w' g t cs := (hb.block g h.lt hg).trans h
end
def Inn (w : World) (lo hi : Nat) (v : Value) (xs : List Int) : Prop := ∃ A c, v = .slice A xs.length c ∧ Own w lo v xs ∧ ∀ k, blk A = some k → k < hi
def Apart (n : Nat) (vs : List Value) : Prop := ∀ i j k, i < j → j < n → (vs.getD i undef).ownBlock = some k → (vs.getD j undef).ownBlock ≠ some k
structure Owns (w : World) (lo hi : Nat) (A : Option Addr) (n c : Nat) (xss : List (List Int)) : Prop where
 len : xss.length = n
 row : ∃ vs : List Value, w.ownsRow lo 22 1 (.slice A n c) n vs ∧ (∀ j, j < n → Inn w lo hi (vs.getD j undef) (xss.getD j [])) ∧ Apart n vs
 top : ∀ k, blk A = some k → k < hi
section
variable {w w' : World} {lo hi n c : Nat} {A : Option Addr} {xss : List (List Int)}
theorem own_form {base n c : Nat} {A : Option Addr} {vs : List Value} {t : TypeId} (h : w.ownsRow base t 1 (.slice A n c) n vs) : (A = none ∧ n = 0 ∧ c = 0 ∧ vs = []) ∨
  ∃ g cur, A = some ⟨g, 0, none⟩ ∧ base ≤ g ∧ Row w g t cur ∧ n ≤ c ∧ cur.size = c ∧ c ≤ 9223372036854775807 ∧ vs.length = n ∧ ∀ j, j < n → cur[j]? = some (vs.getD j undef) := by
 have hl : vs.length = n := by have := h.1; omega
 obtain ⟨h1, h2⟩ := h
 rcases h2 with ⟨e, h0⟩ | ⟨g, cap, cur, e, hb, hg, hn, hm, hs, ht⟩
 ·have e1 := (Value.slice.inj e)
  obtain ⟨rfl, rfl, rfl⟩ := e1
  exact .inl ⟨rfl, rfl, rfl, List.eq_nil_of_length_eq_zero hl⟩
 ·have e1 := (Value.slice.inj e)
  obtain ⟨rfl, -, rfl⟩ := e1
  refine .inr ⟨g, cur, rfl, hb, hg, hn, by omega, by unfold maxLen at hm; omega, hl, fun j hj => ?_⟩
  have h3 : (cur.toList.take (n * 1))[j]? = vs[j]? := by rw [ht]
  rw [List.getElem?_take, if_pos (by omega)] at h3
  rw [← Array.getElem?_toList, h3]
  simp [List.getD, show j < vs.length by omega]
theorem Inn.blk {v : Value} {xs : List Int} (h : Inn w lo hi v xs) : ∀ k, v.ownBlock = some k → lo ≤ k ∧ k < hi ∧ k < w.heap.size := fun k hk => by
 obtain ⟨A, c, rfl, ho, ht⟩ := h
 have h1 := World.ownsRow.lt ho k hk
 rw [blk_own] at hk
 exact ⟨h1.1, ht k hk, h1.2⟩
theorem Inn.cap {v : Value} {xs : List Int} (h : Inn w lo hi v xs) : ∃ A c, v = .slice A xs.length c ∧ Own w lo v xs ∧ Cap A xs.length c := by
 obtain ⟨A, c, rfl, ho, ht⟩ := h
 refine ⟨A, c, rfl, ho, ?_⟩
 rcases own_form (n := xs.length) (vs := xs.map (Value.int .i64)) ho with ⟨rfl, h1, rfl, _⟩ | ⟨g, cur, rfl, _, _, h1, h2, h3, _⟩
 ·exact ⟨by omega, by omega, fun _ => rfl⟩
 ·exact ⟨h1, h3, fun e => by cases e⟩
theorem Owns.cap (h : Owns w lo hi A n c xss) : Cap A n c := by
 obtain ⟨vs, hr, _⟩ := h.row
 rcases own_form hr with ⟨rfl, h1, rfl, _⟩ | ⟨g, cur, rfl, _, _, h1, h2, h3, _⟩
 ·exact ⟨by omega, by omega, fun _ => rfl⟩
 ·exact ⟨h1, h3, fun e => by cases e⟩
theorem Owns.nil (w : World) (lo hi : Nat) : Owns w lo hi none 0 0 [] :=
 ⟨rfl, ⟨[], World.ownsRow_nil w lo 22 1, fun j hj => absurd hj (Nat.not_lt_zero _), fun i j k _ hj => absurd hj (Nat.not_lt_zero _)⟩, fun k hk => by cases hk⟩
end
end segs
end
section
namespace segsHelp
open Go.RowKit base ints sig cursor marks app sym appAt segs
set_option maxRecDepth 100000
end segsHelp
end
section
namespace segsMark
open Go.RowKit base ints sig cursor marks app sym appAt segs segsHelp
set_option maxRecDepth 100000
def AnsMarkO (w : World) (base : Nat) (A : Option Addr) (n c : Nat) (k : Int) (e : Ending) (w' : World) : Prop :=
 e = .returned (.int .i64 (k + (n : Int))) ∧ w.grownBy w' (blk A) ∧ Own w' base (.slice A n c) (marks k n)
set_option maxHeartbeats 1000000 in
theorem markOwn (base : Nat) (A : Option Addr) (n c : Nat) (xs : List Int) (k : Int) (w : World) (h : Own w base (.slice A n c) xs) (hn : n ≤ 1048576) (hk0 : 0 ≤ k) (hk : k ≤ 1099511627776) :
  Calls Tryd.prog 15 #[.slice A n c, .int .i64 k] w (AnsMarkO w base A n c k) := by
 have hl := Own.len h
 by_cases h0 : n = 0
 ·subst h0
  have hx : xs = [] := List.eq_nil_of_length_eq_zero hl.symm
  subst hx
  have HO := Lib.hid h
  clear h hl
  go_enter Tryd.func15, Tryd.ntmps15
  go_wp2
  go_loop [1, 5] (fun kk i => kk = .int .i64 k ∧ i = .int .i64 0) (fun _ _ => 0)
  case atStart => exact ⟨rfl, rfl⟩
  case round =>
   obtain ⟨rfl, rfl⟩ := hrel
   go_wp2
   go_ret
   exact ⟨by simp, World.grownBy.refl _ _, by simpa [marks] using HO.out⟩
 ·rcases own_form (n := n) (vs := xs.map (Value.int .i64)) (by rw [hl]; rw [hl] at h; exact h) with ⟨_, e, _⟩ | ⟨g, cs0, rfl, hb, hr0, hnc, hz0, hmax, _, _⟩
  ·exact absurd e h0
  have S0 : HeadMark w g n k c (.int .i64 k) (.int .i64 0) w := ⟨0, cs0, Nat.zero_le _, rfl, by simp, hr0, hz0, fun q hq => absurd hq (Nat.not_lt_zero _), World.grownBy.refl _ _⟩
  have HS0 := Lib.hid S0
  clear S0 hz0 hr0 hl h
  go_enter Tryd.func15, Tryd.ntmps15
  go_wp2
  go_loopw [1, 5] (fun kk i wr => HeadMark w g n k c kk i wr) (fun _ i _ => n - (intOf i).toNat)
  case atStart => exact HS0.out
  case round =>
   obtain ⟨j, cs, hj, rfl, rfl, hr, hs, hc, hg⟩ := hrel
   clear HS0
   by_cases hlt : j < n
   ·have S := Lib.hid (headMark_step (k := k) hlt hnc hr hs hc hg)
    obtain ⟨u, hu⟩ : ∃ u, wr.cell? ⟨g, j, none⟩ = some u := ⟨_, (hr.cell j).trans (Array.getElem?_eq_getElem (by omega))⟩
    have hf : wr.frozen? ⟨g, j, none⟩ = false := hr.free j
    clear hr hs hc hg
    go_wp2
    go_roundw
    case rel => exact S.out
    case measure => simp [intOf]; omega
   ·have e : j = n := by omega
    subst e
    have F : AnsMarkO w base (some ⟨g, 0, none⟩) j c k (.returned (.int .i64 (k + (j : Int)))) wr :=
     ⟨rfl, hg, Own.of_row hr (marks_len _ _) hs hnc hmax hb (fun q hq => by rw [marks_get hq]; exact hc q hq)⟩
    have HF := Lib.hid F
    clear F hr hs hc hg
    go_wp2
    go_ret
    exact HF.out
end segsMark
end
section
namespace kinds
open Go.RowKit base ints sig cursor marks app sym appAt segs segsHelp segsMark
set_option maxRecDepth 100000
def Ownd (w : World) (lo hi : Nat) (A : Option Addr) (n c : Nat) (xs : List Int) : Prop := Own w lo (.slice A n c) xs ∧ ∀ k, blk A = some k → k < hi
section
variable {w w' : World} {lo hi n c : Nat} {A : Option Addr} {xs : List Int}
theorem Ownd.of_own (h : Own w lo (.slice A n c) xs) : Ownd w lo w.heap.size A n c xs := ⟨h, fun k hk => (World.ownsRow.lt h k (by rw [blk_own]; exact hk)).2⟩
theorem Ownd.cap (h : Ownd w lo hi A n c xs) : Cap A n c := by
 have hl := Own.len h.1
 rcases own_form (n := n) (vs := xs.map (Value.int .i64)) (by rw [hl]; have := h.1; rw [hl] at this; exact this) with ⟨rfl, h1, rfl, _⟩ | ⟨g, cur, rfl, _, _, h1, h2, h3, _⟩
 ·exact ⟨by omega, by omega, fun _ => rfl⟩
 ·exact ⟨h1, h3, fun e => by cases e⟩
theorem drewN_below (w : World) (d : Nat) : Below w.heap.size w (w.drewN d) := ⟨rfl, rfl, rfl, Nat.le_refl _, fun _ _ => rfl⟩
end
theorem intsEq (A A' : Option Addr) (n n' c c' : Nat) (xs : List Int) (w : World) (h : Seg w w.heap.size A n xs) (h' : Seg w w.heap.size A' n' xs) (hn : n ≤ 1048576) :
  Calls Tryd.prog 12 #[.slice A n c, .slice A' n' c'] w fun e w' => e = .returned (.bool true) ∧ Below w.heap.size w w' := by
 obtain rfl : n = n' := by rw [← h.1, ← h'.1]
 exact (eqYes A A' n c c' xs w h h' hn).mono fun _ _ ⟨he, d, hd⟩ => ⟨he, by rw [hd]; exact drewN_below _ _⟩
end kinds
end
section
namespace shape
open Go.RowKit base ints sig cursor marks app sym appAt segs segsHelp segsMark kinds
inductive Sh where
 | num : Sh
 | bit : Sh
 | row : TypeId → Sh → Sh
 | cat : Sh → Sh → Sh
@[reducible] def Dat : Sh → Type
 | .num => Int
 | .bit => Bool
 | .row _ s => List (Dat s)
 | .cat a b => Dat a × Dat b
def nc : Sh → Nat
 | .num => 1
 | .bit => 1
 | .row _ _ => 1
 | .cat a b => nc a + nc b
def dft : (s : Sh) → Dat s
 | .num => (0 : Int)
 | .bit => false
 | .row _ _ => []
 | .cat a b => (dft a, dft b)
def Piece (w : World) (b off : Nat) (es : List Value) : Prop := ∀ i, i < es.length → w.cell? ⟨b, off + i, none⟩ = es[i]?
def Rd (w : World) (B : Nat) : (s : Sh) → List Value → Dat s → Prop
 | .num, cs, (x : Int) => cs = [.int .i64 x]
 | .bit, cs, (x : Bool) => cs = [.bool x]
 | .row _ s, cs, (d : List (Dat s)) => ∃ A n c, cs = [.slice A n c] ∧ Cap A n c ∧ d.length = n ∧
   (0 < n → ∃ b off, A = some ⟨b, off, none⟩ ∧ b < B ∧ ∀ j, j < n → ∃ es, es.length = nc s ∧ Piece w b (off + j * nc s) es ∧ Rd w B s es (d.getD j (dft s)))
 | .cat a b, cs, d => ∃ ca cb, cs = ca ++ cb ∧ Rd w B a ca d.1 ∧ Rd w B b cb d.2
def Ow (w : World) : (s : Sh) → List Value → Dat s → List Nat → Prop
 | .num, cs, (x : Int), F => cs = [.int .i64 x] ∧ F = []
 | .bit, cs, (x : Bool), F => cs = [.bool x] ∧ F = []
 | .row e s, cs, (d : List (Dat s)), F => ∃ A n c, cs = [.slice A n c] ∧ d.length = n ∧
   ((A = none ∧ n = 0 ∧ c = 0 ∧ F = []) ∨ ∃ (g : Nat) (cur : Array Value) (E : Nat → List Value) (G : Nat → List Nat), A = some ⟨g, 0, none⟩ ∧ Row w g e cur ∧ n ≤ c ∧ c ≤ 9223372036854775807 ∧ cur.size = c * nc s ∧
    F = g :: (List.range n).flatMap G ∧ ∀ j, j < n → (E j).length = nc s ∧ (∀ i, i < nc s → cur[j * nc s + i]? = (E j)[i]?) ∧ Ow w s (E j) (d.getD j (dft s)) (G j))
 | .cat a b, cs, d, F => ∃ ca cb Fa Fb, cs = ca ++ cb ∧ F = Fa ++ Fb ∧ Ow w a ca d.1 Fa ∧ Ow w b cb d.2 Fb
section
variable {w w' : World} {B B' : Nat}
theorem Rd.len : ∀ {s : Sh} {cs : List Value} {d : Dat s}, Rd w B s cs d → cs.length = nc s
 | .num, _, _, h => by have h : _ = _ := h; rw [h]; rfl
 | .bit, _, _, h => by have h : _ = _ := h; rw [h]; rfl
 | .row _ _, _, _, h => by obtain ⟨A, n, c, e, _⟩ := h; rw [e]; rfl
 | .cat a b, _, _, h => by
  obtain ⟨ca, cb, e, h1, h2⟩ := h
  rw [e, List.length_append, h1.len, h2.len]; rfl
theorem Piece.keep {b off : Nat} {es : List Value} (h : Piece w b off es) (hk : ∀ p : Addr, p.block = b → w'.cell? p = w.cell? p) : Piece w' b off es := fun i hi => (hk _ rfl).trans (h i hi)
theorem Rd.keep (hk : ∀ p : Addr, p.block < B → w'.cell? p = w.cell? p) : ∀ {s : Sh} {cs : List Value} {d : Dat s}, Rd w B s cs d → Rd w' B s cs d
 | .num, _, _, h => h
 | .bit, _, _, h => h
 | .row _ s, _, _, h => by
  obtain ⟨A, n, c, e, hc, hl, h1⟩ := h
  refine ⟨A, n, c, e, hc, hl, fun hn => ?_⟩
  obtain ⟨b, off, e2, hb, h2⟩ := h1 hn
  refine ⟨b, off, e2, hb, fun j hj => ?_⟩
  obtain ⟨es, he, hp, hr⟩ := h2 j hj
  exact ⟨es, he, hp.keep (fun p hp => hk p (by rw [hp]; exact hb)), hr.keep hk⟩
 | .cat a b, _, _, h => by
  obtain ⟨ca, cb, e, h1, h2⟩ := h
  exact ⟨ca, cb, e, h1.keep hk, h2.keep hk⟩
theorem Rd.more (hB : B ≤ B') : ∀ {s : Sh} {cs : List Value} {d : Dat s}, Rd w B s cs d → Rd w B' s cs d
 | .num, _, _, h => h
 | .bit, _, _, h => h
 | .row _ s, _, _, h => by
  obtain ⟨A, n, c, e, hc, hl, h1⟩ := h
  refine ⟨A, n, c, e, hc, hl, fun hn => ?_⟩
  obtain ⟨b, off, e2, hb, h2⟩ := h1 hn
  refine ⟨b, off, e2, by omega, fun j hj => ?_⟩
  obtain ⟨es, he, hp, hr⟩ := h2 j hj
  exact ⟨es, he, hp, hr.more hB⟩
 | .cat a b, _, _, h => by
  obtain ⟨ca, cb, e, h1, h2⟩ := h
  exact ⟨ca, cb, e, h1.more hB, h2.more hB⟩
theorem Rd.below {s : Sh} {cs : List Value} {d : Dat s} (h : Rd w B s cs d) (hb : Below B w w') : Rd w' B s cs d := h.keep fun _ hp => hb.cell hp
theorem Rd.next {s : Sh} {cs : List Value} {d : Dat s} (h : Rd w w.heap.size s cs d) (hb : Below w.heap.size w w') : Rd w' w'.heap.size s cs d := (h.below hb).more hb.size
theorem Ow.len : ∀ {s : Sh} {cs : List Value} {d : Dat s} {F : List Nat}, Ow w s cs d F → cs.length = nc s
 | .num, _, _, _, h => by obtain ⟨e, _⟩ := h; rw [e]; rfl
 | .bit, _, _, _, h => by obtain ⟨e, _⟩ := h; rw [e]; rfl
 | .row _ _, _, _, _, h => by obtain ⟨A, n, c, e, _⟩ := h; rw [e]; rfl
 | .cat a b, _, _, _, h => by
  obtain ⟨ca, cb, Fa, Fb, e, _, h1, h2⟩ := h
  rw [e, List.length_append, h1.len, h2.len]; rfl
theorem Ow.keep : ∀ {s : Sh} {cs : List Value} {d : Dat s} {F : List Nat}, Ow w s cs d F → (∀ k ∈ F, w'.heap[k]? = w.heap[k]?) → Ow w' s cs d F
 | .num, _, _, _, h, _ => h
 | .bit, _, _, _, h, _ => h
 | .row e s, _, _, F, h, hk => by
  obtain ⟨A, n, c, e1, hl, h1⟩ := h
  refine ⟨A, n, c, e1, hl, ?_⟩
  rcases h1 with h1 | ⟨g, cur, E, G, e2, hr, h2, h3, h4, h5, h6⟩
  ·exact .inl h1
  ·subst h5
   refine .inr ⟨g, cur, E, G, e2, (hk g (List.mem_cons_self ..)).trans hr, h2, h3, h4, rfl, fun j hj => ?_⟩
   obtain ⟨q1, q2, q3⟩ := h6 j hj
   exact ⟨q1, q2, q3.keep fun k hkG => hk k (List.mem_cons_of_mem _ (List.mem_flatMap.2 ⟨j, List.mem_range.2 hj, hkG⟩))⟩
 | .cat a b, _, _, F, h, hk => by
  obtain ⟨ca, cb, Fa, Fb, e, e2, h1, h2⟩ := h
  subst e2
  exact ⟨ca, cb, Fa, Fb, e, rfl, h1.keep fun k h => hk k (List.mem_append_left _ h), h2.keep fun k h => hk k (List.mem_append_right _ h)⟩
theorem Ow.lt : ∀ {s : Sh} {cs : List Value} {d : Dat s} {F : List Nat}, Ow w s cs d F → ∀ k ∈ F, k < w.heap.size
 | .num, _, _, _, h, k, hk => by obtain ⟨_, e⟩ := h; rw [e] at hk; cases hk
 | .bit, _, _, _, h, k, hk => by obtain ⟨_, e⟩ := h; rw [e] at hk; cases hk
 | .row e s, _, _, F, h, k, hk => by
  obtain ⟨A, n, c, e1, hl, h1⟩ := h
  rcases h1 with ⟨_, _, _, h1⟩ | ⟨g, cur, E, G, e2, hr, h2, h3, h4, h5, h6⟩
  ·rw [h1] at hk; cases hk
  ·rw [h5] at hk
   rcases List.mem_cons.1 hk with hk | hk
   ·rw [hk]; exact hr.lt
   ·obtain ⟨j, hj, hk⟩ := List.mem_flatMap.1 hk
    exact (h6 j (List.mem_range.1 hj)).2.2.lt k hk
 | .cat a b, _, _, F, h, k, hk => by
  obtain ⟨ca, cb, Fa, Fb, e, e2, h1, h2⟩ := h
  rw [e2] at hk
  rcases List.mem_append.1 hk with hk | hk
  ·exact h1.lt k hk
  ·exact h2.lt k hk
theorem Ow.next {s : Sh} {cs : List Value} {d : Dat s} {F : List Nat} (h : Ow w s cs d F) (hb : Below w.heap.size w w') : Ow w' s cs d F := h.keep fun k hk => hb.block k (h.lt k hk)
theorem Ow.rd : ∀ {s : Sh} {cs : List Value} {d : Dat s} {F : List Nat}, Ow w s cs d F → Rd w w.heap.size s cs d
 | .num, _, _, _, h => h.1
 | .bit, _, _, _, h => h.1
 | .row e s, _, _, F, h => by
  obtain ⟨A, n, c, e1, hl, h1⟩ := h
  rcases h1 with ⟨rfl, rfl, rfl, _⟩ | ⟨g, cur, E, G, e2, hr, h2, h3, h4, h5, h6⟩
  ·exact ⟨none, 0, 0, e1, ⟨by omega, by omega, fun _ => rfl⟩, hl, fun h => absurd h (by omega)⟩
  ·refine ⟨A, n, c, e1, ⟨h2, h3, fun e => by rw [e] at e2; cases e2⟩, hl, fun hn => ⟨g, 0, e2, hr.lt, fun j hj => ?_⟩⟩
   obtain ⟨q1, q2, q3⟩ := h6 j hj
   refine ⟨E j, q1, fun i hi => ?_, q3.rd⟩
   rw [Nat.zero_add, hr.cell, q2 i (by omega)]
 | .cat a b, _, _, F, h => by
  obtain ⟨ca, cb, Fa, Fb, e, e2, h1, h2⟩ := h
  exact ⟨ca, cb, e, h1.rd, h2.rd⟩
def Owned (w : World) (lo hi : Nat) (s : Sh) (cs : List Value) (d : Dat s) : Prop := ∃ F, Ow w s cs d F ∧ F.Nodup ∧ ∀ k ∈ F, lo ≤ k ∧ k < hi
variable {lo hi : Nat} {s : Sh} {cs : List Value} {d : Dat s}
theorem Owned.rd (h : Owned w lo hi s cs d) : Rd w w.heap.size s cs d := by obtain ⟨F, h, _⟩ := h; exact h.rd
theorem Owned.next (h : Owned w lo hi s cs d) (hb : Below w.heap.size w w') : Owned w' lo hi s cs d := by obtain ⟨F, h, h2⟩ := h; exact ⟨F, h.next hb, h2⟩
theorem Owned.cat {mid mid' : Nat} {a b : Sh} {ca cb : List Value} {da : Dat a} {db : Dat b} (h1 : Owned w lo mid a ca da) (h2 : Owned w mid' hi b cb db) (hm : mid ≤ mid') (hl : lo ≤ mid') (hh : mid ≤ hi) : Owned w lo hi (.cat a b) (ca ++ cb) (da, db) := by
 obtain ⟨F, h1, n1, b1⟩ := h1
 obtain ⟨G, h2, n2, b2⟩ := h2
 refine ⟨F ++ G, ⟨ca, cb, F, G, rfl, rfl, h1, h2⟩, List.nodup_append.2 ⟨n1, n2, fun x hx y hy e => ?_⟩, fun k hk => ?_⟩
 ·have := b1 x hx; have := b2 y hy; omega
 ·rcases List.mem_append.1 hk with hk | hk
  ·have := b1 k hk; omega
  ·have := b2 k hk; omega
end
abbrev sI : Sh := .row 2 .num
section
variable {w w' : World} {B : Nat}
theorem rd_ints {v : Value} {xs : List Int} : Rd w B sI [v] xs ↔ ∃ A n c, v = .slice A n c ∧ Seg w B A n xs ∧ Cap A n c := by
 constructor
 ·rintro ⟨A, n, c, e, hc, hl, h⟩
  refine ⟨A, n, c, by injection e, ⟨hl, fun hn => ?_⟩, hc⟩
  obtain ⟨b, off, e2, hb, h2⟩ := h hn
  refine ⟨b, off, e2, hb, fun j hj => ?_⟩
  obtain ⟨es, he, hp, hr⟩ := h2 j hj
  have hr : es = [.int .i64 (xs.getD j 0)] := hr
  have := hp 0 (by rw [hr]; simp)
  rw [hr] at this
  simpa [nc] using this
 ·rintro ⟨A, n, c, rfl, h, hc⟩
  refine ⟨A, n, c, rfl, hc, h.1, fun hn => ?_⟩
  obtain ⟨b, off, e2, hb, h2⟩ := h.2 hn
  refine ⟨b, off, e2, hb, fun j hj => ⟨[.int .i64 (xs.getD j 0)], rfl, fun i hi => ?_, rfl⟩⟩
  have hi : i = 0 := by simpa using hi
  subst hi
  first | (simp [nc]; done) | (simpa [nc] using h2 j hj)
theorem ow_ints {lo hi : Nat} {A : Option Addr} {n c : Nat} {xs : List Int} : Owned w lo hi sI [.slice A n c] xs ↔ Ownd w lo hi A n c xs := by
 constructor
 ·rintro ⟨F, ⟨A', n', c', e, hl, h⟩, _, hb⟩
  injection e with e
  injection e with e1 e2 e3
  subst e1 e2 e3
  rcases h with ⟨rfl, rfl, rfl, rfl⟩ | ⟨g, cur, E, G, rfl, hr, h2, h3, h4, rfl, h6⟩
  ·have hx : xs = [] := List.eq_nil_of_length_eq_zero hl
   subst hx
   exact ⟨Own.nil _ _, fun k hk => by cases hk⟩
  ·have hg := hb g (List.mem_cons_self ..)
   refine ⟨Own.of_row hr hl (by simpa [nc] using h4) h2 h3 hg.1 fun j hj => ?_, fun k hk => by have : g = k := Option.some.inj hk; omega⟩
   obtain ⟨q1, q2, q3⟩ := h6 j hj
   have q3 : E j = [.int .i64 (xs.getD j 0)] := q3.1
   have := q2 0 (by simp [nc])
   rw [q3] at this
   simpa [nc] using this
 ·rintro ⟨ho, hb⟩
  have hl := Own.len ho
  rcases own_form (n := n) (vs := xs.map (Value.int .i64)) (by rw [hl]; rw [hl] at ho; exact ho) with ⟨rfl, h1, rfl, _⟩ | ⟨g, cur, rfl, hlo, hr, h1, h2, h3, _, h5⟩
  ·subst h1
   exact ⟨[], ⟨none, 0, 0, rfl, hl.symm, .inl ⟨rfl, rfl, rfl, rfl⟩⟩, List.nodup_nil, fun k hk => by cases hk⟩
  ·have hg := hb g rfl
   refine ⟨[g], ⟨some ⟨g, 0, none⟩, n, c, rfl, hl.symm, .inr ⟨g, cur, fun j => [.int .i64 (xs.getD j 0)], fun _ => [], rfl, hr, h1, h3, by simp [nc, h2], ?_, fun j hj => ⟨rfl, fun i hi => ?_, rfl, rfl⟩⟩⟩, by simp, fun k hk => ?_⟩
   ·have : ∀ l : List Nat, l.flatMap (fun _ => ([] : List Nat)) = [] := fun l => by induction l <;> simp_all
    rw [this]
   ·have hi : i = 0 := by simpa [nc] using hi
    subst hi
    have := h5 j hj
    simp only [nc, Nat.mul_one, Nat.add_zero]
    rw [this]
    have hj' : j < xs.length := by omega
    simp [List.getD, hj']
   ·rw [List.mem_singleton.1 hk]; exact ⟨hlo, hg⟩
end
def sz : (s : Sh) → Dat s → Nat
 | .num, _ => 0
 | .bit, _ => 0
 | .row _ s, (d : List (Dat s)) => d.length + (d.map (sz s)).sum
 | .cat a b, d => sz a d.1 + sz b d.2
theorem sz_ints (xs : List Int) : sz sI xs = xs.length := by
 have : ∀ l : List Int, (l.map (sz .num)).sum = 0 := fun l => by induction l <;> simp_all [sz]
 show xs.length + (xs.map (sz .num)).sum = _
 rw [this]; rfl
def cnt : (s : Sh) → Dat s → Nat
 | .num, _ => 1
 | .bit, _ => 1
 | .row _ s, (d : List (Dat s)) => (d.map (cnt s)).sum
 | .cat a b, d => cnt a d.1 + cnt b d.2
def cntv : (s : Sh) → Dat s → Nat
 | .num, _ => 0
 | .bit, _ => 0
 | .row _ s, (d : List (Dat s)) => (d.map (cnt s)).sum
 | .cat a b, d => cntv a d.1 + cntv b d.2
def cnts (s : Sh) (d : List (Dat s)) (k : Nat) : Nat := ((d.take k).map (cnt s)).sum
def mkc : (s : Sh) → Int → Dat s → Dat s
 | .num, k, _ => k
 | .bit, k, _ => decide (k % 3 = 0)
 | .row _ s, k, (d : List (Dat s)) => (List.range d.length).map fun j => mkc s (k + (cnts s d j : Int)) (d.getD j (dft s))
 | .cat a b, k, d => (mkc a k d.1, mkc b (k + (cnt a d.1 : Int)) d.2)
def mkv : (s : Sh) → Int → Dat s → Dat s
 | .num, _, d => d
 | .bit, _, d => d
 | .row _ s, k, (d : List (Dat s)) => (List.range d.length).map fun j => mkc s (k + (cnts s d j : Int)) (d.getD j (dft s))
 | .cat a b, k, d => (mkv a k d.1, mkv b (k + (cntv a d.1 : Int)) d.2)
theorem cnt_ints : ∀ xs : List Int, (xs.map (cnt .num)).sum = xs.length
 | [] => rfl
 | x :: xs => by rw [List.map_cons, List.sum_cons, cnt_ints xs, List.length_cons]; show 1 + xs.length = _; omega
theorem cnts_ints (xs : List Int) {j : Nat} (h : j ≤ xs.length) : cnts .num xs j = j := by
 unfold cnts
 rw [cnt_ints, List.length_take]
 omega
theorem mk_ints (k : Int) (xs : List Int) : mkv sI k xs = marks k xs.length := by
 show (List.range xs.length).map _ = (List.range xs.length).map _
 refine List.map_congr_left fun j hj => ?_
 show k + ((cnts .num xs j : Nat) : Int) = k + (j : Int)
 rw [cnts_ints xs (Nat.le_of_lt (List.mem_range.1 hj))]
def wd : Sh → Nat
 | .num => 1
 | .bit => 1
 | .row _ s => wd s
 | .cat a b => wd a + wd b
theorem sum_le {α : Type} {f g : α → Nat} {C : Nat} : ∀ {l : List α}, (∀ x ∈ l, f x ≤ C * (1 + g x)) → (l.map f).sum ≤ C * (l.length + (l.map g).sum)
 | [], _ => Nat.zero_le _
 | x :: l, h => by
  have h1 := h x (List.mem_cons_self ..)
  have h2 := sum_le (l := l) fun y hy => h y (List.mem_cons_of_mem _ hy)
  simp only [List.map_cons, List.sum_cons, List.length_cons]
  have e : C * (l.length + 1 + (g x + (l.map g).sum)) = C * (1 + g x) + C * (l.length + (l.map g).sum) := by rw [← Nat.mul_add]; congr 1; omega
  omega
theorem cnt_le : ∀ (s : Sh) (d : Dat s), cnt s d ≤ wd s * (1 + sz s d)
 | .num, _ => by simp [cnt, wd]
 | .bit, _ => by simp [cnt, wd]
 | .row _ s, (d : List (Dat s)) => by
  have h := sum_le (f := cnt s) (g := sz s) (C := wd s) (l := d) fun x _ => cnt_le s x
  show (d.map (cnt s)).sum ≤ wd s * (1 + (d.length + (d.map (sz s)).sum))
  have : wd s * (d.length + (d.map (sz s)).sum) ≤ wd s * (1 + (d.length + (d.map (sz s)).sum)) := Nat.mul_le_mul_left _ (by omega)
  omega
 | .cat a b, d => by
  have h1 := cnt_le a d.1
  have h2 := cnt_le b d.2
  show cnt a d.1 + cnt b d.2 ≤ (wd a + wd b) * (1 + (sz a d.1 + sz b d.2))
  have h3 : wd a * (1 + sz a d.1) ≤ wd a * (1 + (sz a d.1 + sz b d.2)) := Nat.mul_le_mul_left _ (by omega)
  have h4 : wd b * (1 + sz b d.2) ≤ wd b * (1 + (sz a d.1 + sz b d.2)) := Nat.mul_le_mul_left _ (by omega)
  rw [Nat.add_mul]
  omega
theorem cntv_le : ∀ (s : Sh) (d : Dat s), cntv s d ≤ wd s * sz s d
 | .num, _ => Nat.zero_le _
 | .bit, _ => Nat.zero_le _
 | .row _ s, (d : List (Dat s)) => sum_le (f := cnt s) (g := sz s) (C := wd s) (l := d) fun x _ => cnt_le s x
 | .cat a b, d => by
  have h1 := cntv_le a d.1
  have h2 := cntv_le b d.2
  show cntv a d.1 + cntv b d.2 ≤ (wd a + wd b) * (sz a d.1 + sz b d.2)
  have h3 : wd a * sz a d.1 ≤ wd a * (sz a d.1 + sz b d.2) := Nat.mul_le_mul_left _ (by omega)
  have h4 : wd b * sz b d.2 ≤ wd b * (sz a d.1 + sz b d.2) := Nat.mul_le_mul_left _ (by omega)
  rw [Nat.add_mul]
  omega
end shape
end
section
namespace shape
open Go.RowKit base ints sig cursor marks app sym appAt segs segsHelp segsMark kinds
structure Only (F : List Nat) (w w' : World) : Prop where
 os : w'.os = w.os
 tape : w'.tape = w.tape
 output : w'.output = w.output
 size : w.heap.size ≤ w'.heap.size
 block : ∀ k, k < w.heap.size → k ∉ F → w'.heap[k]? = w.heap[k]?
section
variable {w w' w2 : World} {B : Nat} {s : Sh} {e : TypeId} {v : Value} {F G : List Nat}
theorem Only.of_below (h : Below w.heap.size w w') : Only F w w' := ⟨h.os, h.tape, h.output, h.size, fun k hk _ => h.block k hk⟩
theorem Only.trans (h : Only F w w') (k : Only F w' w2) : Only F w w2 :=
 ⟨k.os.trans h.os, k.tape.trans h.tape, k.output.trans h.output, Nat.le_trans h.size k.size, fun i hi ho => (k.block i (Nat.lt_of_lt_of_le hi h.size) ho).trans (h.block i hi ho)⟩
theorem Only.wider (h : Only F w w') (hF : ∀ k ∈ F, k ∈ G) : Only G w w' := ⟨h.os, h.tape, h.output, h.size, fun k hk ho => h.block k hk fun hk2 => ho (hF k hk2)⟩
theorem Only.btw {lo hi : Nat} (h : Only F w w') (hF : ∀ k ∈ F, lo ≤ k ∧ k < hi) : Btw lo hi w w' := ⟨h.os, h.tape, h.output, h.size, fun k hk ho => h.block k hk fun hk2 => by have := hF k hk2; omega⟩
theorem Ow.only {cs : List Value} {d : Dat s} (h : Ow w s cs d F) (ho : Only G w w') (hd : ∀ k ∈ F, k ∉ G) : Ow w' s cs d F := h.keep fun k hk => ho.block k (h.lt k hk) (hd k hk)
def Yes (w : World) (e : Ending) (w' : World) : Prop := e = .returned (.bool true) ∧ Below w.heap.size w w'
def AnsMarkF (w : World) (s : Sh) (cs : List Value) (d : Dat s) (k : Int) (F : List Nat) (e : Ending) (w' : World) : Prop := e = .returned (.int .i64 (k + (cntv s d : Int))) ∧ Ow w' s cs (mkv s k d) F ∧ Only F w w'
def AnsHeld (w : World) (z : Int) (e : Ending) (w' : World) : Prop := e = .returned (.int .i64 z) ∧ Below w.heap.size w w'
theorem eqK_ints (v v' : Value) (xs : List Int) (w : World) (h : Rd w w.heap.size sI [v] xs) (h' : Rd w w.heap.size sI [v'] xs) (hz : sz sI xs ≤ 1048576) :
  Calls Tryd.prog 12 #[v, v'] w (Yes w) := by
 obtain ⟨A, n, c, rfl, hs, hc⟩ := rd_ints.1 h
 obtain ⟨A', n', c', rfl, hs', hc'⟩ := rd_ints.1 h'
 rw [sz_ints, hs.1] at hz
 exact intsEq A A' n n' c c' xs w hs hs' hz
theorem ow_ints' {w : World} {A : Option Addr} {n c : Nat} {xs : List Int} {F : List Nat} (h : Ow w sI [.slice A n c] xs F) : Own w 0 (.slice A n c) xs ∧ ((blk A = none ∧ F = []) ∨ ∃ g, blk A = some g ∧ F = [g]) := by
 have h0 := h
 obtain ⟨A', n', c', e, hl, h⟩ := h
 injection e with e
 injection e with e1 e2 e3
 subst e1 e2 e3
 rcases h with ⟨rfl, rfl, rfl, rfl⟩ | ⟨g, cur, E, G, rfl, hr, h2, h3, h4, rfl, h6⟩
 ·have hx : xs = [] := List.eq_nil_of_length_eq_zero hl
  subst hx
  exact ⟨Own.nil _ _, .inl ⟨rfl, rfl⟩⟩
 ·have hG : (List.range n).flatMap G = [] := List.eq_nil_iff_forall_not_mem.2 fun k hk => by
   obtain ⟨j, hj, hk⟩ := List.mem_flatMap.1 hk
   have q3 := (h6 j (List.mem_range.1 hj)).2.2
   have q3 : _ ∧ G j = [] := q3
   rw [q3.2] at hk
   cases hk
  rw [hG] at h0 ⊢
  exact ⟨(ow_ints.1 ⟨[g], h0, by simp, fun k hk => ⟨Nat.zero_le _, h0.lt k hk⟩⟩ : Ownd w 0 w.heap.size _ _ _ _).1, .inr ⟨g, rfl, rfl⟩⟩
theorem ow_of {w : World} {A : Option Addr} {n c : Nat} {xs : List Int} {F : List Nat} (h : Own w 0 (.slice A n c) xs) (hF : (blk A = none ∧ F = []) ∨ ∃ g, blk A = some g ∧ F = [g]) : Ow w sI [.slice A n c] xs F := by
 obtain ⟨F', h1, _, _⟩ := (ow_ints (w := w) (lo := 0) (hi := w.heap.size)).2 (Ownd.of_own h)
 have h2 := (ow_ints' h1).2
 rcases hF with ⟨e1, rfl⟩ | ⟨g, e1, rfl⟩
 ·rcases h2 with ⟨_, rfl⟩ | ⟨g, e2, _⟩
  ·exact h1
  ·rw [e1] at e2; cases e2
 ·rcases h2 with ⟨e2, _⟩ | ⟨g', e2, rfl⟩
  ·rw [e1] at e2; cases e2
  ·rw [e1] at e2; injection e2 with e2; subst e2; exact h1
theorem markK_ints (v : Value) (xs : List Int) (k : Int) (F : List Nat) (w : World) (h : Ow w sI [v] xs F) (hz : sz sI xs ≤ 1048576) (hk0 : 0 ≤ k) (hk : k ≤ 1099511627776) :
  Calls Tryd.prog 15 #[v, .int .i64 k] w (AnsMarkF w sI [v] xs k F) := by
 obtain ⟨A, n, c, rfl, hs, hc⟩ := rd_ints.1 h.rd
 rw [sz_ints, hs.1] at hz
 obtain ⟨ho, hF⟩ := ow_ints' h
 refine (markOwn 0 A n c xs k w ho hz hk0 hk).mono fun _ _ ⟨e, hg, ho2⟩ => ⟨?_, ?_, ?_⟩
 ·rw [e]
  have : cntv sI xs = n := by rw [← hs.1]; exact cnt_ints xs
  rw [this]
 ·rw [mk_ints, hs.1]
  exact ow_of ho2 hF
 ·rcases hF with ⟨e1, rfl⟩ | ⟨g, e1, rfl⟩
  ·rw [e1] at hg
   exact ⟨hg.os, hg.tape, hg.output, hg.size, fun k hk _ => hg.block k hk (by simp)⟩
  ·rw [e1] at hg
   exact ⟨hg.os, hg.tape, hg.output, hg.size, fun k hk hn => hg.block k hk (fun e => hn (by injection e with e; rw [e]; simp))⟩
theorem heldK_ints (v : Value) (xs : List Int) (k : Int) (w : World) (h : Rd w w.heap.size sI [v] (mkv sI k xs)) (hz : sz sI xs ≤ 1048576) (hk0 : 0 ≤ k) (hk : k ≤ 1099511627776) :
  Calls Tryd.prog 16 #[v, .int .i64 k] w (AnsHeld w (k + (cntv sI xs : Int))) := by
 rw [mk_ints] at h
 obtain ⟨A, n, c, rfl, hs, hc⟩ := rd_ints.1 h
 have hl : n = xs.length := by rw [← hs.1, marks_len]
 subst hl
 rw [sz_ints] at hz
 have : cntv sI xs = xs.length := cnt_ints xs
 rw [this]
 exact (heldInts A _ c k w hs hz hk0 (by omega)).mono fun _ _ ⟨e1, e2⟩ => ⟨e2, e1 ▸ Below.refl _ _⟩
end
section
variable {s : Sh} {e : TypeId}
def mixed (s : Sh) (k : Int) (D : List (Dat s)) (j : Nat) : List (Dat s) := (List.range D.length).map fun q => if q < j then mkc s (k + (cnts s D q : Int)) (D.getD q (dft s)) else D.getD q (dft s)
end
theorem Rd.split {w : World} {B : Nat} {a b : Sh} {ca cb : List Value} {d : Dat (.cat a b)} (h : Rd w B (.cat a b) (ca ++ cb) d) (hl : ca.length = nc a) : Rd w B a ca d.1 ∧ Rd w B b cb d.2 := by
 obtain ⟨ca', cb', e, h1, h2⟩ := h
 obtain ⟨rfl, rfl⟩ := List.append_inj e (by rw [hl, h1.len])
 exact ⟨h1, h2⟩
theorem Ow.split {w : World} {a b : Sh} {ca cb : List Value} {d : Dat (.cat a b)} {F : List Nat} (h : Ow w (.cat a b) (ca ++ cb) d F) (hl : ca.length = nc a) : ∃ Fa Fb, F = Fa ++ Fb ∧ Ow w a ca d.1 Fa ∧ Ow w b cb d.2 Fb := by
 obtain ⟨ca', cb', Fa, Fb, e, e2, h1, h2⟩ := h
 obtain ⟨rfl, rfl⟩ := List.append_inj e (by rw [hl, h1.len])
 exact ⟨Fa, Fb, e2, h1, h2⟩
theorem Row.only {w w' : World} {g : Nat} {t : TypeId} {cs : Array Value} {F : List Nat} (h : Row w g t cs) (ho : Only F w w') (hg : g ∉ F) : Row w' g t cs := (ho.block g h.lt hg).trans h
section
variable {s : Sh} {e : TypeId}
end
structure CpS (w : World) (tL tI : TypeId) (cs zs part : Array Value) (wr : World) : Prop where
 box : Row wr w.heap.size tL cs
 res : Row wr (w.heap.size + 1) tI zs
 cur : Row wr (w.heap.size + 1 + 1) tI part
 bel : Below w.heap.size w wr
 size : w.heap.size + 1 + 1 + 1 ≤ wr.heap.size
section
variable {w wr w1 : World} {tL tI : TypeId} {cs zs part : Array Value}
theorem CpS.zero (w : World) (tL tI : TypeId) (cs zs : Array Value) : CpS w tL tI cs zs zs (((w.alloc (.cells cs tL)).alloc (.cells zs tI)).alloc (.cells zs tI)) where
 box := by have := ((Row.new w tL cs).alloc (.cells zs tI)).alloc (.cells zs tI); simpa using this
 res := by have := (Row.new (w.alloc (.cells cs tL)) tI zs).alloc (.cells zs tI); simpa using this
 cur := by have := Row.new ((w.alloc (.cells cs tL)).alloc (.cells zs tI)) tI zs; simpa using this
 bel := (((Below.refl _ _).alloc (Nat.le_refl _) _).alloc (by simp) _).alloc (by simp; omega) _
 size := by simp
end
end shape
end
section
open Go.Lib (hid)
namespace kindsR
open Go.RowKit base ints sig cursor marks app sym appAt segs segsHelp segsMark kinds shape
set_option maxRecDepth 100000
abbrev sSig : Sh := sI
set_option maxHeartbeats 2000000 in
theorem eqK_Sig (v0 u0 : Value) (d : Dat sSig) (w : World) (h : Rd w w.heap.size sSig [v0] d) (h' : Rd w w.heap.size sSig [u0] d) (hz : sz sSig d ≤ 1048576) :
  Calls Tryd.prog 13 #[.agg #[v0], .agg #[u0]] w (Yes w) := by
 have g0 := h
 have g0' := h'
 obtain ⟨W, hW⟩ : ∃ W, W = (w.alloc (.cells #[v0] 28)).alloc (.cells #[u0] 28) := ⟨_, rfl⟩
 have ra : Row W w.heap.size 28 #[v0] := by rw [hW]; exact (Row.new w 28 #[v0]).alloc _
 have rb : Row W (w.heap.size + 1) 28 #[u0] := by rw [hW]; have := Row.new (w.alloc (.cells #[v0] 28)) 28 #[u0]; simpa using this
 have bel : Below w.heap.size w W := by rw [hW]; exact ((Below.refl _ _).alloc (Nat.le_refl _) _).alloc (by simp) _
 have HW := hid hW
 have G0 := hid g0
 have G0' := hid g0'
 have Z0 : Hid (sz sI d ≤ 1048576) := hid (hz)
 clear hW hz h h' g0 g0'
 go_enter Tryd.func13, Tryd.ntmps13
 go_wp2_with fail
 rw [← HW.out]
 refine (eqK_ints _ _ _ W (G0.out.next bel) (G0'.out.next bel) Z0.out).mono ?_
 rintro e w1 ⟨rfl, bb⟩
 replace ra := ra.next bb
 replace rb := rb.next bb
 replace bel := next_trans bel bb
 clear bb
 have F : Yes w (.returned (.bool true)) w1 := ⟨rfl, bel⟩
 have HF := hid F
 clear F ra rb bel
 go_wp2
 go_ret
 exact HF.out
set_option maxHeartbeats 2000000 in
theorem markK_Sig (v0 : Value) (d : Dat sSig) (k : Int) (F : List Nat) (w : World) (h : Ow w sSig [v0] d F) (hF : F.Nodup) (hz : sz sSig d ≤ 1048576) (hk0 : 0 ≤ k) (hk : k + (cntv sSig d : Int) ≤ 1099511627776) :
  Calls Tryd.prog 14 #[.agg #[v0], .int .i64 k] w (AnsMarkF w sSig [v0] d k F) := by
 have hlt := h.lt
 have o0 := h
 obtain ⟨z0, hz0⟩ : ∃ z, cntv sI d = z := ⟨_, rfl⟩
 have hc : (cntv sSig d : Int) = (z0 : Int) := by rw [← hz0]; try rfl
 have Z0 : Hid (sz sI d ≤ 1048576) := hid (hz)
 have HZ0 := hid hz0
 have HC := hid hc
 rw [hc] at hk
 obtain ⟨W, hW⟩ : ∃ W, W = w.alloc (.cells #[v0] 28) := ⟨_, rfl⟩
 have r : Row W w.heap.size 28 #[v0] := by rw [hW]; exact Row.new _ _ _
 have bel : Below w.heap.size w W := by rw [hW]; exact (Below.refl _ _).alloc (Nat.le_refl _) _
 replace o0 := o0.next bel
 have nb0 : w.heap.size ∉ F := fun hb => by have := hlt _ hb; omega
 have sub0 : ∀ x ∈ F, x ∈ F := fun x hb => hb
 have on : Only F w W := Only.of_below bel
 have HW := hid hW
 have HEF : Hid (F = F) := hid (by rfl)
 clear hW h hz hc bel hlt hz0 
 go_enter Tryd.func14, Tryd.ntmps14
 go_wp2_with fail
 rw [← HW.out]
 refine (markK_ints _ _ k F _ o0 Z0.out (by omega) (by omega)).mono ?_
 rintro e w1 ⟨he, o0, on0⟩
 rw [HZ0.out] at he
 replace r := Row.only r on0 nb0
 replace on := on.trans (on0.wider sub0)
 clear on0
 obtain ⟨k0, hk0⟩ : ∃ l, k + (z0 : Int) = l := ⟨_, rfl⟩
 rw [hk0] at he
 have l0 : 0 ≤ k0 := by omega
 have u0 : k0  ≤ 1099511627776 := by omega
 subst he
 have HK0 := hid hk0
 clear hk0
 have F1 : AnsMarkF w sSig [v0] d k F (.returned (.int .i64 k0)) w1 := by
  refine ⟨congrArg (fun z => Ending.returned (.int .i64 z)) ?_, ?_, on⟩
  ·rw [HC.out]; have := HK0.out; omega
  ·skip
   exact o0
 have HF := hid F1
 clear F1 on r o0
 go_wp2
 go_ret
 exact HF.out
end kindsR
end
section
open Go.Lib (hid)
namespace sigText
open Go.RowKit base ints sig term termOk marks app kinds shape kindsR text textL
set_option maxRecDepth 100000
def sigW (sg : List Int) : List (List UInt8) := sg.map fun x => dg x.toNat
def sigT (sg : List Int) : List UInt8 := if sigOkB sg = true then Lib.join (sigW sg) [32] else []
theorem sigW_len {sg : List Int} (h : ∀ j, j < sg.length → 0 ≤ sg.getD j 0 ∧ sg.getD j 0 < 100) : ∀ x ∈ sigW sg, x.length ≤ 4096 := by
 intro x hx
 obtain ⟨z, hz, rfl⟩ := List.mem_map.1 hx
 obtain ⟨j, hj, rfl⟩ := List.getElem_of_mem hz
 have h1 := h j hj
 have e : sg.getD j 0 = sg[j] := by simp [List.getD, hj]
 rw [e] at h1
 have := dg_len (n := sg[j].toNat) (by omega)
 omega
theorem sigW_take {sg : List Int} {k : Nat} {x : Int} (hk : k < sg.length) (e : sg.getD k 0 = x) : sigW (sg.take (k + 1)) = sigW (sg.take k) ++ [dg x.toNat] := by
 have e2 : sg[k] = x := by rw [← e]; simp [List.getD, hk]
 unfold sigW
 rw [List.take_succ_eq_append_getElem hk, List.map_append, e2]
 rfl
def HeadSi (w : World) (n : Nat) (sg : List Int) (out i : Value) (wr : World) : Prop :=
 ∃ (k : Nat) (O : Option Addr) (oc : Nat), k ≤ n ∧ i = .int .i64 k ∧ out = .slice O k oc ∧ OwnS wr w.heap.size (.slice O k oc) (sigW (sg.take k)) ∧ Below w.heap.size w wr
set_option maxHeartbeats 2000000 in
theorem l1Ints (A : Option Addr) (n c : Nat) (sg : List Int) (w : World) (h : Seg w w.heap.size A n sg) (hn : n ≤ 1048576) (hr : ∀ j, j < sg.length → 0 ≤ sg.getD j 0 ∧ sg.getD j 0 < 100) :
  Calls Tryd.prog 46 #[.slice A n c] w fun e w' => e = .returned (.string (bs (Lib.join (sigW sg) [32]))) ∧ Below w.heap.size w w' := by
 have H := hid h
 have HL := hid h.1
 have HR := hid hr
 have HW := hid (sigW_len hr)
 have S0 := hid (show HeadSi w n sg (.slice (some ⟨w.heap.size, 0, none⟩) 0 0) (.int .i64 0) (w.alloc (.cells #[] 9)) from ⟨0, _, 0, Nat.zero_le _, rfl, rfl, ownS_empty w w.heap.size (Nat.le_refl _), (Below.refl _ _).alloc (Nat.le_refl _) _⟩)
 clear h hr
 go_enter Tryd.func46, Tryd.ntmps46
 go_wp2_with fail
 go_loopw [3, 4] (fun out i wr => HeadSi w n sg out i wr) (fun _ i _ => n - (intOf i).toNat)
 case atStart => exact S0.out
 case round =>
  clear S0
  obtain ⟨k, O, oc, hk, rfl, rfl, ho, hb⟩ := hrel
  by_cases hlt : k < n
  ·obtain ⟨b, off, x, rfl, hbB, hc, ex⟩ := (H.out.below hb).spot hlt
   have hx := HR.out k (by rw [HL.out]; exact hlt)
   rw [ex.out] at hx
   obtain ⟨m, rfl⟩ := Int.eq_ofNat_of_zero_le hx.1
   have LI := hid (l1Int m wr (by omega))
   have i0 : (0 : Int) ≤ (k : Int) := by omega
   have i1 : (k : Int) < (n : Int) := by omega
   have HT := hid (sigW_take (sg := sg) (k := k) (by rw [HL.out]; exact hlt) ex.out)
   clear hx ex
   go_wp2_with fail
   refine LI.out.mono ?_
   rintro e w1 ⟨rfl, bb⟩
   have ho1 := ho.next bb
   have hb1 := next_trans hb bb
   clear bb ho hb LI hc
   have hz := hb1.size
   go_wp2_with (at_builtin; refine app1S rfl _ _ rfl w.heap.size O k oc _ rfl (ho1.next ((Below.refl _ _).alloc (Nat.le_refl _) _)) w1.heap.size 1 (dg m) rfl ((Row.new _ _ _).cell 0) (by omega) (by simp; omega) ?_; intro O' oc' w2 ho2 b2)
   have S := hid (show HeadSi w n sg (.slice O' (k + 1) oc') (.int .i64 ((k : Int) + 1)) w2 from ⟨k + 1, O', oc', hlt, by simp, rfl, by rw [HT.out]; exact ho2, (hb1.alloc hb1.size _).trans b2⟩)
   clear ho1 hb1 ho2 b2
   go_wp2
   go_roundw
   case rel => exact S.out
   case measure => simp [intOf]; omega
  ·have hkn : k = n := by omega
   subst hkn
   have e : sg.take k = sg := List.take_of_length_le (by rw [HL.out]; exact Nat.le_refl _)
   rw [e] at ho
   have LW := hid (l1Words O k oc (sigW sg) [32] wr ho.at (by omega) HW.out (by simp))
   have HB := hid hb
   clear ho hb e
   go_wp2_with fail
   refine LW.out.mono ?_
   rintro e w1 ⟨rfl, bb⟩
   have F := hid (next_trans HB.out bb)
   clear bb
   go_wp2
   go_ret
   exact ⟨rfl, F.out⟩
theorem ars100 {sg : List Int} (h : sigOkB sg = true) : ∀ j, j < sg.length → 0 ≤ sg.getD j 0 ∧ sg.getD j 0 < 100 := fun j hj => by
 have := (sig_arities h).1 j hj
 omega
def HeadSj (w : World) (n : Nat) (sg : List Int) (A : Option Addr) (c : Nat) (out i : Value) (wr : World) : Prop :=
 ∃ (k : Nat) (O : Option Addr) (oc : Nat), k ≤ n ∧ i = .int .i64 k ∧ out = .slice O k oc ∧ OwnS wr w.heap.size (.slice O k oc) (sigW (sg.take k)) ∧ Below w.heap.size w wr
set_option maxHeartbeats 2000000 in
theorem implSigText0 (A : Option Addr) (n c : Nat) (sg : List Int) (w : World) (h : Seg w w.heap.size A n sg) (hn : n ≤ 1048576) :
  Calls Tryd.prog 23 #[.agg #[.slice A n c]] w fun e w' => e = .returned (.string (bs (sigT sg))) ∧ Below w.heap.size w w' := by
 obtain ⟨W, hW⟩ : ∃ W, W = w.alloc (.cells #[.slice A n c] 28) := ⟨_, rfl⟩
 have rA : Row W w.heap.size 28 #[.slice A n c] := by rw [hW]; exact Row.new _ _ _
 have bel : Below w.heap.size w W := by rw [hW]; exact (Below.refl _ _).alloc (Nat.le_refl _) _
 have HW := hid hW
 have LS := hid (implSigOk A n c sg W (h.next bel) hn)
 have H := hid h
 have HL := hid h.1
 clear hW h
 cases ok : sigOkB sg with
 | false =>
  have HS := hid ok
  have HT := hid (show sigT sg = [] by unfold sigT; rw [if_neg (by rw [ok]; simp)])
  clear ok
  go_enter Tryd.func23, Tryd.ntmps23
  go_wp2_with fail
  rw [← HW.out]
  refine LS.out.mono ?_
  rintro e w1 ⟨he, bb⟩
  rw [HS.out] at he
  subst he
  have F := hid (next_trans bel bb)
  clear bel bb rA LS
  go_wp2
  go_ret
  exact ⟨by rw [HT.out]; rfl, F.out⟩
 | true =>
  have HS := hid ok
  have HT := hid (show sigT sg = Lib.join (sigW sg) [32] by unfold sigT; rw [if_pos ok])
  have HR := hid (ars100 ok)
  have HWL := hid (sigW_len (ars100 ok))
  clear ok
  go_enter Tryd.func23, Tryd.ntmps23
  go_wp2_with fail
  rw [← HW.out]
  refine LS.out.mono ?_
  rintro e w1 ⟨he, bb⟩
  rw [HS.out] at he
  subst he
  replace rA := rA.next bb
  replace bel := next_trans bel bb
  have K0 : w1.cell? ⟨w.heap.size, 0, none⟩ = some (.slice A n c) := rA.cell 0
  have S0 := hid (show HeadSj w n sg A c (.slice none 0 0) (.int .i64 0) w1 from ⟨0, none, 0, Nat.zero_le _, rfl, rfl, OwnS.nil _ _, bel⟩)
  clear bb LS bel
  go_wp2_with fail
  go_loopw [3, 12] (fun out i wr => HeadSj w n sg A c out i wr) (fun _ i _ => n - (intOf i).toNat)
  case atStart => exact S0.out
  case round =>
   clear S0 K0 rA
   obtain ⟨k, O, oc, hk, rfl, rfl, ho, hb⟩ := hrel
   by_cases hlt : k < n
   ·obtain ⟨b, off, x, rfl, hbB, hc, ex⟩ := (H.out.below hb).spot hlt
    have hx := HR.out k (by rw [HL.out]; exact hlt)
    rw [ex.out] at hx
    obtain ⟨m, rfl⟩ := Int.eq_ofNat_of_zero_le hx.1
    have LI := hid (numberText m wr (by omega))
    have i0 : (0 : Int) ≤ (k : Int) := by omega
    have i1 : (k : Int) < (n : Int) := by omega
    have HT1 := hid (sigW_take (sg := sg) (k := k) (by rw [HL.out]; exact hlt) ex.out)
    clear hx ex
    go_wp2_with fail
    refine LI.out.mono ?_
    rintro e w3 ⟨rfl, hw⟩
    obtain rfl : wr = w3 := hw.symm
    have hz := hb.size
    clear LI hc
    go_wp2_with (at_builtin; refine app1S rfl _ _ rfl w.heap.size O k oc _ rfl (ho.next ((Below.refl _ _).alloc (Nat.le_refl _) _)) wr.heap.size 1 (dg m) rfl ((Row.new _ _ _).cell 0) (by omega) (by simp; omega) ?_; intro O' oc' w2 ho2 b2)
    have S := hid (show HeadSj w n sg (some ⟨b, off, none⟩) c (.slice O' (k + 1) oc') (.int .i64 ((k : Int) + 1)) w2 from ⟨k + 1, O', oc', hlt, by simp, rfl, by rw [HT1.out]; exact ho2, (hb.alloc hb.size _).trans b2⟩)
    clear ho hb ho2 b2
    go_wp2
    go_roundw
    case rel => exact S.out
    case measure => simp [intOf]; omega
   ·have hkn : k = n := by omega
    subst hkn
    have e : sg.take k = sg := List.take_of_length_le (by rw [HL.out]; exact Nat.le_refl _)
    rw [e] at ho
    have LW := hid (joinOwn O k oc (sigW sg) [32] wr ho (by omega) HWL.out (by simp))
    have HB := hid hb
    clear ho hb e
    go_wp2_with fail
    refine LW.out.mono ?_
    rintro e w2 ⟨rfl, bb⟩
    have F := hid (next_trans HB.out bb)
    clear bb
    go_wp2
    go_ret
    exact ⟨by rw [HT.out]; rfl, F.out⟩
end sigText
end
section
namespace splitMath
open sig term termOk text textL sigText
theorem app_cons_inj {c : UInt8} : ∀ {x v a b : List UInt8}, c ∉ x → c ∉ v → x ++ c :: a = v ++ c :: b → x = v ∧ a = b
 | [], [], a, b, _, _, h => ⟨rfl, by simpa using h⟩
 | [], y :: v, a, b, _, hv, h => by
  simp only [List.nil_append, List.cons_append, List.cons.injEq] at h
  exact absurd h.1 (fun e => hv (by rw [e]; exact List.mem_cons_self ..))
 | y :: x, [], a, b, hx, _, h => by
  simp only [List.nil_append, List.cons_append, List.cons.injEq] at h
  exact absurd h.1 (fun e => hx (by rw [← e]; exact List.mem_cons_self ..))
 | y :: x, z :: v, a, b, hx, hv, h => by
  simp only [List.cons_append, List.cons.injEq] at h
  obtain ⟨rfl, h⟩ := h
  obtain ⟨rfl, rfl⟩ := app_cons_inj (fun e => hx (List.mem_cons_of_mem _ e)) (fun e => hv (List.mem_cons_of_mem _ e)) h
  exact ⟨rfl, rfl⟩
theorem join_two (x y : List UInt8) (r : List (List UInt8)) (c : UInt8) : Lib.join (x :: y :: r) [c] = x ++ c :: Lib.join (y :: r) [c] := by
 rw [Lib.join_cons, Lib.join_cons]
 unfold Lib.joinTail
 simp
theorem join_inj {c : UInt8} : ∀ {ws vs : List (List UInt8)}, ws ≠ [] → vs ≠ [] → (∀ w ∈ ws, c ∉ w) → (∀ v ∈ vs, c ∉ v) → Lib.join ws [c] = Lib.join vs [c] → ws = vs
 | [], _, h, _, _, _, _ => absurd rfl h
 | _, [], _, h, _, _, _ => absurd rfl h
 | [x], [v], _, _, _, _, h => by rw [Lib.join_one, Lib.join_one] at h; rw [h]
 | [x], v :: z :: t, _, _, hx, _, h => by
  rw [Lib.join_one, join_two] at h
  exact absurd (show c ∈ x by rw [h]; simp) (hx x (List.mem_cons_self ..))
 | x :: y :: r, [v], _, _, _, hv, h => by
  rw [Lib.join_one, join_two] at h
  exact absurd (show c ∈ v by rw [← h]; simp) (hv v (List.mem_cons_self ..))
 | x :: y :: r, v :: z :: t, _, _, hx, hv, h => by
  rw [join_two, join_two] at h
  obtain ⟨rfl, h2⟩ := app_cons_inj (hx x (List.mem_cons_self ..)) (hv v (List.mem_cons_self ..)) h
  have := join_inj (ws := y :: r) (vs := z :: t) (by simp) (by simp) (fun w hw => hx w (List.mem_cons_of_mem _ hw)) (fun w hw => hv w (List.mem_cons_of_mem _ hw)) h2
  rw [this]
theorem join_char (ws : List (List UInt8)) (u : List UInt8) (x : UInt8) (c : UInt8) : Lib.join (ws ++ [u ++ [x]]) [c] = Lib.join (ws ++ [u]) [c] ++ [x] := by
 cases ws with
 | nil => rw [List.nil_append, List.nil_append, Lib.join_one, Lib.join_one]
 | cons w r => rw [join_snoc _ _ (by simp), join_snoc _ _ (by simp)]; simp
def stS (c : UInt8) (l : List UInt8) : Nat → List (List UInt8) × Nat
 | 0 => ([], 0)
 | i + 1 => if l.getD i 0 = c then ((stS c l i).1 ++ [(l.drop (stS c l i).2).take (i - (stS c l i).2)], i + 1) else stS c l i
def splitS (c : UInt8) (l : List UInt8) : List (List UInt8) := (stS c l l.length).1 ++ [(l.drop (stS c l l.length).2).take (l.length - (stS c l l.length).2)]
theorem stS_inv (c : UInt8) (l : List UInt8) : ∀ i, i ≤ l.length → (stS c l i).2 ≤ i ∧ (∀ w ∈ (stS c l i).1, c ∉ w) ∧ c ∉ (l.drop (stS c l i).2).take (i - (stS c l i).2) ∧ Lib.join ((stS c l i).1 ++ [(l.drop (stS c l i).2).take (i - (stS c l i).2)]) [c] = l.take i
 | 0, _ => by
  have e : stS c l 0 = ([], 0) := rfl
  rw [e]
  refine ⟨Nat.le_refl _, (fun w hw => by cases hw), by simp, ?_⟩
  show Lib.join [(l.drop 0).take 0] [c] = l.take 0
  rw [Lib.join_one]
  simp
 | i + 1, hi => by
  obtain ⟨h1, h2, h3, h4⟩ := stS_inv c l i (by omega)
  obtain ⟨ws, hws⟩ : ∃ z, (stS c l i).1 = z := ⟨_, rfl⟩
  obtain ⟨p, hp⟩ : ∃ z, (stS c l i).2 = z := ⟨_, rfl⟩
  rw [hws] at h2 h4
  rw [hp] at h1 h3 h4
  have hx : l.take (i + 1) = l.take i ++ [l.getD i 0] := by
   rw [List.take_succ_eq_append_getElem (by omega)]
   simp [List.getD, show i < l.length by omega]
  by_cases hc : l.getD i 0 = c
  ·have e : stS c l (i + 1) = (ws ++ [(l.drop p).take (i - p)], i + 1) := by
    show (if _ then _ else _) = _
    rw [if_pos hc, hws, hp]
   rw [e]
   refine ⟨Nat.le_refl _, ?_, by simp, ?_⟩
   ·intro w hw
    rcases List.mem_append.1 hw with hw | hw
    ·exact h2 w hw
    ·rw [List.mem_singleton.1 hw]; exact h3
   ·show Lib.join (ws ++ [(l.drop p).take (i - p)] ++ [(l.drop (i + 1)).take (i + 1 - (i + 1))]) [c] = _
    rw [Nat.sub_self, List.take_zero, join_snoc _ _ (by simp), h4, hx, hc]
    simp
  ·have e : stS c l (i + 1) = (ws, p) := by
    show (if _ then _ else _) = _
    rw [if_neg hc, ← hws, ← hp]
   rw [e]
   have ht : (l.drop p).take (i + 1 - p) = (l.drop p).take (i - p) ++ [l.getD i 0] := by
    rw [show i + 1 - p = (i - p) + 1 by omega, List.take_succ_eq_append_getElem (by rw [List.length_drop]; omega)]
    simp [List.getD, show p + (i - p) = i by omega, show i < l.length by omega]
   refine ⟨by show p ≤ i + 1; omega, h2, ?_, ?_⟩
   ·show c ∉ (l.drop p).take (i + 1 - p)
    rw [ht]
    intro hm
    rcases List.mem_append.1 hm with hm | hm
    ·exact h3 hm
    ·exact hc (List.mem_singleton.1 hm).symm
   ·show Lib.join (ws ++ [(l.drop p).take (i + 1 - p)]) [c] = _
    rw [ht, join_char, h4, hx]
theorem split_join (c : UInt8) (l : List UInt8) : Lib.join (splitS c l) [c] = l := by
 have h := (stS_inv c l l.length (Nat.le_refl _)).2.2.2
 rw [List.take_length] at h
 exact h
theorem split_no (c : UInt8) (l : List UInt8) : ∀ w ∈ splitS c l, c ∉ w := by
 obtain ⟨-, h2, h3, -⟩ := stS_inv c l l.length (Nat.le_refl _)
 intro w hw
 rcases List.mem_append.1 hw with hw | hw
 ·exact h2 w hw
 ·rw [List.mem_singleton.1 hw]; exact h3
theorem split_ne (c : UInt8) (l : List UInt8) : splitS c l ≠ [] := by unfold splitS; simp
theorem split_eq {c : UInt8} {l : List UInt8} {ws : List (List UInt8)} (hne : ws ≠ []) (hw : ∀ w ∈ ws, c ∉ w) (h : Lib.join ws [c] = l) : splitS c l = ws :=
 join_inj (split_ne c l) hne (split_no c l) hw (by rw [split_join, h])
def dgt (c : UInt8) : Bool := decide (48 ≤ c.toNat ∧ c.toNat ≤ 57)
def rdOk (w : List UInt8) : Bool := decide (1 ≤ w.length ∧ w.length ≤ 9 ∧ ¬ (w.getD 0 0 = 48 ∧ 1 < w.length)) && w.all dgt
def rdF (w : List UInt8) (n : Nat) : Nat := w.foldl (fun n c => n * 10 + (c.toNat - 48)) n
def rdV (w : List UInt8) : Nat := rdF w 0
theorem rdF_ge : ∀ (w : List UInt8) (n : Nat), n * 10 ^ w.length ≤ rdF w n
 | [], n => by simp [rdF]
 | c :: w, n => by
  have h := rdF_ge w (n * 10 + (c.toNat - 48))
  show _ ≤ rdF w (n * 10 + (c.toNat - 48))
  refine Nat.le_trans ?_ h
  rw [List.length_cons, Nat.pow_succ, Nat.mul_comm (10 ^ w.length) 10, ← Nat.mul_assoc]
  exact Nat.mul_le_mul_right _ (by omega)
theorem ch_toNat {d : Nat} (h : d < 10) : (ch d).toNat = 48 + d := by unfold ch; simp; omega
theorem ch_of {c : UInt8} (h : 48 ≤ c.toNat ∧ c.toNat ≤ 57) : c = ch (c.toNat - 48) := by
 apply UInt8.toNat_inj.1
 rw [ch_toNat (by omega)]
 omega
theorem rd_small {w : List UInt8} (h : rdOk w = true) (hv : rdV w < 10) : w = [ch (rdV w)] := by
 unfold rdOk at h
 simp only [Bool.and_eq_true, decide_eq_true_eq, List.all_eq_true] at h
 obtain ⟨⟨h1, h2, h3⟩, h4⟩ := h
 match w, h1, h3, h4, hv with
 | [c], _, _, h4, hv =>
  have hc : 48 ≤ c.toNat ∧ c.toNat ≤ 57 := of_decide_eq_true (h4 c (List.mem_cons_self ..))
  have e : rdV [c] = c.toNat - 48 := by simp [rdV, rdF]
  rw [e, ← ch_of hc]
 | c :: d :: r, _, h3, h4, hv =>
  exfalso
  have hc : 48 ≤ c.toNat ∧ c.toNat ≤ 57 := of_decide_eq_true (h4 c (List.mem_cons_self ..))
  have h5 : ¬ c = 48 := fun e => h3 ⟨by simpa using e, by simp⟩
  have h6 : 49 ≤ c.toNat := by
   rcases Nat.lt_or_ge 48 c.toNat with q | q
   ·omega
   ·exact absurd (UInt8.toNat_inj.1 (show c.toNat = (48 : UInt8).toNat by show _ = 48; omega)) h5
  have h7 := rdF_ge (d :: r) (0 * 10 + (c.toNat - 48))
  have h8 : rdV (c :: d :: r) = rdF (d :: r) (0 * 10 + (c.toNat - 48)) := rfl
  have h9 : 10 ≤ 10 ^ (d :: r).length := by rw [List.length_cons, Nat.pow_succ]; have := Nat.pow_pos (n := r.length) (show 0 < 10 by omega); omega
  have h10 : 1 * 10 ≤ (0 * 10 + (c.toNat - 48)) * 10 ^ (d :: r).length := Nat.mul_le_mul (by omega) h9
  omega
theorem rd_ch {d : Nat} (h : d < 10) : rdOk [ch d] = true ∧ rdV [ch d] = d := by
 have e := ch_toNat h
 refine ⟨?_, by simp [rdV, rdF, e]⟩
 unfold rdOk
 simp [dgt, e]
 omega
def sigOut (W : List (List UInt8)) : List Int := W.map fun w => (rdV w : Int)
def goodS (s : List UInt8) : Bool := (splitS 32 s).all rdOk && sigOkB (sigOut (splitS 32 s))
def resS (s : List UInt8) : List Int := if goodS s = true then sigOut (splitS 32 s) else []
theorem sig_words {sg : List Int} (h : sigOkB sg = true) : sigW sg ≠ [] ∧ (∀ w ∈ sigW sg, ∃ d, d < 10 ∧ w = [ch d]) ∧ sigOut (sigW sg) = sg := by
 obtain ⟨h1, h2, h3⟩ := sig_arities h
 have hd : ∀ x ∈ sg, 0 ≤ x ∧ x ≤ 3 := fun x hx => by
  obtain ⟨j, hj, rfl⟩ := List.getElem_of_mem hx
  have := h1 j hj
  simp only [List.getD, List.getElem?_eq_getElem hj, Option.getD_some] at this
  exact this
 refine ⟨fun e => ?_, fun w hw => ?_, ?_⟩
 ·have := congrArg List.length e
  simp [sigW] at this
  rw [this] at h2
  simp at h2
 ·obtain ⟨x, hx, rfl⟩ := List.mem_map.1 hw
  have := hd x hx
  exact ⟨x.toNat, by omega, dg_one (by omega)⟩
 ·unfold sigOut sigW
  rw [List.map_map]
  conv => rhs; rw [← List.map_id sg]
  apply List.map_congr_left
  intro x hx
  have := hd x hx
  show ((rdV (dg x.toNat) : Nat) : Int) = x
  rw [dg_one (by omega), (rd_ch (by omega)).2]
  omega
theorem good_of {sg : List Int} {s : List UInt8} (h : sigOkB sg = true) (hs : sigT sg = s) : splitS 32 s = sigW sg ∧ goodS s = true ∧ resS s = sg := by
 obtain ⟨h1, h2, h3⟩ := sig_words h
 have e : splitS 32 s = sigW sg := split_eq h1 (fun w hw hm => by
  obtain ⟨d, hd, rfl⟩ := h2 w hw
  have := congrArg UInt8.toNat (List.mem_singleton.1 hm)
  rw [ch_toNat hd] at this
  have h32 : (32 : UInt8).toNat = 32 := rfl
  omega) (by rw [← hs]; unfold sigT; rw [if_pos h])
 have g : goodS s = true := by
  unfold goodS
  rw [e, h3, h, Bool.and_true, List.all_eq_true]
  intro w hw
  obtain ⟨d, hd, rfl⟩ := h2 w hw
  exact (rd_ch hd).1
 exact ⟨e, g, by unfold resS; rw [if_pos g, e, h3]⟩
theorem good_sig {s : List UInt8} (h : goodS s = true) : sigOkB (resS s) = true ∧ sigT (resS s) = s := by
 have h0 := h
 unfold goodS at h
 rw [Bool.and_eq_true, List.all_eq_true] at h
 have e : resS s = sigOut (splitS 32 s) := by unfold resS; rw [if_pos h0]
 rw [e]
 refine ⟨h.2, ?_⟩
 unfold sigT
 rw [if_pos h.2]
 have hw : sigW (sigOut (splitS 32 s)) = splitS 32 s := by
  unfold sigW sigOut
  rw [List.map_map]
  conv => rhs; rw [← List.map_id (splitS 32 s)]
  apply List.map_congr_left
  intro w hwm
  obtain ⟨h1, -, -⟩ := sig_arities h.2
  have hv : rdV w < 10 := by
   obtain ⟨j, hj, rfl⟩ := List.getElem_of_mem hwm
   have := h1 j (by unfold sigOut; rw [List.length_map]; exact hj)
   simp only [sigOut, List.getD, List.getElem?_map, List.getElem?_eq_getElem hj, Option.map_some, Option.getD_some] at this
   omega
  show dg ((rdV w : Nat) : Int).toNat = w
  rw [Int.toNat_natCast, dg_one hv]
  exact (rd_small (h.1 w hwm) hv).symm
 rw [hw, split_join]
end splitMath
end
section
open Go.Lib (hid)
namespace splitSpec
open Go.RowKit base ints marks app text textL splitMath
set_option maxRecDepth 100000
theorem stS_len (c : UInt8) (l : List UInt8) : ∀ i, (stS c l i).1.length ≤ i
 | 0 => Nat.le_refl _
 | i + 1 => by
  have h := stS_len c l i
  show (if _ then _ else _ : List (List UInt8) × Nat).1.length ≤ _
  split
  ·simp; omega
  ·omega
theorem stS_le (c : UInt8) (l : List UInt8) : ∀ i, (stS c l i).2 ≤ i
 | 0 => Nat.le_refl _
 | i + 1 => by
  have h := stS_le c l i
  show (if _ then _ else _ : List (List UInt8) × Nat).2 ≤ _
  split
  ·exact Nat.le_refl _
  ·omega
def spW (c : UInt8) (l : List UInt8) (k : Nat) : List (List UInt8) := if k ≤ l.length then (stS c l k).1 else splitS c l
def spF (c : UInt8) (l : List UInt8) (k : Nat) : Nat := if k ≤ l.length then (stS c l k).2 else l.length + 1
theorem sp_le {c : UInt8} {l : List UInt8} {k : Nat} (h : k ≤ l.length) : spF c l k ≤ k := by
 unfold spF
 rw [if_pos h]
 exact stS_le c l k
theorem sp_len (c : UInt8) (l : List UInt8) (k : Nat) : (spW c l k).length ≤ l.length + 1 := by
 unfold spW
 split
 ·have := stS_len c l k; omega
 ·have := stS_len c l l.length
  unfold splitS
  simp
  omega
theorem sp_end {c : UInt8} {l : List UInt8} {k : Nat} (h : k = l.length) : spW c l (k + 1) = spW c l k ++ [(l.drop (spF c l k)).take (k - spF c l k)] ∧ spF c l (k + 1) = k + 1 := by
 subst h
 unfold spW spF splitS
 have h1 : ¬ l.length + 1 ≤ l.length := by omega
 have h2 : l.length ≤ l.length := Nat.le_refl _
 refine ⟨?_, ?_⟩ <;> simp only [if_neg h1, if_pos h2]
theorem sp_hit {c : UInt8} {l : List UInt8} {k : Nat} (h : k < l.length) (e : l.getD k 0 = c) : spW c l (k + 1) = spW c l k ++ [(l.drop (spF c l k)).take (k - spF c l k)] ∧ spF c l (k + 1) = k + 1 := by
 unfold spW spF
 rw [if_pos (by omega), if_pos (by omega), if_pos (by omega), if_pos (by omega)]
 have := show stS c l (k + 1) = if l.getD k 0 = c then _ else _ from rfl
 rw [this, if_pos e]
 exact ⟨rfl, rfl⟩
theorem sp_miss {c : UInt8} {l : List UInt8} {k : Nat} (h : k < l.length) (e : ¬ l.getD k 0 = c) : spW c l (k + 1) = spW c l k ∧ spF c l (k + 1) = spF c l k := by
 unfold spW spF
 rw [if_pos (by omega), if_pos (by omega), if_pos (by omega), if_pos (by omega)]
 have := show stS c l (k + 1) = if l.getD k 0 = c then _ else _ from rfl
 rw [this, if_neg e]
 exact ⟨rfl, rfl⟩
theorem at_bs {l : List UInt8} {k : Nat} (h : k < l.length) (w : World) : (Instr.index 9 (.string (bs l)) (.int .i64 (k : Int))).run Tryd.prog w = .ok (.int .u8 ((l.getD k 0).toNat : Int)) w := by
 rw [run_index_string (P := Tryd.prog) w 9 (bs l) .i64 (k : Int) Tryd.underlying9, dif_pos ⟨by omega, by rw [bs_size]; omega⟩]
 congr 3
 show ((l.toArray)[k]'(by simpa using h)).toNat = _
 simp [List.getD, h]
theorem cut_bs {l : List UInt8} {a b : Nat} (h1 : a ≤ b) (h2 : b ≤ l.length) (w : World) : (Instr.slice 9 (.string (bs l)) (some (.int .i64 (a : Int))) (some (.int .i64 (b : Int))) none).run Tryd.prog w = .ok (.string (bs ((l.drop a).take (b - a)))) w := by
 rw [run_slice_string (P := Tryd.prog) w 9 (bs l) .i64 .i64 a b Tryd.underlying9 (by omega) (by omega) (by rw [bs_size]; omega)]
 congr 2
 exact ByteArray.extract_mk l a b
def HeadSp (w : World) (c : UInt8) (l : List UInt8) (N : Nat) (out fr i : Value) (wr : World) : Prop :=
 ∃ (k f m : Nat) (O : Option Addr) (oc : Nat), k ≤ N + 1 ∧ spF c l k = f ∧ (spW c l k).length = m ∧ i = .int .i64 k ∧ fr = .int .i64 (f : Int) ∧ out = .slice O m oc ∧ OwnS wr w.heap.size (.slice O m oc) (spW c l k) ∧ Below w.heap.size w wr
def AnsSs (w : World) (ws : List (List UInt8)) (e : Ending) (w' : World) : Prop := ∃ O oc, e = .returned (.slice O ws.length oc) ∧ OwnS w' w.heap.size (.slice O ws.length oc) ws ∧ Below w.heap.size w w'
set_option maxHeartbeats 2000000 in
theorem l1Split (c : UInt8) (l : List UInt8) (w : World) (hn : l.length ≤ 1048576) :
  Calls Tryd.prog 50 #[.string (bs l), .int .u8 (c.toNat : Int)] w (AnsSs w (splitS c l)) := by
 obtain ⟨T, hT⟩ : ∃ T, bs l = T := ⟨_, rfl⟩
 rw [hT]
 obtain ⟨N, hN⟩ : ∃ N, l.length = N := ⟨_, rfl⟩
 have hlen : ∀ v : World, (Builtin.len_ #[9] 3 #[.string T]).run Tryd.prog v = .ok (.int .i64 (N : Int)) v := by
  intro v
  rw [run_len_string (P := Tryd.prog) v 9 3 T Tryd.underlying9, ← hT, bs_size, hN]
  rfl
 have HI := hid (fun (k : Nat) (h : k < l.length) => by rw [← hT]; exact at_bs h : ∀ k, k < l.length → ∀ v, (Instr.index 9 (.string T) (.int .i64 (k : Int))).run Tryd.prog v = .ok (.int .u8 ((l.getD k 0).toNat : Int)) v)
 have HC := hid (fun (a b : Nat) (h1 : a ≤ b) (h2 : b ≤ l.length) => by rw [← hT]; exact cut_bs h1 h2 : ∀ a b, a ≤ b → b ≤ l.length → ∀ v, (Instr.slice 9 (.string T) (some (.int .i64 (a : Int))) (some (.int .i64 (b : Int))) none).run Tryd.prog v = .ok (.string (bs ((l.drop a).take (b - a)))) v)
 have HN := hid hN
 obtain ⟨C, hC⟩ : ∃ C, c.toNat = C := ⟨_, rfl⟩
 rw [hC]
 have HCC := hid hC
 have HB := hid hn
 clear hT hN hC hn
 have S0 := hid (show HeadSp w c l N (.slice (some ⟨w.heap.size, 0, none⟩) 0 0) (.int .i64 0) (.int .i64 0) (w.alloc (.cells #[] 9)) from ⟨0, 0, 0, _, 0, Nat.zero_le _, by simp [spF, stS], by simp [spW, stS], rfl, rfl, rfl, by
  rw [show spW c l 0 = [] by simp [spW, stS]]
  exact ownS_empty w w.heap.size (Nat.le_refl _), (Below.refl _ _).alloc (Nat.le_refl _) _⟩)
 go_enter Tryd.func50, Tryd.ntmps50
 go_wp2_with fail
 go_loopw [5, 6, 7] (fun out fr i wr => HeadSp w c l N out fr i wr) (fun _ _ i _ => N + 1 - (intOf i).toNat)
 case atStart => exact S0.out
 case round =>
  clear S0
  obtain ⟨k, f, m, O, oc, hk, hf, hm, rfl, rfl, rfl, ho, hb⟩ := hrel
  have hz := hb.size
  have hNb : N ≤ 1048576 := by rw [← HN.out]; exact HB.out
  have hmN : m ≤ 1048577 := by
   have h1 := sp_len c l k
   have h2 := HB.out
   rw [hm] at h1
   omega
  by_cases hle : k ≤ N
  ·have i1 : (k : Int) ≤ (N : Int) := by omega
   have i0 : (0 : Int) ≤ (k : Int) := by omega
   have hfk : f ≤ k := by rw [← hf]; exact sp_le (by rw [HN.out]; exact hle)
   have hcut := HC.out f k hfk (by rw [HN.out]; exact hle)
   obtain ⟨y, hy⟩ : ∃ y, (l.drop f).take (k - f) = y := ⟨_, rfl⟩
   rw [hy] at hcut
   by_cases heq : k = N
   ·obtain ⟨e1, e2⟩ := sp_end (c := c) (l := l) (k := k) (by rw [HN.out]; exact heq)
    rw [hf, hy] at e1
    have E1 := hid e1
    have E2 := hid e2
    have HM := hid hm
    clear e1 e2 hf hm hy hfk hle
    subst heq
    go_wp2_with (at_builtin; refine app1S rfl _ _ rfl w.heap.size O m oc _ rfl (ho.next ((Below.refl _ _).alloc (Nat.le_refl _) _)) wr.heap.size 1 y rfl ((Row.new _ _ _).cell 0) (by omega) (by simp; omega) ?_; intro O' oc' w2 ho2 b2)
    have S := hid (show HeadSp w c l k (.slice O' (m + 1) oc') (.int .i64 ((k : Int) + 1)) (.int .i64 ((k : Int) + 1)) w2 from ⟨k + 1, k + 1, m + 1, O', oc', Nat.le_refl _, E2.out, by rw [E1.out, List.length_append, HM.out]; rfl, by simp, by simp, rfl, by rw [E1.out]; exact ho2, (hb.alloc hb.size _).trans b2⟩)
    clear ho hb ho2 b2
    go_wp2
    go_roundw
    case rel => exact S.out
    case measure => simp [intOf]
   ·have hlt : k < l.length := by rw [HN.out]; omega
    have hidx := HI.out k hlt
    have hne : ¬ (k : Int) = (N : Int) := by omega
    by_cases hc : l.getD k 0 = c
    ·obtain ⟨e1, e2⟩ := sp_hit hlt hc
     rw [hf, hy] at e1
     rw [hc, HCC.out] at hidx
     have E1 := hid e1
     have E2 := hid e2
     have HM := hid hm
     clear e1 e2 hf hm hy hfk hc heq
     go_wp2_with (at_builtin; refine app1S rfl _ _ rfl w.heap.size O m oc _ rfl (ho.next ((Below.refl _ _).alloc (Nat.le_refl _) _)) wr.heap.size 1 y rfl ((Row.new _ _ _).cell 0) (by omega) (by simp; omega) ?_; intro O' oc' w2 ho2 b2)
     have S := hid (show HeadSp w c l N (.slice O' (m + 1) oc') (.int .i64 ((k : Int) + 1)) (.int .i64 ((k : Int) + 1)) w2 from ⟨k + 1, k + 1, m + 1, O', oc', by omega, E2.out, by rw [E1.out, List.length_append, HM.out]; rfl, by simp, by simp, rfl, by rw [E1.out]; exact ho2, (hb.alloc hb.size _).trans b2⟩)
     clear ho hb ho2 b2
     go_wp2
     go_roundw
     case rel => exact S.out
     case measure => simp [intOf]; omega
    ·obtain ⟨e1, e2⟩ := sp_miss hlt hc
     obtain ⟨X, hX⟩ : ∃ X, (l.getD k 0).toNat = X := ⟨_, rfl⟩
     rw [hX] at hidx
     have hxc : ((X : Int) == (C : Int)) = false := beq_eq_false_iff_ne.2 (fun e => hc (UInt8.toNat_inj.1 (by rw [hX, HCC.out]; omega)))
     have hne2 : ((k : Int) == (N : Int)) = false := beq_eq_false_iff_ne.2 hne
     have S := hid (show HeadSp w c l N (.slice O m oc) (.int .i64 (f : Int)) (.int .i64 ((k : Int) + 1)) wr from ⟨k + 1, f, m, O, oc, by omega, by rw [e2]; exact hf, by rw [e1]; exact hm, by simp, rfl, rfl, by rw [e1]; exact ho, hb⟩)
     clear e1 e2 hf hm hy hfk hc heq hX ho hb
     go_wp2
     go_roundw
     case rel => exact S.out
     case measure => simp [intOf]; omega
  ·have hkn : k = N + 1 := by omega
   have i1 : ¬ (k : Int) ≤ (N : Int) := by omega
   have e : spW c l k = splitS c l := by unfold spW; rw [if_neg (by rw [HN.out]; omega)]
   rw [e] at ho hm
   subst hm
   have F := hid (show AnsSs w (splitS c l) (.returned (.slice O (splitS c l).length oc)) wr from ⟨O, oc, rfl, ho, hb⟩)
   clear ho hb e hf hkn
   go_wp2
   go_ret
   exact F.out
theorem rdF_lt : ∀ (w : List UInt8) (n : Nat), w.all dgt = true → rdF w n < (n + 1) * 10 ^ w.length
 | [], n, _ => by simp [rdF]
 | c :: w, n, h => by
  rw [List.all_cons, Bool.and_eq_true] at h
  have hc : 48 ≤ c.toNat ∧ c.toNat ≤ 57 := of_decide_eq_true h.1
  have h1 := rdF_lt w (n * 10 + (c.toNat - 48)) h.2
  refine Nat.lt_of_lt_of_le (show rdF (c :: w) n < _ from h1) ?_
  rw [List.length_cons, Nat.pow_succ, Nat.mul_comm (10 ^ w.length) 10, ← Nat.mul_assoc]
  exact Nat.mul_le_mul_right _ (by omega)
theorem rdF_snoc (w : List UInt8) (c : UInt8) (n : Nat) : rdF (w ++ [c]) n = rdF w n * 10 + (c.toNat - 48) := by simp [rdF]
theorem take_d {l : List UInt8} {k : Nat} (h : k < l.length) : l.take (k + 1) = l.take k ++ [l.getD k 0] := by
 rw [List.take_succ_eq_append_getElem h]
 simp [List.getD, h]
def rdI (l : List UInt8) : Int := if rdOk l = true then (rdV l : Int) else 0
def HeadRd (w : World) (l : List UInt8) (n i : Value) (wr : World) : Prop :=
 ∃ k v : Nat, k ≤ l.length ∧ (l.take k).all dgt = true ∧ rdV (l.take k) = v ∧ i = .int .i64 k ∧ n = .int .i64 v ∧ wr = w
set_option maxHeartbeats 2000000 in
theorem l1Read (l : List UInt8) (w : World) :
  Calls Tryd.prog 51 #[.string (bs l)] w fun e w' => e = .returned (.tuple #[.int .i64 (rdI l), .bool (rdOk l)]) ∧ w' = w := by
 obtain ⟨T, hT⟩ : ∃ T, bs l = T := ⟨_, rfl⟩
 rw [hT]
 obtain ⟨N, hN⟩ : ∃ N, l.length = N := ⟨_, rfl⟩
 have hlen : ∀ v : World, (Builtin.len_ #[9] 3 #[.string T]).run Tryd.prog v = .ok (.int .i64 (N : Int)) v := by
  intro v
  rw [run_len_string (P := Tryd.prog) v 9 3 T Tryd.underlying9, ← hT, bs_size, hN]
  rfl
 have HI := hid (fun (k : Nat) (h : k < l.length) => by rw [← hT]; exact at_bs h : ∀ k, k < l.length → ∀ v, (Instr.index 9 (.string T) (.int .i64 (k : Int))).run Tryd.prog v = .ok (.int .u8 ((l.getD k 0).toNat : Int)) v)
 have HN := hid hN
 clear hT
 have hno : ∀ {b : Bool}, rdOk l = b → b = false → rdI l = 0 ∧ rdOk l = false := fun h hb => ⟨by unfold rdI; rw [h, hb]; simp, by rw [h, hb]⟩
 by_cases hL : 1 ≤ N ∧ N ≤ 9
 ·have h0 : ∀ v, (Instr.index 9 (.string T) (.int .i64 0)).run Tryd.prog v = .ok (.int .u8 ((l.getD 0 0).toNat : Int)) v := HI.out 0 (by omega)
  have a1 : ¬ (N : Int) < 1 := by omega
  have a2 : ¬ (9 : Int) < (N : Int) := by omega
  obtain ⟨X, hX⟩ : ∃ X, (l.getD 0 0).toNat = X := ⟨_, rfl⟩
  rw [hX] at h0
  by_cases hz : X = 48 ∧ 1 < N
  ·have a3 : (1 : Int) < (N : Int) := by omega
   have hx48 : (X : Int) = 48 := by omega
   have R := hid (hno (b := false) (by
    unfold rdOk
    rw [hN, decide_eq_false (by
     rintro ⟨-, -, h⟩
     exact h ⟨UInt8.toNat_inj.1 (by rw [hX, hz.1]; rfl), hz.2⟩)]
    rfl) rfl)
   rw [hx48] at h0
   clear hN hX hz hL hno hx48
   go_enter Tryd.func51, Tryd.ntmps51
   go_wp2_with fail
   go_ret2
   rw [R.out.1, R.out.2]
   exact ⟨rfl, rfl⟩
  ·have R := hid (show rdOk l = l.all dgt by
    unfold rdOk
    rw [hN, decide_eq_true (by
     refine ⟨hL.1, hL.2, fun h => hz ⟨by rw [← hX, h.1]; rfl, h.2⟩⟩)]
    rfl)
   have S0 := hid (show HeadRd w l (.int .i64 0) (.int .i64 0) w from ⟨0, 0, Nat.zero_le _, by simp, rfl, rfl, rfl, rfl⟩)
   clear hno
   have h48 : (X : Int) = 48 ∧ ¬ (1 : Int) < (N : Int) ∨ ¬ (X : Int) = 48 := by omega
   have HH := hid hX
   have HLL := hid hL
   clear hX hz hN hL
   rcases h48 with ⟨b1, b2⟩ | b1
   all_goals
    try rw [b1] at h0
    go_enter Tryd.func51, Tryd.ntmps51
    go_wp2_with fail
    go_loopw [4, 5] (fun n i wr => HeadRd w l n i wr) (fun _ i _ => N - (intOf i).toNat)
    case atStart => exact S0.out
    case round =>
     clear S0 b1 h0
     obtain ⟨k, v, hk, hall, hv, rfl, rfl, rfl⟩ := hrel
     rw [HN.out] at hk
     have hvb : v < 1000000000 := by
      have h1 := rdF_lt (l.take k) 0 hall
      have h2 : (10 : Nat) ^ (l.take k).length ≤ 10 ^ 9 := Nat.pow_le_pow_right (by omega) (by rw [List.length_take, HN.out]; have := HLL.out; omega)
      have h3 : rdV (l.take k) = rdF (l.take k) 0 := rfl
      omega
     by_cases hlt : k < N
     ·have i1 : (k : Int) < (N : Int) := by omega
      have i0 : (0 : Int) ≤ (k : Int) := by omega
      have hkl : k < l.length := by rw [HN.out]; exact hlt
      have hidx := HI.out k hkl
      have etk := take_d hkl
      obtain ⟨c, hc⟩ : ∃ c, l.getD k 0 = c := ⟨_, rfl⟩
      rw [hc] at hidx etk
      by_cases hd : 48 ≤ c.toNat ∧ c.toNat ≤ 57
      ·obtain ⟨d, hd9⟩ : ∃ d, c.toNat = 48 + d := ⟨c.toNat - 48, by omega⟩
       rw [hd9] at hidx
       have d9 : d ≤ 9 := by omega
       have e1 : ((48 + d : Nat) : Int) = 48 + (d : Int) := by omega
       rw [e1] at hidx
       have S := hid (show HeadRd wr l (.int .i64 ((v : Int) * 10 + (48 + (d : Int) - 48))) (.int .i64 ((k : Int) + 1)) wr from ⟨k + 1, v * 10 + d, by omega, by
        rw [etk, List.all_append, hall, Bool.true_and, List.all_cons, List.all_nil, Bool.and_true]
        exact decide_eq_true hd, by
        have : rdV (l.take k ++ [c]) = rdV (l.take k) * 10 + (c.toNat - 48) := rdF_snoc _ _ _
        rw [etk, this, hv, hd9]
        omega, by simp, by congr 1; omega, rfl⟩)
       clear hd hd9 etk hc hkl hall hv hk e1
       go_wp2
       go_roundw
       case rel => exact S.out
       case measure => simp [intOf]; omega
      ·have hw : rdOk l = false := by
        rw [R.out, List.all_eq_false]
        exact ⟨c, by rw [← hc]; simp [List.getD, hkl], by simp [dgt]; omega⟩
       have RV := hid (show rdI l = 0 by unfold rdI; rw [hw]; simp)
       have RO := hid hw
       obtain ⟨D, hD⟩ : ∃ D, c.toNat = D := ⟨_, rfl⟩
       rw [hD] at hidx hd
       have hdd : (D : Int) < 48 ∨ (¬ (D : Int) < 48 ∧ (57 : Int) < (D : Int)) := by omega
       clear hw hD hc etk hkl hall hv hk hd
       rcases hdd with q | ⟨q, q2⟩
       ·go_wp2
        go_ret2
        rw [RV.out, RO.out]
        exact ⟨rfl, rfl⟩
       ·go_wp2
        go_ret2
        rw [RV.out, RO.out]
        exact ⟨rfl, rfl⟩
     ·have i1 : ¬ (k : Int) < (N : Int) := by omega
      have et : l.take k = l := List.take_of_length_le (by rw [HN.out]; omega)
      rw [et] at hall hv
      have hw : rdOk l = true := by rw [R.out]; exact hall
      have RV := hid (show rdI l = (v : Int) by unfold rdI; rw [hw, hv]; simp)
      have RO := hid hw
      clear hw et hall hv hk
      go_wp2
      go_ret2
      rw [RV.out, RO.out]
      exact ⟨rfl, rfl⟩
 ·have R := hid (hno (b := false) (by
   unfold rdOk
   rw [hN, decide_eq_false (by rintro ⟨h1, h2, -⟩; exact hL ⟨h1, h2⟩)]
   rfl) rfl)
  by_cases hs : N < 1
  ·have a1 : (N : Int) < 1 := by omega
   clear hN hL hno hs
   go_enter Tryd.func51, Tryd.ntmps51
   go_wp2_with fail
   go_ret2
   rw [R.out.1, R.out.2]
   exact ⟨rfl, rfl⟩
  ·have a1 : ¬ (N : Int) < 1 := by omega
   have a2 : (9 : Int) < (N : Int) := by omega
   clear hN hL hno hs
   go_enter Tryd.func51, Tryd.ntmps51
   go_wp2_with fail
   go_ret2
   rw [R.out.1, R.out.2]
   exact ⟨rfl, rfl⟩
end splitSpec
end
end Go.Proofs.YtlaloakegajheabDoor
