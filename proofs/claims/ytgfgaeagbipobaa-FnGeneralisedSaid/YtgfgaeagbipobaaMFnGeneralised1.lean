/-
  MERGED: my texts Base, Open, Ints, Sig, Term, Arity, Cursor, Dice, OpenB, Marks, Append, List, End, TermOk, DrawSig, DrawTerm, DrawAny, DrawNew, DrawPairL, DrawOne, Term2, TermFacts, VarsMath, one behind the other, as they are. By an AI agent.
-/
import Derived.WalkKit
import Derived.Lib.Hide
import Derived.Deep.Draws
import Derived.ProofKit
import Derived.OpenShut
import Derived.Lib.SmallJoins
import Derived.Test.YtgfgaeagbipobaaRows
import Derived.Deep.QuietTactic
import Derived.BigQuiet
import Derived.Deep.RegionHeld3
import Derived.Deep.AppendLies
import Derived.Laws.AppendOwnNone
import Derived.Deep.RegionLaw
namespace Go.Proofs.Ytgfgaeagbipobaa
section
namespace base
open Go.RowKit
def Seg (w : World) (B : Nat) (A : Option Addr) (n : Nat) (xs : List Int) : Prop :=
 xs.length = n ∧ (0 < n → ∃ b off, A = some ⟨b, off, none⟩ ∧ b < B ∧ ∀ j, j < n → w.cell? ⟨b, off + j, none⟩ = some (.int .i64 (xs.getD j 0)))
def Row (w : World) (g : Nat) (t : TypeId) (cs : Array Value) : Prop := w.heap[g]? = some (.cells cs t (0, 0))
section
variable {w w' : World} {B B' n : Nat} {A : Option Addr} {xs : List Int}
theorem Seg.empty : Seg w B A 0 [] := ⟨rfl, fun h => absurd h (by omega)⟩
theorem Seg.round (h : Seg w B A n xs) {k : Nat} (hk : k < n) : ∃ b off, A = some ⟨b, off, none⟩ ∧ b < B ∧ w.cell? ⟨b, off + k, none⟩ = some (.int .i64 (xs.getD k 0)) := by
 obtain ⟨b, off, e, hb, hc⟩ := h.2 (by omega)
 exact ⟨b, off, e, hb, hc k hk⟩
theorem Seg.spot (h : Seg w B A n xs) {k : Nat} (hk : k < n) : ∃ b off x, A = some ⟨b, off, none⟩ ∧ b < B ∧ w.cell? ⟨b, off + k, none⟩ = some (.int .i64 x) ∧ Hid (xs.getD k 0 = x) := by
 obtain ⟨b, off, e, hb, hc⟩ := h.2 (by omega)
 exact ⟨b, off, _, e, hb, hc k hk, Lib.hid rfl⟩
theorem Seg.keep (h : Seg w B A n xs) (hk : ∀ p : Addr, p.block < B → w'.cell? p = w.cell? p) : Seg w' B A n xs :=
 ⟨h.1, fun hn => by
  obtain ⟨b, off, e, hb, hc⟩ := h.2 hn
  exact ⟨b, off, e, hb, fun j hj => (hk ⟨b, off + j, none⟩ hb).trans (hc j hj)⟩⟩
theorem Seg.more (h : Seg w B A n xs) (hB : B ≤ B') : Seg w B' A n xs :=
 ⟨h.1, fun hn => by
  obtain ⟨b, off, e, hb, hc⟩ := h.2 hn
  exact ⟨b, off, e, by omega, hc⟩⟩
theorem Seg.below (h : Seg w B A n xs) (hb : Below B w w') : Seg w' B A n xs := h.keep fun _ hp => hb.cell hp
theorem Seg.next (h : Seg w w.heap.size A n xs) (hb : Below w.heap.size w w') : Seg w' w'.heap.size A n xs := (h.below hb).more hb.size
theorem Seg.drew (h : Seg w B A n xs) : Seg w.drew B A n xs := h
theorem Seg.drewN (h : Seg w B A n xs) (k : Nat) : Seg (w.drewN k) B A n xs := h
theorem Seg.alloc (h : Seg w B A n xs) (hB : B ≤ w.heap.size) (o : Obj) : Seg (w.alloc o) B A n xs := h.keep fun p hp => World.cell?_alloc_lt w o p (by omega)
theorem Seg.put (h : Seg w B A n xs) {p : Addr} (hB : B ≤ p.block) (u : Value) : Seg (w.setCell p u) B A n xs :=
 h.keep fun q hq => World.cell?_setCell_other w p q u (fun e => by subst e; omega)
theorem Row.lt {g : Nat} {t : TypeId} {cs : Array Value} (h : Row w g t cs) : g < w.heap.size := by
 unfold Row at h
 exact (Array.getElem?_eq_some_iff.1 h).1
theorem Row.cell {g : Nat} {t : TypeId} {cs : Array Value} (h : Row w g t cs) (i : Nat) : w.cell? ⟨g, i, none⟩ = cs[i]? := cell_of_row w g i cs t (0, 0) h
theorem Row.free {g : Nat} {t : TypeId} {cs : Array Value} (h : Row w g t cs) (i : Nat) : w.frozen? ⟨g, i, none⟩ = false := by
 unfold Row at h
 simp [World.frozen?, h]
theorem Row.new (w : World) (t : TypeId) (cs : Array Value) : Row (w.alloc (.cells cs t)) w.heap.size t cs := heap_alloc_new w _
theorem Row.put {g : Nat} {t : TypeId} {cs : Array Value} (h : Row w g t cs) (i : Nat) (u : Value) : Row (w.setCell ⟨g, i, none⟩ u) g t (cs.setIfInBounds i u) := by
 unfold Row at h ⊢
 simp [World.setCell, Array.getElem?_modify, h]
theorem Row.far {g : Nat} {t : TypeId} {cs : Array Value} (h : Row w g t cs) {p : Addr} (hp : g ≠ p.block) (u : Value) : Row (w.setCell p u) g t cs := (Below.heap_setCell w p u g hp).trans h
theorem Row.alloc {g : Nat} {t : TypeId} {cs : Array Value} (h : Row w g t cs) (o : Obj) : Row (w.alloc o) g t cs := (Below.heap_alloc w o g h.lt).trans h
theorem Row.drewN {g : Nat} {t : TypeId} {cs : Array Value} (h : Row w g t cs) (k : Nat) : Row (w.drewN k) g t cs := h
theorem Row.drew {g : Nat} {t : TypeId} {cs : Array Value} (h : Row w g t cs) : Row w.drew g t cs := h
theorem Row.below {g : Nat} {t : TypeId} {cs : Array Value} (h : Row w g t cs) (hb : Below B w w') (hg : g < B) : Row w' g t cs := (hb.block g hg).trans h
theorem Row.next {g : Nat} {t : TypeId} {cs : Array Value} (h : Row w g t cs) (hb : Below w.heap.size w w') : Row w' g t cs := h.below hb h.lt
theorem Row.seg {g : Nat} {t : TypeId} {cs : Array Value} (h : Row w g t cs) (hl : xs.length = n) (hB : g < B) (hc : ∀ j, j < n → cs[j]? = some (.int .i64 (xs.getD j 0))) : Seg w B (some ⟨g, 0, none⟩) n xs :=
 ⟨hl, fun _ => ⟨g, 0, rfl, hB, fun j hj => by rw [Nat.zero_add, h.cell j]; exact hc j hj⟩⟩
theorem next_trans {a b c : World} (h : Below a.heap.size a b) (k : Below b.heap.size b c) : Below a.heap.size a c := h.trans (k.mono h.size)
theorem below_drewN {a : World} (h : Below B a w) (k : Nat) : Below B a (w.drewN k) := ⟨h.os, h.tape, h.output, h.size, h.block⟩
end
end base
end
section
namespace openArgs
open Go.ChangeShapes Go.WideShapes Go.ChangeAt Go.RowKit base
section
variable {H : Type} {enc : TypeId × Value → H} {P : Program} {w : World}
end
end openArgs
end
section
namespace ints
open Go.RowKit base
theorem info_i64 : (Try.prog.info? 2).map (fun i => (i.zero, i.size, i.bytes)) = some (some (.int .i64 0), 1, 8) := by kernel_rfl
theorem run_make_i64 (n : Nat) (hn : n ≤ 1048576) (W : World) : (Instr.makeSlice 24 (.int .i64 (n : Int)) (.int .i64 (n : Int))).run Try.prog W =
  .ok (.slice (some ⟨W.heap.size, 0, none⟩) n n) (W.alloc (.cells (madeCells #[.int .i64 0] n) 2)) := by
 obtain ⟨i0, hi, hz0, hz1, hz2⟩ := info_parts info_i64
 have hr := run_make (P := Try.prog) W 24 2 i0 _ Try.underlying24 hi hz0 .i64 .i64 n n (by omega) (by omega) (by rw [hz2]; omega) (by omega)
 simpa [hz1, Value.cells] using hr
theorem lists_eq {xs ys : List Int} {n : Nat} (hx : xs.length = n) (hy : ys.length = n) (h : ∀ j, j < n → xs.getD j 0 = ys.getD j 0) : xs = ys := by
 subst hx
 refine List.ext_getElem hy.symm fun j h1 h2 => ?_
 have := h j h1
 simpa [List.getD, h1, h2] using this
def HeadSame (w : World) (n : Nat) (xs ys : List Int) (i : Value) (wr : World) : Prop :=
 ∃ (k d : Nat), k ≤ n ∧ i = .int .i64 k ∧ wr = w.drewN d ∧ ∀ j, j < k → xs.getD j 0 = ys.getD j 0
theorem alike_step {w : World} {n k : Nat} {xs ys : List Int} {x : Int} (hk : k < n) (h : ∀ j, j < k → xs.getD j 0 = ys.getD j 0) (hx : Hid (xs.getD k 0 = x)) (hy : Hid (ys.getD k 0 = x)) (d : Nat) :
  HeadSame w n xs ys (.int .i64 ((k : Int) + 1)) (w.drewN d) :=
 ⟨k + 1, d, hk, by simp, rfl, fun j hj => by
  by_cases e : j = k
  ·subst e; rw [hx.out, hy.out]
  ·exact h j (by omega)⟩
def AnsSame (w : World) (xs ys : List Int) (e : Ending) (w' : World) : Prop := e = .returned (.bool (decide (xs = ys))) ∧ ∃ d, w' = w.drewN d
theorem same_not {w : World} {xs ys : List Int} {k : Nat} {x y : Int} (hx : Hid (xs.getD k 0 = x)) (hy : Hid (ys.getD k 0 = y)) (h : ¬ x = y) (d : Nat) : AnsSame w xs ys (.returned (.bool false)) (w.drewN d) :=
 ⟨by rw [decide_eq_false (fun e => h (by rw [← hx.out, ← hy.out, e]))], d, rfl⟩
theorem same_yes {w : World} {xs ys : List Int} {n k : Nat} (hx : xs.length = n) (hy : ys.length = n) (hn : ¬ k < n) (h : ∀ j, j < k → xs.getD j 0 = ys.getD j 0) (d : Nat) : AnsSame w xs ys (.returned (.bool true)) (w.drewN d) :=
 ⟨by rw [decide_eq_true (lists_eq hx hy (fun j hj => h j (by omega)))], d, rfl⟩
theorem same_len {w : World} {xs ys : List Int} {n m : Nat} (hx : xs.length = n) (hy : ys.length = m) (h : ¬ n = m) : AnsSame w xs ys (.returned (.bool false)) w :=
 ⟨by rw [decide_eq_false (fun e => h (by rw [← hx, ← hy, e]))], 0, rfl⟩
def Fine (w : World) (e : Ending) (w' : World) : Prop := e = .returned (.bool true) ∧ Below w.heap.size w w'
end ints
end
section
open Go.Lib (hid)
namespace sig
open Go.RowKit base ints
def arityOk (a : Int) : Bool := decide (0 ≤ a ∧ a ≤ 3)
def sigOkB (xs : List Int) : Bool := decide (1 ≤ xs.length ∧ xs.length ≤ 8) && xs.all arityOk
theorem inYes (x lo hi : Int) (w : World) (h : lo ≤ x ∧ x ≤ hi) : Calls Try.prog 67 #[.int .i64 x, .int .i64 lo, .int .i64 hi] w fun e w' => w = w' ∧ e = .returned (.bool true) := by
 obtain ⟨h1, h2⟩ := h
 go_enter Try.func67, Try.ntmps67
 go_wp2
 go_ret
 exact ⟨rfl, rfl⟩
theorem inNo (x lo hi : Int) (w : World) (h : ¬ (lo ≤ x ∧ x ≤ hi)) : Calls Try.prog 67 #[.int .i64 x, .int .i64 lo, .int .i64 hi] w fun e w' => w = w' ∧ e = .returned (.bool false) := by
 by_cases h1 : lo ≤ x
 ·have h2 : decide (x ≤ hi) = false := by simp; omega
  go_enter Try.func67, Try.ntmps67
  go_wp2
  go_ret
  exact ⟨rfl, rfl⟩
 ·go_enter Try.func67, Try.ntmps67
  go_wp2
  go_ret
  exact ⟨rfl, rfl⟩
def AnsSig (w : World) (xs : List Int) (e : Ending) (w' : World) : Prop := e = .returned (.bool (sigOkB xs)) ∧ Below w.heap.size w w'
theorem sig_len {w w' : World} {xs : List Int} {n : Nat} (hx : xs.length = n) (h : ¬ (1 ≤ n ∧ n ≤ 8)) (hb : Below w.heap.size w w') : AnsSig w xs (.returned (.bool false)) w' :=
 ⟨by unfold sigOkB; rw [decide_eq_false (by omega), Bool.false_and], hb⟩
theorem sig_bad {w w' : World} {xs : List Int} {n k : Nat} {x : Int} (hx : xs.length = n) (hk : k < n) (ex : Hid (xs.getD k 0 = x)) (h : ¬ (0 ≤ x ∧ x ≤ 3)) (hb : Below w.heap.size w w') : AnsSig w xs (.returned (.bool false)) w' := by
 refine ⟨?_, hb⟩
 have hm : x ∈ xs := by
  have := ex.out
  subst hx
  rw [← this]
  simp [List.getD, hk]
 have : xs.all arityOk = false := by
  rw [List.all_eq_false]
  exact ⟨x, hm, by simp [arityOk]; omega⟩
 unfold sigOkB
 rw [this, Bool.and_false]
theorem sig_good {w w' : World} {xs : List Int} {n k : Nat} (hx : xs.length = n) (h : 1 ≤ n ∧ n ≤ 8) (hn : ¬ k < n) (hc : ∀ j, j < k → 0 ≤ xs.getD j 0 ∧ xs.getD j 0 ≤ 3) (hb : Below w.heap.size w w') : AnsSig w xs (.returned (.bool true)) w' := by
 refine ⟨?_, hb⟩
 have : xs.all arityOk = true := by
  rw [List.all_eq_true]
  intro x hxm
  obtain ⟨j, hj, rfl⟩ := List.getElem_of_mem hxm
  have := hc j (by omega)
  simp [List.getD, hj] at this
  simp [arityOk, this]
 unfold sigOkB
 rw [this, Bool.and_true, decide_eq_true (by omega)]
def HeadSig (n : Nat) (xs : List Int) (i : Value) : Prop := ∃ k : Nat, k ≤ n ∧ i = .int .i64 k ∧ ∀ j, j < k → 0 ≤ xs.getD j 0 ∧ xs.getD j 0 ≤ 3
theorem headSig_step {n k : Nat} {xs : List Int} {x : Int} (hk : k < n) (h : ∀ j, j < k → 0 ≤ xs.getD j 0 ∧ xs.getD j 0 ≤ 3) (hx : Hid (xs.getD k 0 = x)) (h0 : 0 ≤ x ∧ x ≤ 3) : HeadSig n xs (.int .i64 ((k : Int) + 1)) :=
 ⟨k + 1, hk, by simp, fun j hj => by
  by_cases e : j = k
  ·subst e; rw [hx.out]; exact h0
  ·exact h j (by omega)⟩
set_option maxHeartbeats 400000 in
theorem specSigOk (A : Option Addr) (n c : Nat) (xs : List Int) (w : World) (h : Seg w w.heap.size A n xs) (hn : n ≤ 1048576) :
  Calls Try.prog 62 #[.agg #[.slice A n c]] w (AnsSig w xs) := by
 have b : Below w.heap.size w (w.alloc (.cells #[.slice A n c] 26)) := (Below.refl _ _).alloc (Nat.le_refl _) _
 by_cases hl : 1 ≤ n ∧ n ≤ 8
 ·go_enter Try.func62, Try.ntmps62
  go_wp2_with fail
  refine (inYes _ _ _ _ (by omega)).mono ?_
  rintro e w' ⟨rfl, rfl⟩
  go_wp2_with fail
  go_loop [3] (fun i => HeadSig n xs i) (fun i => n - (intOf i).toNat)
  case atStart => exact ⟨0, Nat.zero_le _, rfl, fun j h => absurd h (Nat.not_lt_zero _)⟩
  case round =>
   obtain ⟨k, hk, rfl, hc⟩ := hrel
   by_cases hlt : k < n
   ·obtain ⟨g, off, x, rfl, hg, hx, ex⟩ := h.spot hlt
    by_cases hin : 0 ≤ x ∧ x ≤ 3
    ·have S := hid (headSig_step (n := n) hlt hc ex hin)
     have L := hid (fun W => inYes x 0 3 W hin)
     clear hc h ex hin
     go_wp2_with fail
     refine (L.out _).mono ?_
     rintro e w' ⟨rfl, rfl⟩
     go_wp2
     go_round
     case rel => exact S.out
     case measure => simp [intOf]; omega
    ·have S := hid (sig_bad h.1 hlt ex hin b)
     have L := hid (fun W => inNo x 0 3 W hin)
     clear hc h ex hin b
     go_wp2_with fail
     refine (L.out _).mono ?_
     rintro e w' ⟨rfl, rfl⟩
     go_wp2
     go_ret
     exact S.out
   ·have S := hid (sig_good h.1 hl hlt hc b)
    clear hc h b
    go_wp2
    go_ret
    exact S.out
 ·have S := hid (sig_len h.1 hl b)
  clear h b
  go_enter Try.func62, Try.ntmps62
  go_wp2_with fail
  refine (inNo _ _ _ _ (by omega)).mono ?_
  rintro e w' ⟨rfl, rfl⟩
  go_wp2
  go_ret
  exact S.out
set_option maxHeartbeats 400000 in
theorem implSigOk (A : Option Addr) (n c : Nat) (xs : List Int) (w : World) (h : Seg w w.heap.size A n xs) (hn : n ≤ 1048576) :
  Calls Try.prog 75 #[.agg #[.slice A n c]] w (AnsSig w xs) := by
 have b : Below w.heap.size w (w.alloc (.cells #[.slice A n c] 26)) := (Below.refl _ _).alloc (Nat.le_refl _) _
 by_cases hl : 1 ≤ n ∧ n ≤ 8
 ·obtain ⟨hl1, hl2⟩ := hl
  go_enter Try.func75, Try.ntmps75
  go_wp2_with fail
  go_loop [18] (fun i => HeadSig n xs i) (fun i => n - (intOf i).toNat)
  case atStart => exact ⟨0, Nat.zero_le _, rfl, fun j h => absurd h (Nat.not_lt_zero _)⟩
  case round =>
   obtain ⟨k, hk, rfl, hc⟩ := hrel
   by_cases hlt : k < n
   ·obtain ⟨g, off, x, rfl, hg, hx, ex⟩ := h.spot hlt
    by_cases hin : 0 ≤ x ∧ x ≤ 3
    ·have S := hid (headSig_step (n := n) hlt hc ex hin)
     obtain ⟨hin1, hin2⟩ := hin
     clear hc h ex
     go_wp2
     go_round
     case rel => exact S.out
     case measure => simp [intOf]; omega
    ·have S := hid (sig_bad h.1 hlt ex hin b)
     clear hc h ex b
     by_cases hx0 : x < 0
     ·go_wp2
      go_ret
      exact S.out
     ·have hx3 : 3 < x := by omega
      go_wp2
      go_ret
      exact S.out
   ·have S := hid (sig_good h.1 ⟨hl1, hl2⟩ hlt hc b)
    clear hc h b
    go_wp2
    go_ret
    exact S.out
 ·have S := hid (sig_len h.1 hl b)
  clear h b
  by_cases hl1 : n < 1
  ·go_enter Try.func75, Try.ntmps75
   go_wp2
   go_ret
   exact S.out
  ·have hl2 : 8 < n := by omega
   go_enter Try.func75, Try.ntmps75
   go_wp2
   go_ret
   exact S.out
end sig
end
section
namespace term
def ar (sg : List Int) (x : Int) : Int := if -24 ≤ x ∧ x ≤ -1 then 0 else if 0 ≤ x ∧ x < sg.length then sg.getD x.toNat 0 else -1
def Arities (sg : List Int) : Prop := ∀ j, j < sg.length → 0 ≤ sg.getD j 0 ∧ sg.getD j 0 ≤ 3
theorem ar_var {sg : List Int} {x : Int} (h : -24 ≤ x ∧ x ≤ -1) : ar sg x = 0 := by unfold ar; rw [if_pos h]
theorem ar_sym {sg : List Int} {x : Int} (h : 0 ≤ x) (h' : x < sg.length) : ar sg x = sg.getD x.toNat 0 := by unfold ar; rw [if_neg (by omega), if_pos ⟨h, h'⟩]
theorem ar_no {sg : List Int} {x : Int} (h : ¬ (-24 ≤ x ∧ x ≤ -1)) (h' : ¬ (0 ≤ x ∧ x < sg.length)) : ar sg x = -1 := by unfold ar; rw [if_neg h, if_neg h']
theorem ar_bd {sg : List Int} (hs : Arities sg) (x : Int) : -1 ≤ ar sg x ∧ ar sg x ≤ 3 := by
 unfold ar
 split
 ·omega
 ·split
  ·have := hs x.toNat (by omega); omega
  ·omega
def scan (sg : List Int) : Nat → List Int → Option Nat
 | 0, _ => some 0
 | _ + 1, [] => none
 | m + 1, x :: r => if ar sg x < 0 then none else (scan sg (m + (ar sg x).toNat) r).map (· + 1)
theorem scan_zero (sg l : List Int) : scan sg 0 l = some 0 := by cases l <;> rfl
theorem scan_nil (sg : List Int) (m : Nat) : scan sg (m + 1) [] = none := rfl
theorem scan_bad {sg : List Int} {m : Nat} {x : Int} {r : List Int} (h : ar sg x < 0) : scan sg (m + 1) (x :: r) = none := by rw [scan, if_pos h]
theorem scan_step {sg : List Int} {m : Nat} {x : Int} {r : List Int} (h : ¬ ar sg x < 0) : scan sg (m + 1) (x :: r) = (scan sg (m + (ar sg x).toNat) r).map (· + 1) := by rw [scan, if_neg h]
theorem drop_cons {xs : List Int} {k : Nat} (hk : k < xs.length) : xs.drop k = xs.getD k 0 :: xs.drop (k + 1) := by
 rw [List.drop_eq_getElem_cons hk]
 simp [List.getD, hk]
def Scn (sg t : List Int) (at_ k m : Nat) : Prop := at_ ≤ k ∧ k ≤ t.length ∧ scan sg 1 (t.drop at_) = (scan sg m (t.drop k)).map (· + (k - at_))
theorem Scn.start {sg t : List Int} {at_ : Nat} (h : at_ ≤ t.length) : Scn sg t at_ at_ 1 := by
 refine ⟨Nat.le_refl _, h, ?_⟩
 rw [Nat.sub_self]
 cases scan sg 1 (t.drop at_) <;> rfl
theorem Scn.step {sg t : List Int} {at_ k m : Nat} {x : Int} (h : Scn sg t at_ k (m + 1)) (hk : k < t.length) (hx : t.getD k 0 = x) (ha : ¬ ar sg x < 0) : Scn sg t at_ (k + 1) (m + (ar sg x).toNat) := by
 obtain ⟨h1, h2, h3⟩ := h
 refine ⟨by omega, hk, ?_⟩
 rw [h3, drop_cons hk, hx, scan_step ha, Option.map_map]
 congr 1
 funext z
 simp only [Function.comp]
 omega
theorem Scn.bad {sg t : List Int} {at_ k m : Nat} {x : Int} (h : Scn sg t at_ k (m + 1)) (hk : k < t.length) (hx : t.getD k 0 = x) (ha : ar sg x < 0) : scan sg 1 (t.drop at_) = none := by
 rw [h.2.2, drop_cons hk, hx, scan_bad ha]
 rfl
theorem Scn.out {sg t : List Int} {at_ k m : Nat} (h : Scn sg t at_ k (m + 1)) (hk : ¬ k < t.length) : scan sg 1 (t.drop at_) = none := by
 rw [h.2.2, List.drop_eq_nil_of_le (by omega), scan_nil]
 rfl
theorem Scn.done {sg t : List Int} {at_ k : Nat} (h : Scn sg t at_ k 0) : scan sg 1 (t.drop at_) = some (k - at_) := by
 rw [h.2.2, scan_zero]
 simp
def endI (sg t : List Int) (at_ : Nat) : Int := match scan sg 1 (t.drop at_) with
 | some j => (at_ : Int) + j
 | none => -1
theorem endI_some {sg t : List Int} {at_ j : Nat} (h : scan sg 1 (t.drop at_) = some j) : endI sg t at_ = (at_ : Int) + j := by unfold endI; rw [h]
theorem endI_none {sg t : List Int} {at_ : Nat} (h : scan sg 1 (t.drop at_) = none) : endI sg t at_ = -1 := by unfold endI; rw [h]
theorem Scn.endI {sg t : List Int} {at_ k : Nat} (h : Scn sg t at_ k 0) : endI sg t at_ = (k : Int) := by
 rw [endI_some h.done]; have := h.1; omega
def termB (sg t : List Int) : Bool := decide (t.length ≤ 60) && decide (scan sg 1 t = some t.length)
end term
end
section
namespace arity
open Go.RowKit base ints sig term
def AnsAr (w : World) (sg : List Int) (x : Int) (e : Ending) (w' : World) : Prop := e = .returned (.int .i64 (ar sg x)) ∧ Below w.heap.size w w'
set_option maxHeartbeats 400000 in
theorem specArity (A : Option Addr) (n c : Nat) (sg : List Int) (x : Int) (w : World) (h : Seg w w.heap.size A n sg) (hn : n ≤ 1048576) :
  Calls Try.prog 92 #[.agg #[.slice A n c], .int .i64 x] w (AnsAr w sg x) := by
 have b : Below w.heap.size w (w.alloc (.cells #[.slice A n c] 26)) := (Below.refl _ _).alloc (Nat.le_refl _) _
 by_cases hv : -24 ≤ x ∧ x ≤ -1
 ·have S : AnsAr w sg x (.returned (.int .i64 0)) (w.alloc (.cells #[.slice A n c] 26)) := ⟨by rw [ar_var hv], b⟩
  have HS := Lib.hid S
  clear S h
  go_enter Try.func92, Try.ntmps92
  go_wp2_with fail
  refine (inYes _ _ _ _ hv).mono ?_
  rintro e w' ⟨rfl, rfl⟩
  go_wp2
  go_ret
  exact HS.out
 ·by_cases hs : 0 ≤ x ∧ x ≤ (n : Int) - 1
  ·obtain ⟨k, hk⟩ : ∃ k : Nat, x = k := ⟨x.toNat, by omega⟩
   subst hk
   have hlt : k < n := by omega
   obtain ⟨g, off, y, rfl, hg, hy, ey⟩ := h.spot hlt
   have S : AnsAr w sg (k : Int) (.returned (.int .i64 y)) (w.alloc (.cells #[.slice (some ⟨g, off, none⟩) n c] 26)) := ⟨by rw [ar_sym (by omega) (by have := h.1; omega), Int.toNat_natCast, ey.out], b⟩
   have HS := Lib.hid S
   clear S h ey
   go_enter Try.func92, Try.ntmps92
   go_wp2_with fail
   refine (inNo _ _ _ _ hv).mono ?_
   rintro e w' ⟨rfl, rfl⟩
   go_wp2_with fail
   refine (inYes _ _ _ _ hs).mono ?_
   rintro e w' ⟨rfl, rfl⟩
   go_wp2
   go_ret
   exact HS.out
  ·have S : AnsAr w sg x (.returned (.int .i64 (-1))) (w.alloc (.cells #[.slice A n c] 26)) := ⟨by rw [ar_no hv (by have := h.1; omega)], b⟩
   have HS := Lib.hid S
   clear S h
   go_enter Try.func92, Try.ntmps92
   go_wp2_with fail
   refine (inNo _ _ _ _ hv).mono ?_
   rintro e w' ⟨rfl, rfl⟩
   go_wp2_with fail
   refine (inNo _ _ _ _ hs).mono ?_
   rintro e w' ⟨rfl, rfl⟩
   go_wp2
   go_ret
   exact HS.out
set_option maxHeartbeats 400000 in
theorem implArity (A : Option Addr) (n c : Nat) (sg : List Int) (x : Int) (w : World) (h : Seg w w.heap.size A n sg) (hn : n ≤ 1048576) :
  Calls Try.prog 107 #[.agg #[.slice A n c], .int .i64 x] w (AnsAr w sg x) := by
 have b : Below w.heap.size w (w.alloc (.cells #[.slice A n c] 26)) := (Below.refl _ _).alloc (Nat.le_refl _) _
 by_cases hx0 : 0 ≤ x
 ·by_cases hxn : x < (n : Int)
  ·obtain ⟨k, hk⟩ : ∃ k : Nat, x = k := ⟨x.toNat, by omega⟩
   subst hk
   have hlt : k < n := by omega
   obtain ⟨g, off, y, rfl, hg, hy, ey⟩ := h.spot hlt
   have S : AnsAr w sg (k : Int) (.returned (.int .i64 y)) (w.alloc (.cells #[.slice (some ⟨g, off, none⟩) n c] 26)) := ⟨by rw [ar_sym (by omega) (by have := h.1; omega), Int.toNat_natCast, ey.out], b⟩
   have HS := Lib.hid S
   clear S h ey
   go_enter Try.func107, Try.ntmps107
   go_wp2
   go_ret
   exact HS.out
  ·have S : AnsAr w sg x (.returned (.int .i64 (-1))) (w.alloc (.cells #[.slice A n c] 26)) := ⟨by rw [ar_no (by omega) (by have := h.1; omega)], b⟩
   have HS := Lib.hid S
   have d1 : decide (x < (n : Int)) = false := by simp; omega
   have d2 : decide (x < 0) = false := by simp; omega
   clear S h
   go_enter Try.func107, Try.ntmps107
   go_wp2
   go_ret
   exact HS.out
 ·by_cases hxv : -24 ≤ x
  ·have S : AnsAr w sg x (.returned (.int .i64 0)) (w.alloc (.cells #[.slice A n c] 26)) := ⟨by rw [ar_var (by omega)], b⟩
   have HS := Lib.hid S
   clear S h
   go_enter Try.func107, Try.ntmps107
   go_wp2
   go_ret
   exact HS.out
  ·have S : AnsAr w sg x (.returned (.int .i64 (-1))) (w.alloc (.cells #[.slice A n c] 26)) := ⟨by rw [ar_no (by omega) (by omega)], b⟩
   have HS := Lib.hid S
   have d1 : decide (-24 ≤ x) = false := by simp; omega
   clear S h
   go_enter Try.func107, Try.ntmps107
   go_wp2
   go_ret
   exact HS.out
end arity
end
section
open Go.Lib (hid)
namespace cursor
open Go.RowKit base ints sig term arity
structure Cur (w : World) (p : Nat) (A : Option Addr) (n c : Nat) (A' : Option Addr) (m c' : Nat) (sg t : List Int) (k : Nat) : Prop where
 row : Row w p 56 #[.slice A n c, .slice A' m c', .int .i64 k]
 s : Seg w p A n sg
 s' : Seg w p A' m t
 le : k ≤ m
 hn : n ≤ 1048576
 hm : m ≤ 1048576
 ars : Arities sg
theorem seg_grown {w w' : World} {p : Nat} {A : Option Addr} {n : Nat} {xs : List Int} (h : Seg w p A n xs) (hg : w.grownBy w' (some p)) (hp : p < w.heap.size) : Seg w' p A n xs :=
 h.keep fun q hq => World.cell?_of_block (hg.block q.block (by omega) (by simp; omega))
theorem grown_trans {a b c : World} {r : Option Nat} (h : a.grownBy b r) (k : b.grownBy c r) : a.grownBy c r :=
 ⟨k.os.trans h.os, k.tape.trans h.tape, k.output.trans h.output, Nat.le_trans h.size k.size, fun i hi hn => (k.block i (Nat.lt_of_lt_of_le hi h.size) hn).trans (h.block i hi hn)⟩
theorem grown_below {a b : World} (h : Below a.heap.size a b) (r : Option Nat) : a.grownBy b r := ⟨h.os, h.tape, h.output, h.size, fun i hi _ => h.block i hi⟩
theorem grown_drewN {a b : World} {r : Option Nat} (h : a.grownBy b r) (d : Nat) : a.grownBy (b.drewN d) r := ⟨h.os, h.tape, h.output, h.size, h.block⟩
theorem grown_put {a b : World} {p : Nat} (h : a.grownBy b (some p)) (i : Nat) (u : Value) : a.grownBy (b.setCell ⟨p, i, none⟩ u) (some p) :=
 ⟨h.os, h.tape, h.output, by simpa [World.setCell] using h.size, fun k hk hn => (Below.heap_setCell _ _ _ _ (by intro e; exact hn (by rw [e]))).trans (h.block k hk hn)⟩
def AnsNext (w : World) (p : Nat) (A : Option Addr) (n c : Nat) (A' : Option Addr) (m c' : Nat) (sg t : List Int) (k : Nat) (e : Ending) (w' : World) : Prop :=
 w.grownBy w' (some p) ∧ ((k < m ∧ e = .returned (.int .i64 (ar sg (t.getD k 0))) ∧ Cur w' p A n c A' m c' sg t (k + 1)) ∨ (k = m ∧ e = .returned (.int .i64 (-1)) ∧ Cur w' p A n c A' m c' sg t k))
theorem Cur.below {w w' : World} {p : Nat} {A : Option Addr} {n c : Nat} {A' : Option Addr} {m c' : Nat} {sg t : List Int} {k : Nat} (h : Cur w p A n c A' m c' sg t k) (hb : Below w.heap.size w w') : Cur w' p A n c A' m c' sg t k :=
 have hp := h.row.lt
 ⟨h.row.next hb, h.s.below (hb.mono (Nat.le_of_lt hp)), h.s'.below (hb.mono (Nat.le_of_lt hp)), h.le, h.hn, h.hm, h.ars⟩
theorem Cur.drewN {w : World} {p : Nat} {A : Option Addr} {n c : Nat} {A' : Option Addr} {m c' : Nat} {sg t : List Int} {k : Nat} (h : Cur w p A n c A' m c' sg t k) (d : Nat) : Cur (w.drewN d) p A n c A' m c' sg t k :=
 ⟨h.row, h.s, h.s', h.le, h.hn, h.hm, h.ars⟩
theorem Cur.step {w : World} {p : Nat} {A : Option Addr} {n c : Nat} {A' : Option Addr} {m c' : Nat} {sg t : List Int} {k : Nat} (h : Cur w p A n c A' m c' sg t k) (hk : k < m) (d : Nat) :
  Cur ((w.drewN d).setCell ⟨p, 2, none⟩ (.int .i64 ((k : Int) + 1))) p A n c A' m c' sg t (k + 1) := by
 have r := (h.row.drewN d).put 2 (.int .i64 ((k : Int) + 1))
 refine ⟨?_, (h.s.drewN d).put (p := ⟨p, 2, none⟩) (Nat.le_refl _) _, (h.s'.drewN d).put (p := ⟨p, 2, none⟩) (Nat.le_refl _) _, hk, h.hn, h.hm, h.ars⟩
 have e : (.int .i64 ((k : Int) + 1) : Value) = .int .i64 ((k + 1 : Nat) : Int) := by simp
 rw [← e]
 exact r
set_option maxHeartbeats 1000000 in
theorem next (p : Nat) (A : Option Addr) (n c : Nat) (A' : Option Addr) (m c' : Nat) (sg t : List Int) (k : Nat) (w : World) (h : Cur w p A n c A' m c' sg t k) :
  Calls Try.prog 100 #[.pointer (some ⟨p, 0, none⟩)] w (AnsNext w p A n c A' m c' sg t k) := by
 have hr := h.row
 have hk := h.le
 have hm := h.hm
 have hp : p < w.heap.size := hr.lt
 have c0 : w.cell? ⟨p, 0, none⟩ = some (.slice A n c) := hr.cell 0
 have c1 : w.cell? ⟨p, 1, none⟩ = some (.slice A' m c') := hr.cell 1
 have c2 : w.cell? ⟨p, 2, none⟩ = some (.int .i64 k) := hr.cell 2
 have f2 : w.frozen? ⟨p, 2, none⟩ = false := hr.free 2
 by_cases hlt : k < m
 ·obtain ⟨b, off, x, rfl, hbb, hx, ex⟩ := h.s'.spot hlt
  have i0 : (0 : Int) ≤ (k : Int) := by omega
  have i1 : (k : Int) < (m : Int) := by omega
  have HS := hid (fun d => h.step hlt d)
  have HG := hid (fun d => grown_put (grown_drewN (World.grownBy.refl w (some p)) d) 2 (.int .i64 ((k : Int) + 1)))
  clear hr h
  go_enter Try.func100, Try.ntmps100
  go_wp2
  go_quiet (fail)
  go_wp2
  go_quiet (fail)
  go_wp2_with fail
  refine (implArity A n c sg x _ ((HS.out _).s.more (Nat.le_of_lt (HS.out _).row.lt)) (HS.out 0).hn).mono ?_
  rintro e w' ⟨rfl, bb⟩
  have F : AnsNext w p A n c (some ⟨b, off, none⟩) m c' sg t k (.returned (.int .i64 (ar sg x))) w' :=
   ⟨grown_trans (HG.out _) (grown_below bb _), .inl ⟨hlt, by rw [ex.out], (HS.out _).below bb⟩⟩
  have HF := hid F
  clear F HG HS bb ex
  go_wp2
  go_ret
  exact HF.out
 ·have e : k = m := by omega
  have HS := hid (fun d => h.drewN d)
  have HE := hid e
  have i2 : decide (m ≤ k) = true := by simp; omega
  clear e hr h
  go_enter Try.func100, Try.ntmps100
  go_wp2
  go_quiet (fail)
  go_wp2
  go_ret
  exact ⟨grown_drewN (World.grownBy.refl w (some p)) _, .inr ⟨HE.out, rfl, HS.out _⟩⟩
def AnsPass (w : World) (p : Nat) (A : Option Addr) (n c : Nat) (A' : Option Addr) (m c' : Nat) (sg t : List Int) (k : Nat) (e : Ending) (w' : World) : Prop :=
 w.grownBy w' (some p) ∧ ((∃ j, scan sg 1 (t.drop k) = some j ∧ e = .returned (.bool true) ∧ Cur w' p A n c A' m c' sg t (k + j)) ∨ (scan sg 1 (t.drop k) = none ∧ e = .returned (.bool false) ∧ ∃ k', Cur w' p A n c A' m c' sg t k'))
def HeadPass (w : World) (p : Nat) (A : Option Addr) (n c : Nat) (A' : Option Addr) (m c' : Nat) (sg t : List Int) (a : Nat) (q : Value) (wr : World) : Prop :=
 ∃ k q' : Nat, q = .int .i64 q' ∧ q' ≤ 3 * k + 1 ∧ Scn sg t a k q' ∧ Cur wr p A n c A' m c' sg t k ∧ w.grownBy wr (some p)
def placeOf (p : Nat) (wr : World) : Nat := (intOf ((wr.cell? ⟨p, 2, none⟩).getD undef)).toNat
theorem placeOf_cur {w : World} {p : Nat} {A : Option Addr} {n c : Nat} {A' : Option Addr} {m c' : Nat} {sg t : List Int} {k : Nat} (h : Cur w p A n c A' m c' sg t k) : placeOf p w = k := by
 have c2 : w.cell? ⟨p, 2, none⟩ = some (.int .i64 k) := h.row.cell 2
 unfold placeOf
 rw [c2]
 simp [intOf]
set_option maxHeartbeats 1000000 in
theorem pass (p : Nat) (A : Option Addr) (n c : Nat) (A' : Option Addr) (m c' : Nat) (sg t : List Int) (a : Nat) (w : World) (h : Cur w p A n c A' m c' sg t a) :
  Calls Try.prog 76 #[.pointer (some ⟨p, 0, none⟩)] w (AnsPass w p A n c A' m c' sg t a) := by
 have hm := h.hm
 have HL := hid h.s'.1
 have hs := h.ars
 have H0 : HeadPass w p A n c A' m c' sg t a (.int .i64 1) w := ⟨a, 1, rfl, by omega, Scn.start (by rw [HL.out]; exact h.le), h, World.grownBy.refl _ _⟩
 have HH := hid H0
 clear H0 h
 go_enter Try.func76, Try.ntmps76
 go_wp2_with fail
 go_loopw [3, 4] (fun q _ wr => HeadPass w p A n c A' m c' sg t a q wr) (fun _ _ wr => m - placeOf p wr)
 case atStart => exact HH.out
 case round =>
  obtain ⟨k, q, rfl, hq, hl, hc, hg⟩ := hrel
  clear HH
  have hk := hc.le
  by_cases h0 : q = 0
  ·subst h0
   have S : AnsPass w p A n c A' m c' sg t a (.returned (.bool true)) wr := ⟨hg, .inl ⟨k - a, hl.done, rfl, by rw [show a + (k - a) = k by have := hl.1; omega]; exact hc⟩⟩
   have HS := hid S
   clear S hl hc hg
   go_wp2
   go_ret
   exact HS.out
  ·obtain ⟨q1, rfl⟩ : ∃ q1, q = q1 + 1 := ⟨q - 1, by omega⟩
   have hq0 : (0 : Int) < ((q1 + 1 : Nat) : Int) := by omega
   go_wp2_with fail
   refine (next p A n c A' m c' sg t k wr hc).mono ?_
   rintro e w2 ⟨g2, ⟨hlt, rfl, hc2⟩ | ⟨hk', rfl, hc2⟩⟩
   ·obtain ⟨z, hz⟩ : ∃ z, ar sg (t.getD k 0) = z := ⟨_, rfl⟩
    have hzb := ar_bd hs (t.getD k 0)
    rw [hz] at hzb ⊢
    by_cases hneg : z < 0
    ·have S : AnsPass w p A n c A' m c' sg t a (.returned (.bool false)) w2 := ⟨grown_trans hg g2, .inr ⟨hl.bad (by rw [HL.out]; exact hlt) rfl (by rw [hz]; exact hneg), rfl, _, hc2⟩⟩
     have HS := hid S
     clear S hl hc hg hc2 g2 hz
     go_wp2
     go_ret
     exact HS.out
    ·have hl' := hl.step (by rw [HL.out]; exact hlt) rfl (by rw [hz]; exact hneg)
     rw [hz] at hl'
     have S : HeadPass w p A n c A' m c' sg t a (.int .i64 ((q1 : Int) + z)) w2 := ⟨k + 1, q1 + z.toNat, by congr 1; omega, by omega, hl', hc2, grown_trans hg g2⟩
     have HS := hid S
     have M := hid (show m - placeOf p w2 < m - placeOf p wr by rw [placeOf_cur hc, placeOf_cur hc2]; omega)
     have hz1 := hzb.1
     have hz2 := hzb.2
     have hq2 : (q1 : Int) ≤ 3145728 := by omega
     clear S hl hc hg hc2 g2 hz hl' hzb
     go_wp2
     go_roundw
     case rel => rw [show (q1 : Int) + 1 + z - 1 = (q1 : Int) + z by omega]; exact HS.out
     case measure => exact M.out
   ·have S : AnsPass w p A n c A' m c' sg t a (.returned (.bool false)) w2 := ⟨grown_trans hg g2, .inr ⟨hl.out (by rw [HL.out]; omega), rfl, _, hc2⟩⟩
    have HS := hid S
    clear S hl hc hg hc2 g2
    go_wp2
    go_ret
    exact HS.out
end cursor
end
section
open Go.Lib (hid)
namespace dice
open Go.RowKit base ints cursor
def SegB (w : World) (B : Nat) (A : Option Addr) (n : Nat) : Prop :=
 0 < n → ∃ b off, A = some ⟨b, off, none⟩ ∧ b < B ∧ ∀ j, j < n → ∃ x : Int, 0 ≤ x ∧ x ≤ 255 ∧ w.cell? ⟨b, off + j, none⟩ = some (.int .u8 x)
theorem SegB.keep {w w' : World} {B : Nat} {A : Option Addr} {n : Nat} (h : SegB w B A n) (hk : ∀ p : Addr, p.block < B → w'.cell? p = w.cell? p) : SegB w' B A n := fun hn => by
 obtain ⟨b, off, e, hb, hc⟩ := h hn
 refine ⟨b, off, e, hb, fun j hj => ?_⟩
 obtain ⟨x, h0, h1, h2⟩ := hc j hj
 exact ⟨x, h0, h1, (hk ⟨b, off + j, none⟩ hb).trans h2⟩
structure DiceAt (w : World) (p : Nat) (A : Option Addr) (n c i : Nat) (h : Int) : Prop where
 row : Row w p 85 #[.slice A n c, .int .i64 i, .int .i64 h]
 le : i ≤ n
 s : SegB w p A n
 hn : n ≤ 4096
def Dice (w : World) (p : Nat) (A : Option Addr) (n c : Nat) : Prop := ∃ i h, DiceAt w p A n c i h
section
variable {w w' : World} {p : Nat} {A : Option Addr} {n c i : Nat} {h : Int}
theorem DiceAt.drewN (d : DiceAt w p A n c i h) (k : Nat) : DiceAt (w.drewN k) p A n c i h := ⟨d.row, d.le, d.s, d.hn⟩
theorem DiceAt.setH (d : DiceAt w p A n c i h) (h' : Int) : DiceAt (w.setCell ⟨p, 2, none⟩ (.int .i64 h')) p A n c i h' :=
 ⟨d.row.put 2 _, d.le, d.s.keep fun q hq => World.cell?_setCell_other w _ q _ (fun e => by subst e; exact Nat.lt_irrefl _ hq), d.hn⟩
theorem DiceAt.setI (d : DiceAt w p A n c i h) (hi : i < n) : DiceAt (w.setCell ⟨p, 1, none⟩ (.int .i64 ((i : Int) + 1))) p A n c (i + 1) h := by
 refine ⟨?_, hi, d.s.keep fun q hq => World.cell?_setCell_other w _ q _ (fun e => by subst e; exact Nat.lt_irrefl _ hq), d.hn⟩
 have e : (.int .i64 ((i : Int) + 1) : Value) = .int .i64 ((i + 1 : Nat) : Int) := by simp
 rw [← e]
 exact d.row.put 1 _
theorem Dice.next (d : Dice w p A n c) (hb : Below w.heap.size w w') : Dice w' p A n c := by
 obtain ⟨i, h, d⟩ := d
 have hp := d.row.lt
 exact ⟨i, h, d.row.next hb, d.le, d.s.keep fun q hq => hb.cell (Nat.lt_trans hq hp), d.hn⟩
theorem Dice.drewN (d : Dice w p A n c) (k : Nat) : Dice (w.drewN k) p A n c := by
 obtain ⟨i, h, d⟩ := d
 exact ⟨i, h, d.drewN k⟩
theorem Dice.lt (d : Dice w p A n c) : p < w.heap.size := by
 obtain ⟨i, h, d⟩ := d
 exact d.row.lt
theorem Dice.keep (d : Dice w p A n c) (hb : Below (p + 1) w w') : Dice w' p A n c := by
 obtain ⟨i, h, d⟩ := d
 exact ⟨i, h, d.row.below hb (Nat.lt_succ_self _), d.le, d.s.keep fun q hq => hb.cell (Nat.lt_succ_of_lt hq), d.hn⟩
end
theorem i64_and255 (n : Int) : bits .and .i64 n 255 = n % 256 := by
 have h255 : (BitVec.ofInt 64 255).toNat = 2 ^ 8 - 1 := by decide
 have key : (BitVec.ofInt 64 n &&& BitVec.ofInt 64 255).toNat = (n % ((2 ^ 64 : Nat) : Int)).toNat % 2 ^ 8 := by
  rw [BitVec.toNat_and, BitVec.toNat_ofInt, h255, Nat.and_two_pow_sub_one_eq_mod]
 show IntKind.i64.wrap ((BitVec.ofInt 64 n &&& BitVec.ofInt 64 255).toNat : Nat) = n % 256
 rw [key, IntKind.wrap_i64]
 omega
theorem and255 (n : Int) : 0 ≤ bits .and .i64 n 255 ∧ bits .and .i64 n 255 ≤ 255 := by rw [i64_and255]; omega
def AnsDraw (w : World) (p : Nat) (A : Option Addr) (n c : Nat) (lo hi : Int) (e : Ending) (w' : World) : Prop :=
 ∃ x : Int, e = .returned (.int .i64 x) ∧ lo ≤ x ∧ x ≤ hi ∧ Dice w' p A n c ∧ w.grownBy w' (some p)
theorem draw_and {w w' : World} {p : Nat} {A : Option Addr} {n c i : Nat} {h y : Int} (hd : DiceAt w' p A n c i h) (hg : w.grownBy w' (some p)) : AnsDraw w p A n c 0 255 (.returned (.int .i64 (bits .and .i64 y 255))) w' :=
 ⟨_, rfl, (and255 y).1, (and255 y).2, ⟨i, h, hd⟩, hg⟩
set_option maxHeartbeats 1000000 in
theorem byte (p : Nat) (A : Option Addr) (n c : Nat) (w : World) (hd : Dice w p A n c) :
  Calls Try.prog 91 #[.pointer (some ⟨p, 0, none⟩)] w (AnsDraw w p A n c 0 255) := by
 obtain ⟨i, h, hd⟩ := hd
 have hr := hd.row
 have hn := hd.hn
 have c0 : w.cell? ⟨p, 0, none⟩ = some (.slice A n c) := hr.cell 0
 have c1 : w.cell? ⟨p, 1, none⟩ = some (.int .i64 i) := hr.cell 1
 have c2 : w.cell? ⟨p, 2, none⟩ = some (.int .i64 h) := hr.cell 2
 have f1 : w.frozen? ⟨p, 1, none⟩ = false := hr.free 1
 have f2 : w.frozen? ⟨p, 2, none⟩ = false := hr.free 2
 have HG := hid (World.grownBy.refl w (some p))
 by_cases hlt : i < n
 ·obtain ⟨b, off, rfl, hb, hc⟩ := hd.s (by omega)
  obtain ⟨y, hy0, hy1, hy⟩ := hc i hlt
  have hne : b ≠ p := by omega
  have i0 : (0 : Int) ≤ (i : Int) := by omega
  have i1 : (i : Int) < (n : Int) := by omega
  have HD := hid hd
  clear hc hr hd
  go_enter Try.func91, Try.ntmps91
  go_wp2_with fail
  go_quiet (fail)
  go_wp2_with fail
  go_quiet (fail)
  go_wp2_with fail
  go_quiet (fail)
  go_wp2_with fail
  go_ret
  exact draw_and (((HD.out.setH _).drewN _).setI hlt) (grown_put (grown_drewN (grown_put HG.out _ _) _) _ _)
 ·have i2 : decide (i < n) = false := by simp; omega
  have HD := hid hd
  clear hr hd
  go_enter Try.func91, Try.ntmps91
  go_wp2_with fail
  go_quiet (fail)
  go_wp2_with fail
  go_quiet (fail)
  go_wp2_with fail
  go_ret
  exact draw_and (((HD.out.setH _).drewN _).drewN _) (grown_drewN (grown_drewN (grown_put HG.out _ _) _) _)
theorem below (p : Nat) (A : Option Addr) (n c : Nat) (N : Int) (w : World) (hd : Dice w p A n c) (h1 : 1 ≤ N) (h2 : N ≤ 256) :
  Calls Try.prog 65 #[.pointer (some ⟨p, 0, none⟩), .int .i64 N] w (AnsDraw w p A n c 0 (N - 1)) := by
 have L := hid (byte p A n c w hd)
 clear hd
 go_enter Try.func65, Try.ntmps65
 go_wp2_with fail
 refine L.out.mono ?_
 rintro e w' ⟨x, rfl, h3, h4, hd, hg⟩
 have F : AnsDraw w p A n c 0 (N - 1) (.returned (.int .i64 (x % N))) w' := ⟨_, rfl, Int.emod_nonneg _ (by omega), by have := Int.emod_lt_of_pos x (show 0 < N by omega); omega, hd, hg⟩
 have HF := hid F
 clear F hd hg L
 go_wp2
 go_ret
 exact HF.out
def AnsFlip (w : World) (p : Nat) (A : Option Addr) (n c : Nat) (e : Ending) (w' : World) : Prop := ∃ b : Bool, e = .returned (.bool b) ∧ Dice w' p A n c ∧ w.grownBy w' (some p)
theorem once (p : Nat) (A : Option Addr) (n c : Nat) (N : Int) (w : World) (hd : Dice w p A n c) (h1 : 1 ≤ N) (h2 : N ≤ 256) :
  Calls Try.prog 61 #[.pointer (some ⟨p, 0, none⟩), .int .i64 N] w (AnsFlip w p A n c) := by
 have L := hid (below p A n c N w hd h1 h2)
 clear hd
 go_enter Try.func61, Try.ntmps61
 go_wp2_with fail
 refine L.out.mono ?_
 rintro e w' ⟨x, rfl, h3, h4, hd, hg⟩
 have F : AnsFlip w p A n c (.returned (.bool (x == 0))) w' := ⟨_, rfl, hd, hg⟩
 have HF := hid F
 clear F hd hg L
 by_cases h0 : x = 0
 ·subst h0
  go_wp2
  go_ret
  exact HF.out
 ·have e1 : (x == 0) = false := by simp [h0]
  rw [e1] at HF
  go_wp2
  go_ret
  exact HF.out
theorem fromTo (p : Nat) (A : Option Addr) (n c : Nat) (lo hi : Int) (w : World) (hd : Dice w p A n c) (h1 : lo ≤ hi) (h2 : hi - lo ≤ 255) (h3 : -1000 ≤ lo) (h4 : hi ≤ 1000) :
  Calls Try.prog 83 #[.pointer (some ⟨p, 0, none⟩), .int .i64 lo, .int .i64 hi] w (AnsDraw w p A n c lo hi) := by
 have L := hid (below p A n c (hi - lo + 1) w hd (by omega) (by omega))
 clear hd
 go_enter Try.func83, Try.ntmps83
 go_wp2_with fail
 refine L.out.mono ?_
 rintro e w' ⟨x, rfl, h5, h6, hd, hg⟩
 have F : AnsDraw w p A n c lo hi (.returned (.int .i64 (lo + x))) w' := ⟨_, rfl, by omega, by omega, hd, hg⟩
 have HF := hid F
 clear F hd hg L
 go_wp2
 go_ret
 exact HF.out
def AnsAny (w : World) (p : Nat) (A : Option Addr) (n c : Nat) (e : Ending) (w' : World) : Prop := ∃ x : Int, e = .returned (.int .i64 x) ∧ Dice w' p A n c ∧ w.grownBy w' (some p)
theorem Dice.alloc {w : World} {p : Nat} {A : Option Addr} {n c : Nat} (d : Dice w p A n c) (o : Obj) : Dice (w.alloc o) p A n c := d.next ((Below.refl _ _).alloc (Nat.le_refl _) _)
def oddCells : Array Value := #[.int .i64 (-1), .int .i64 0, .int .i64 1, .int .i64 2147483648, .int .i64 (-2147483648), .int .i64 1099511627776, .int .i64 4611686018427387904, .int .i64 (-4611686018427387904), .int .i64 9223372036854775807, .int .i64 (-9223372036854775808)]
theorem oddCells_at (k : Nat) (h : k < 10) : ∃ y : Int, oddCells[k]? = some (.int .i64 y) := by
 match k, h with
 | 0, _ => exact ⟨_, rfl⟩
 | 1, _ => exact ⟨_, rfl⟩
 | 2, _ => exact ⟨_, rfl⟩
 | 3, _ => exact ⟨_, rfl⟩
 | 4, _ => exact ⟨_, rfl⟩
 | 5, _ => exact ⟨_, rfl⟩
 | 6, _ => exact ⟨_, rfl⟩
 | 7, _ => exact ⟨_, rfl⟩
 | 8, _ => exact ⟨_, rfl⟩
 | 9, _ => exact ⟨_, rfl⟩
set_option maxHeartbeats 1000000 in
theorem odd (p : Nat) (A : Option Addr) (n c : Nat) (w : World) (hd : Dice w p A n c) :
  Calls Try.prog 85 #[.pointer (some ⟨p, 0, none⟩)] w (AnsAny w p A n c) := by
 have hp := hd.lt
 have D := hid (fun o => below p A n c 10 (w.alloc o) (Dice.alloc hd o) (by omega) (by omega))
 clear hd
 go_enter Try.func85, Try.ntmps85
 go_wp2_with fail
 refine (D.out _).mono ?_
 rintro e w' ⟨x, rfl, h5, h6, hd, hg⟩
 obtain ⟨k, rfl⟩ := Int.eq_ofNat_of_zero_le h5
 obtain ⟨y, hy⟩ := oddCells_at k (by omega)
 have r0 : Row (w.alloc (.cells oddCells 2)) w.heap.size 2 oddCells := Row.new _ _ _
 have r1 : Row w' w.heap.size 2 oddCells := (hg.block w.heap.size r0.lt (fun e => by injection e; omega)).trans r0
 have c1 : w'.cell? ⟨w.heap.size, k, none⟩ = some (.int .i64 y) := (r1.cell k).trans hy
 have F : AnsAny w p A n c (.returned (.int .i64 y)) w' := ⟨y, rfl, hd, grown_trans (World.grownBy_alloc w _ _) hg⟩
 have HF := hid F
 have i1 : (k : Int) < 10 := by omega
 clear F hd hg r0 r1 hy D
 go_wp2
 go_ret
 exact HF.out
end dice
end
section
namespace openArgs
open Go.ChangeShapes Go.WideShapes Go.ChangeAt Go.RowKit base dice
set_option maxRecDepth 100000
theorem open_segB {H : Type} {enc : TypeId × Value → H} {P : Program} {w : World} {t e : TypeId} {r : Reach} {b0 : Nat} {v : Value} {d : DataW H} {p : List MemPlace} {held : Bool} (ht : P.underlying t = some (.slice e)) (he : P.underlying e = some (.int .u8)) (hc : P.cellsOf e = 1)
  (hv : Value.okWide P w r b0 t v) (h : DataW.Trod enc P w 0 (fun _ => true) held t v d p) : ∃ a n c, ∃ _ : List Int, v = .slice a n c ∧ SegB w w.heap.size a n ∧ n ≤ 9223372036854775807 := by
 obtain ⟨a, n, c, rfl⟩ := okWide_slice ht hv
 obtain ⟨fuel, hf⟩ := h
 refine ⟨a, n, c, [], rfl, ?_⟩
 rcases open_ints ht he hc hf with ⟨hcs, _⟩ | ⟨y, l, cap, zs, hcs, _, hl, hm, hz, _, hcell, hwz⟩
 ·simp [Value.cells] at hcs
  obtain ⟨rfl, rfl, rfl⟩ := hcs
  exact ⟨fun h => absurd h (by omega), by omega⟩
 ·simp [Value.cells] at hcs
  obtain ⟨rfl, rfl, rfl⟩ := hcs
  have hz' : zs.length = c := by simpa using hz
  refine ⟨fun hn => ?_, by unfold maxLen at hm; omega⟩
  obtain ⟨b, off, spot⟩ := y
  have h0 := hcell 0 (by omega)
  have hspot : spot = none := by simpa [Addr.add] using World.cell?_spot h0
  subst hspot
  refine ⟨b, off, rfl, ?_, fun j hj => ?_⟩
  ·have hx : w.cell? ⟨b, off, none⟩ = some (.int .u8 (zs.getD 0 0)) := by simpa [Addr.add] using h0
   unfold World.cell? at hx
   split at hx
   ·rename_i c t f he
    exact (Array.getElem?_eq_some_iff.1 he).1
   ·cases hx
  ·have hx := hcell j (by omega)
   rw [show (⟨b, off, none⟩ : Addr).add j = ⟨b, off + j, none⟩ by unfold Addr.add; split <;> simp_all] at hx
   have hw := hwz (zs.getD j 0) (by
    have : j < zs.length := by omega
    simp [List.getD, this])
   have hb : 0 ≤ zs.getD j 0 ∧ zs.getD j 0 ≤ 255 := by simpa [Lit.wf, IntKind.min, IntKind.max, IntKind.signed, IntKind.bits] using hw
   exact ⟨_, hb.1, hb.2, hx⟩
end openArgs
end
section
namespace marks
open Go.RowKit base ints sig cursor
def Own (w : World) (base : Nat) (v : Value) (xs : List Int) : Prop := w.ownsRow base 2 1 v xs.length (xs.map (Value.int .i64))
theorem Own.nil (w : World) (base : Nat) : Own w base (.slice none 0 0) [] := World.ownsRow_nil w base 2 1
theorem Own.form {w : World} {base : Nat} {v : Value} {xs : List Int} (h : Own w base v xs) : (v = .slice none 0 0 ∧ xs = []) ∨
  ∃ g c cur, v = .slice (some ⟨g, 0, none⟩) xs.length c ∧ base ≤ g ∧ Row w g 2 cur ∧ xs.length ≤ cur.size ∧ ∀ j, j < xs.length → cur[j]? = some (.int .i64 (xs.getD j 0)) := by
 obtain ⟨h1, h2⟩ := h
 rcases h2 with ⟨rfl, h0⟩ | ⟨g, cap, cur, rfl, hb, hg, hn, _, hs, ht⟩
 ·exact .inl ⟨rfl, List.eq_nil_of_length_eq_zero h0⟩
 ·refine .inr ⟨g, cap, cur, rfl, hb, hg, by omega, fun j hj => ?_⟩
  have h3 : (cur.toList.take (xs.length * 1))[j]? = (xs.map (Value.int .i64))[j]? := by rw [ht]
  rw [List.getElem?_take, if_pos (by omega)] at h3
  simpa [List.getD, hj] using h3
theorem Own.slice {w : World} {base : Nat} {v : Value} {xs : List Int} (h : Own w base v xs) : ∃ A c, v = .slice A xs.length c := by
 rcases h.form with ⟨rfl, rfl⟩ | ⟨g, c, _, rfl, _⟩
 ·exact ⟨none, 0, rfl⟩
 ·exact ⟨_, c, rfl⟩
theorem Own.seg {w : World} {base : Nat} {A : Option Addr} {n c : Nat} {xs : List Int} (h : Own w base (.slice A n c) xs) : Seg w w.heap.size A n xs := by
 rcases h.form with ⟨e, rfl⟩ | ⟨g, c', cur, e, hb, hr, hs, hc⟩
 ·injection e with e1 e2 e3
  subst e1 e2
  exact Seg.empty
 ·injection e with e1 e2 e3
  subst e1 e2
  exact hr.seg rfl hr.lt hc
theorem Own.next {w w' : World} {base : Nat} {v : Value} {xs : List Int} (h : Own w base v xs) (hb : Below w.heap.size w w') : Own w' base v xs :=
 World.ownsRow.kept h ⟨hb.os, hb.tape, hb.output, hb.size, fun k hk _ => hb.block k hk⟩ (row := none) (by cases v.ownBlock <;> simp)
theorem Own.of_row {w : World} {base g n c : Nat} {cs : Array Value} {xs : List Int} (hr : Row w g 2 cs) (hl : xs.length = n) (hs : cs.size = c) (hn : n ≤ c) (hm : c ≤ 9223372036854775807) (hb : base ≤ g) (hc : ∀ j, j < n → cs[j]? = some (.int .i64 (xs.getD j 0))) : Own w base (.slice (some ⟨g, 0, none⟩) n c) xs := by
 subst hl
 refine ⟨by simp, .inr ⟨g, c, cs, rfl, hb, hr, hn, by unfold maxLen; omega, by omega, ?_⟩⟩
 refine List.ext_getElem? fun j => ?_
 rw [List.getElem?_take]
 by_cases hj : j < xs.length
 ·rw [if_pos (by omega)]
  have := hc j hj
  simp [List.getD, hj] at this ⊢
  exact this
 ·rw [if_neg (by omega)]
  have : (xs.map (Value.int .i64))[j]? = none := List.getElem?_eq_none (by simp; omega)
  rw [this]
def blk (A : Option Addr) : Option Nat := A.map (·.block)
theorem Seg.far {w w' : World} {B n : Nat} {A : Option Addr} {xs : List Int} {r : Option Nat} (h : Seg w B A n xs) (hg : w.grownBy w' r) (hB : B ≤ w.heap.size) (hr : ∀ k, r = some k → B ≤ k) : Seg w' B A n xs :=
 h.keep fun q hq => World.cell?_of_block (hg.block q.block (by omega) (fun e => by have := hr _ e.symm; omega))
theorem Own.far {w w' : World} {base : Nat} {v : Value} {xs : List Int} {r : Option Nat} (h : Own w base v xs) (hg : w.grownBy w' r) (hr : ∀ k, r = some k → k < base) : Own w' base v xs := by
 refine World.ownsRow.kept h hg ?_
 cases hv : v.ownBlock with
 | none => exact .inl rfl
 | some g =>
  right
  intro e
  have h1 := World.ownsRow.lt h g hv
  have h2 := hr g e.symm
  omega
theorem Row.away {w w' : World} {g : Nat} {t : TypeId} {cs : Array Value} {r : Option Nat} (h : Row w g t cs) (hg : w.grownBy w' r) (hr : r ≠ some g) : Row w' g t cs := (hg.block g h.lt (fun e => hr e.symm)).trans h
theorem Own.ge {w : World} {base : Nat} {A : Option Addr} {n c : Nat} {xs : List Int} (h : Own w base (.slice A n c) xs) : ∀ k, blk A = some k → base ≤ k := fun k hk => by
 refine (World.ownsRow.lt h k ?_).1
 cases A with
 | none => cases hk
 | some a => exact hk
theorem Own.drewN {w : World} {base : Nat} {v : Value} {xs : List Int} (h : Own w base v xs) (d : Nat) : Own (w.drewN d) base v xs := h
theorem Own.drew {w : World} {base : Nat} {v : Value} {xs : List Int} (h : Own w base v xs) : Own w.drew base v xs := h
end marks
end
section
namespace app
open Go.RowKit base ints marks
theorem Own.blk_ge {w : World} {base : Nat} {A : Option Addr} {n c : Nat} {xs : List Int} (h : Own w base (.slice A n c) xs) : ∀ k, (Value.slice A n c).ownBlock = some k → base ≤ k := fun k hk => (World.ownsRow.lt h k hk).1
theorem own_of {w : World} {base : Nat} {v : Value} {n : Nat} {xs : List Int} (h : w.ownsRow base 2 1 v n (xs.map (Value.int .i64))) : ∃ A c, v = .slice A n c ∧ Own w base (.slice A n c) xs := by
 have hl : n = xs.length := by have := h.1; simpa using this.symm
 subst hl
 obtain ⟨A, c, rfl⟩ := Own.slice (w := w) (base := base) (v := v) (xs := xs) h
 exact ⟨A, c, rfl, h⟩
theorem below_grown {w w' : World} {base : Nat} {A : Option Addr} {n c : Nat} {xs : List Int} (h : Own w base (.slice A n c) xs) (hg : w.grownBy w' (Value.slice A n c).ownBlock) (hb : base ≤ w.heap.size) : Below base w w' :=
 (Below.refl base w).grown hg hb (Own.blk_ge h)
set_option maxRecDepth 100000 in
theorem app1 {w : World} {ops : Array Oper} {rest : List Oper} {o : Oper} {a : Act} {Q : Exit → Act → World → Prop} (hgd : o.guard = none) (s x : Operand)
  (ho : o.op = .call { callee := .builtin .append, args := #[s, x], argTypes := #[24, 24] })
  (base : Nat) (A : Option Addr) (n c : Nat) (xs : List Int) (hs : a.eval s = .slice A n c) (hown : Own w base (.slice A n c) xs)
  (g c2 : Nat) (y : Int) (hx : a.eval x = .slice (some ⟨g, 0, none⟩) 1 c2) (hy : w.cell? ⟨g, 0, none⟩ = some (.int .i64 y)) (hn : n ≤ 2097152) (hbase : base ≤ w.heap.size)
  (h : ∀ A' c' w', Own w' base (.slice A' (n + 1) c') (xs ++ [y]) → Below base w w' → wpList Try.prog ops Q rest (a.put o.dst (.slice A' (n + 1) c')) w') : wpList Try.prog ops Q (o :: rest) a w := by
 obtain ⟨i0, hi, hz0, hz1, hz2⟩ := info_parts info_i64
 have hl : xs.length = n := by
  obtain ⟨A', c', e⟩ := hown.slice
  injection e with _ e _
  exact e.symm
 refine wpList_append_own w hgd s x 24 ho base 2 i0 (.int .i64 0) 1 8 Try.underlying24 hi hz0 hz1 hz2 rfl (by decide) (.slice A n c) n (xs.map (Value.int .i64)) hs (by rw [← hl]; rw [← hl] at hown; exact hown)
  ⟨g, 0, none⟩ 1 c2 [.int .i64 y] hx rfl (fun j u hj => ?_) (fun u hu => ?_) (by unfold maxLen; omega) (by omega) hbase ?_
 ·match j, hj with
  | 0, hj => simp at hj; subst hj; simpa [Addr.add] using hy
 ·simp at hu; subst hu; rfl
 ·intro v' w' hown' hg _
  have : xs.map (Value.int .i64) ++ [.int .i64 y] = (xs ++ [y]).map (Value.int .i64) := by simp
  rw [this] at hown'
  obtain ⟨A', c', rfl, ho'⟩ := own_of hown'
  exact h A' c' w' ho' (below_grown hown hg hbase)
set_option maxRecDepth 100000 in
theorem appAll {w : World} {ops : Array Oper} {rest : List Oper} {o : Oper} {a : Act} {Q : Exit → Act → World → Prop} (hgd : o.guard = none) (s x : Operand)
  (ho : o.op = .call { callee := .builtin .append, args := #[s, x], argTypes := #[24, 24] })
  (base : Nat) (A : Option Addr) (n c : Nat) (xs : List Int) (hs : a.eval s = .slice A n c) (hown : Own w base (.slice A n c) xs)
  (S : Option Addr) (m c2 B : Nat) (ys : List Int) (hx : a.eval x = .slice S m c2) (hseg : Seg w B S m ys) (hnone : S = none → c2 = 0) (hn : n ≤ 2097152) (hm : m ≤ 2097152) (hbase : base ≤ w.heap.size)
  (h : ∀ A' c' w', Own w' base (.slice A' (n + m) c') (xs ++ ys) → Below base w w' → wpList Try.prog ops Q rest (a.put o.dst (.slice A' (n + m) c')) w') : wpList Try.prog ops Q (o :: rest) a w := by
 obtain ⟨i0, hi, hz0, hz1, hz2⟩ := info_parts info_i64
 have hl : xs.length = n := by
  obtain ⟨A', c', e⟩ := hown.slice
  injection e with _ e _
  exact e.symm
 have ho1 : w.ownsRow base 2 1 (.slice A n c) n (xs.map (Value.int .i64)) := by rw [← hl]; rw [← hl] at hown; exact hown
 cases S with
 | none =>
  have hc := hnone rfl
  subst hc
  have hm0 : m = 0 := by
   rcases Nat.eq_zero_or_pos m with h0 | h0
   ·exact h0
   ·obtain ⟨b, off, e, _⟩ := hseg.2 h0
    cases e
  subst hm0
  have hy : ys = [] := List.eq_nil_of_length_eq_zero hseg.1
  subst hy
  refine wpList_append_own_none hgd s x 24 ho base 2 i0 1 Try.underlying24 hi (.slice A n c) n (xs.map (Value.int .i64)) hs ho1 hx ?_
  exact h A c w (by rw [List.append_nil]; exact hown) (Below.refl _ _)
 | some ad =>
  refine wpList_append_own w hgd s x 24 ho base 2 i0 (.int .i64 0) 1 8 Try.underlying24 hi hz0 hz1 hz2 rfl (by decide) (.slice A n c) n (xs.map (Value.int .i64)) hs ho1
   ad m c2 (ys.map (Value.int .i64)) hx (by simp [hseg.1]) (fun j u hj => ?_) (fun u hu => ?_) (by unfold maxLen; omega) (by omega) hbase ?_
  ·have hjl : j < m := by
    have := (List.getElem?_eq_some_iff.1 hj).1
    simp at this
    have := hseg.1
    omega
   obtain ⟨b, off, e, _, hc⟩ := hseg.2 (by omega)
   injection e with e
   subst e
   have hcj := hc j hjl
   have e2 : (⟨b, off, none⟩ : Addr).add j = ⟨b, off + j, none⟩ := by unfold Addr.add; split <;> simp_all
   rw [e2, hcj, ← hj]
   have := hseg.1
   simp [List.getD, show j < ys.length by omega]
  ·obtain ⟨y, _, rfl⟩ := List.mem_map.1 hu
   rfl
  ·intro v' w' hown' hg _
   rw [← List.map_append] at hown'
   obtain ⟨A', c', rfl, ho'⟩ := own_of hown'
   exact h A' c' w' ho' (below_grown hown hg hbase)
end app
end
section
namespace sym
open Go.RowKit base ints marks app
def AnsList (w : World) (xs : List Int) (e : Ending) (w' : World) : Prop := ∃ A n c, e = .returned (.slice A n c) ∧ Own w' w.heap.size (.slice A n c) xs ∧ Below w.heap.size w w'
theorem Own.len {w : World} {base : Nat} {A : Option Addr} {n c : Nat} {xs : List Int} (h : Own w base (.slice A n c) xs) : n = xs.length := by
 obtain ⟨_, _, e⟩ := h.slice
 injection e
theorem Own.lower {w : World} {base base' : Nat} {v : Value} {xs : List Int} (h : Own w base v xs) (hb : base' ≤ base) : Own w base' v xs := by
 obtain ⟨h1, h2⟩ := h
 refine ⟨h1, ?_⟩
 rcases h2 with h2 | ⟨g, cap, cur, hv, hg, r⟩
 ·exact .inl h2
 ·exact .inr ⟨g, cap, cur, hv, Nat.le_trans hb hg, r⟩
theorem Own.alloc {w : World} {base : Nat} {v : Value} {xs : List Int} (h : Own w base v xs) (o : Obj) : Own (w.alloc o) base v xs := World.ownsRow.alloc h o
theorem own_empty (w : World) (base : Nat) (hb : base ≤ w.heap.size) : Own (w.alloc (.cells #[] 2)) base (.slice (some ⟨w.heap.size, 0, none⟩) 0 0) [] :=
 Own.of_row (Row.new _ _ _) rfl rfl (Nat.le_refl _) (by omega) hb (fun j hj => absurd hj (Nat.not_lt_zero _))
end sym
end
section
open Go.Lib (hid)
namespace endOf
open Go.RowKit base ints sig term arity
def AnsEnd (w : World) (sg t : List Int) (a : Nat) (e : Ending) (w' : World) : Prop := e = .returned (.int .i64 (endI sg t a)) ∧ Below w.heap.size w w'
theorem end_bad {w w' : World} {sg t : List Int} {a : Nat} (h : scan sg 1 (t.drop a) = none) (hb : Below w.heap.size w w') : AnsEnd w sg t a (.returned (.int .i64 (-1))) w' := ⟨by rw [endI_none h], hb⟩
theorem end_good {w w' : World} {sg t : List Int} {a k : Nat} (h : Scn sg t a (k + 1) 0) (hb : Below w.heap.size w w') : AnsEnd w sg t a (.returned (.int .i64 ((k : Int) + 1))) w' := ⟨by rw [h.endI]; simp, hb⟩
def HeadEnd (w : World) (A : Option Addr) (n c m : Nat) (sg t : List Int) (a : Nat) (need i : Value) (wr : World) : Prop :=
 ∃ k q : Nat, need = .int .i64 ((q : Int) + 1) ∧ i = .int .i64 k ∧ q ≤ 3 * k ∧ k ≤ m ∧ Scn sg t a k (q + 1) ∧ Row wr w.heap.size 26 #[.slice A n c] ∧ Below w.heap.size w wr
theorem headEnd_step {w wr : World} {A : Option Addr} {n c m k q q' : Nat} {sg t : List Int} {a : Nat} {z : Int} (hl : Scn sg t a (k + 1) (q + z.toNat)) (hz : 0 ≤ z ∧ z ≤ 3) (hq : q ≤ 3 * k) (hk : k < m) (hq' : q + z.toNat = q' + 1)
  (hr : Row wr w.heap.size 26 #[.slice A n c]) (hb : Below w.heap.size w wr) : HeadEnd w A n c m sg t a (.int .i64 ((q : Int) + z)) (.int .i64 ((k : Int) + 1)) wr :=
 ⟨k + 1, q', by congr 1; omega, by simp, by omega, by omega, by rw [← hq']; exact hl, hr, hb⟩
set_option maxHeartbeats 1000000 in
theorem specEnd (A A' : Option Addr) (n c m c' : Nat) (sg t : List Int) (at_ : Int) (w : World) (h : Seg w w.heap.size A n sg) (h' : Seg w w.heap.size A' m t) (hn : n ≤ 1048576) (hm : m ≤ 1048576) (hs : Arities sg) (ha : 0 ≤ at_) (ha' : at_ ≤ m) :
  Calls Try.prog 68 #[.agg #[.slice A n c], .slice A' m c', .int .i64 at_] w (AnsEnd w sg t at_.toNat) := by
 obtain ⟨a, rfl⟩ := Int.eq_ofNat_of_zero_le ha
 rw [Int.toNat_natCast]
 have hlen := h'.1
 have HL := hid hlen
 go_enter Try.func68, Try.ntmps68
 go_wp2_with fail
 go_loopw [7, 8, 9] (fun need i _ wr => HeadEnd w A n c m sg t a need i wr) (fun _ i _ _ => m - (intOf i).toNat)
 case atStart => exact ⟨a, 0, rfl, rfl, by omega, by omega, Scn.start (by rw [HL.out]; omega), Row.new _ _ _, (Below.refl _ _).alloc (Nat.le_refl _) _⟩
 case round =>
  obtain ⟨k, q, rfl, rfl, hq, hk, hl, hr, hb⟩ := hrel
  by_cases hlt : k < m
  ·obtain ⟨b, off, x, rfl, hbb, hx, ex⟩ := h'.spot hlt
   have hx' : wr.cell? ⟨b, off + k, none⟩ = some (.int .i64 x) := (hb.cell (p := ⟨b, off + k, none⟩) hbb).trans hx
   have cA : wr.cell? ⟨w.heap.size, 0, none⟩ = some (.slice A n c) := hr.cell 0
   have s : Seg wr.drew wr.heap.size A n sg := ((h.below hb).more hb.size).drew
   obtain ⟨z, hz⟩ : ∃ z, ar sg x = z := ⟨_, rfl⟩
   have hzb := ar_bd hs x
   rw [hz] at hzb
   have i0 : (0 : Int) ≤ (k : Int) := by omega
   have i1 : (k : Int) < (m : Int) := by omega
   have i2 : (q : Int) ≤ 3145728 := by omega
   have HZ := hid hz
   clear hx hz h h'
   replace hr := hr.drew
   replace hb := hb.drew
   by_cases hneg : z < 0
   ·have S := hid (fun (w' : World) (b' : Below w.heap.size w w') => end_bad (hl.bad (by rw [HL.out]; exact hlt) ex.out (by rw [HZ.out]; exact hneg)) b')
    clear hl ex hs hlen
    go_wp2_with fail
    go_region_held3 (fun w' => w'.cell? ⟨w.heap.size, 0, none⟩ = some (.slice A n c) ∧ w'.cell? ⟨b, off + k, none⟩ = some (.int .i64 x))
     (go_keep)
     (first
      | (go_at_call 92; refine (specArity _ _ _ sg x _ s hn).mono ?_; rintro e w2 ⟨he, bb⟩; rw [HZ.out] at he; subst he; have cA' : w2.cell? ⟨w.heap.size, 0, none⟩ = some (.slice A n c) := (hr.next bb).cell 0; have cx' : w2.cell? ⟨b, off + k, none⟩ = some (.int .i64 x) := (bb.cell (p := ⟨b, off + k, none⟩) (Nat.lt_trans hbb hr.lt)).trans hx'; have b2 := hb.trans (bb.mono (Nat.le_of_lt hr.lt))))
    have F := hid (S.out _ b2)
    go_wp2
    go_ret
    exact F.out
   ·have hl' := hl.step (by rw [HL.out]; exact hlt) ex.out (by rw [HZ.out]; exact hneg)
    rw [HZ.out] at hl'
    clear hl ex hs hlen
    by_cases hend : q + z.toNat = 0
    ·rw [hend] at hl'
     have S := hid (fun (w' : World) (b' : Below w.heap.size w w') => end_good hl' b')
     have e1 : ((q : Int) + z == 0) = true := by simp; omega
     clear hl'
     go_wp2_with fail
     go_region_held3 (fun w' => w'.cell? ⟨w.heap.size, 0, none⟩ = some (.slice A n c) ∧ w'.cell? ⟨b, off + k, none⟩ = some (.int .i64 x))
      (go_keep)
      (first
       | (go_at_call 92; refine (specArity _ _ _ sg x _ s hn).mono ?_; rintro e w2 ⟨he, bb⟩; rw [HZ.out] at he; subst he; have cA' : w2.cell? ⟨w.heap.size, 0, none⟩ = some (.slice A n c) := (hr.next bb).cell 0; have cx' : w2.cell? ⟨b, off + k, none⟩ = some (.int .i64 x) := (bb.cell (p := ⟨b, off + k, none⟩) (Nat.lt_trans hbb hr.lt)).trans hx'; have b2 := hb.trans (bb.mono (Nat.le_of_lt hr.lt))))
     have F := hid (S.out _ b2)
     go_wp2
     go_ret
     exact F.out
    ·obtain ⟨q', hq'⟩ : ∃ q', q + z.toNat = q' + 1 := ⟨q + z.toNat - 1, by omega⟩
     have S := hid (fun (w' : World) (r' : Row w' w.heap.size 26 #[.slice A n c]) (b' : Below w.heap.size w w') => headEnd_step hl' ⟨by omega, hzb.2⟩ hq hlt hq' r' b')
     have e1 : ((q : Int) + z == 0) = false := by simp; omega
     clear hl' hq'
     go_wp2_with fail
     go_region_held3 (fun w' => w'.cell? ⟨w.heap.size, 0, none⟩ = some (.slice A n c) ∧ w'.cell? ⟨b, off + k, none⟩ = some (.int .i64 x))
      (go_keep)
      (first
       | (go_at_call 92; refine (specArity _ _ _ sg x _ s hn).mono ?_; rintro e w2 ⟨he, bb⟩; rw [HZ.out] at he; subst he; have r2 := hr.next bb; have cA' : w2.cell? ⟨w.heap.size, 0, none⟩ = some (.slice A n c) := r2.cell 0; have cx' : w2.cell? ⟨b, off + k, none⟩ = some (.int .i64 x) := (bb.cell (p := ⟨b, off + k, none⟩) (Nat.lt_trans hbb hr.lt)).trans hx'; have b2 := hb.trans (bb.mono (Nat.le_of_lt hr.lt))))
     have F := hid (S.out _ r2 b2)
     clear r2 b2 cA' cx' cA hx' s hr hb bb
     go_wp2
     go_roundw
     case rel => rw [show (q : Int) + 1 + z - 1 = (q : Int) + z by omega]; exact F.out
     case measure => simp [intOf]; omega
  ·have S := hid (end_bad (hl.out (by rw [HL.out]; exact hlt)) hb)
   clear hl hr hb h h' hs hlen
   go_wp2
   go_ret
   exact S.out
end endOf
end
section
open Go.Lib (hid)
namespace termOk
open Go.RowKit base ints sig term arity endOf cursor
def termOkB (sg t : List Int) : Bool := sigOkB sg && termB sg t
theorem sig_arities {sg : List Int} (h : sigOkB sg = true) : Arities sg ∧ 1 ≤ sg.length ∧ sg.length ≤ 8 := by
 unfold sigOkB at h
 rw [Bool.and_eq_true, decide_eq_true_eq, List.all_eq_true] at h
 refine ⟨fun j hj => ?_, h.1⟩
 have := h.2 (sg[j]) (List.getElem_mem hj)
 simp [arityOk] at this
 simp [List.getD, hj]
 omega
theorem endI_len {sg t : List Int} : (endI sg t 0 == (t.length : Int)) = decide (scan sg 1 t = some t.length) := by
 cases h : scan sg 1 t with
 | none =>
  rw [endI_none (by simpa using h)]
  simp
 | some j =>
  rw [endI_some (j := j) (by simpa using h)]
  simp
  by_cases e : j = t.length
  ·subst e; simp
  ·simp [e]; omega
def AnsTerm (w : World) (sg t : List Int) (e : Ending) (w' : World) : Prop := e = .returned (.bool (termOkB sg t)) ∧ Below w.heap.size w w'
theorem term_sig {w w' : World} {sg t : List Int} (h : sigOkB sg = false) (hb : Below w.heap.size w w') : AnsTerm w sg t (.returned (.bool false)) w' := ⟨by unfold termOkB; rw [h, Bool.false_and], hb⟩
theorem term_long {w w' : World} {sg t : List Int} {m : Nat} (hm : t.length = m) (h : 60 < m) (hb : Below w.heap.size w w') : AnsTerm w sg t (.returned (.bool false)) w' :=
 ⟨by unfold termOkB termB; rw [decide_eq_false (p := t.length ≤ 60) (by omega), Bool.false_and, Bool.and_false], hb⟩
theorem term_empty {w w' : World} {sg t : List Int} {m : Nat} (hm : t.length = m) (h : ¬ 1 ≤ m) (hb : Below w.heap.size w w') : AnsTerm w sg t (.returned (.bool false)) w' := by
 refine ⟨?_, hb⟩
 have : t = [] := List.eq_nil_of_length_eq_zero (by omega)
 subst this
 unfold termOkB termB
 simp [scan]
theorem term_end {w w' : World} {sg t : List Int} {m : Nat} (hm : t.length = m) (h : sigOkB sg = true) (h' : m ≤ 60) (hb : Below w.heap.size w w') : AnsTerm w sg t (.returned (.bool (endI sg t 0 == (m : Int)))) w' :=
 ⟨by unfold termOkB termB; rw [h, Bool.true_and, decide_eq_true (p := t.length ≤ 60) (by omega), Bool.true_and, ← endI_len, hm], hb⟩
set_option maxHeartbeats 1000000 in
theorem specTermOk (A A' : Option Addr) (n c m c' : Nat) (sg t : List Int) (w : World) (h : Seg w w.heap.size A n sg) (h' : Seg w w.heap.size A' m t) (hn : n ≤ 1048576) (hm : m ≤ 1048576) :
  Calls Try.prog 25 #[.agg #[.slice A n c], .slice A' m c'] w (AnsTerm w sg t) := by
 obtain ⟨W, hW⟩ : ∃ W, W = w.alloc (.cells #[.slice A n c] 26) := ⟨_, rfl⟩
 have rA : Row W w.heap.size 26 #[.slice A n c] := by rw [hW]; exact Row.new _ _ _
 have bel : Below w.heap.size w W := by rw [hW]; exact (Below.refl _ _).alloc (Nat.le_refl _) _
 replace h := (h.below bel).more bel.size
 replace h' := (h'.below bel).more bel.size
 have HW := hid hW
 have HL := hid h'.1
 clear hW
 have L := hid (specSigOk A n c sg W h hn)
 cases hsig : sigOkB sg with
 | false =>
  have HS := hid hsig
  clear hsig h h'
  go_enter Try.func25, Try.ntmps25
  go_wp2_with fail
  rw [← HW.out]
  refine L.out.mono ?_
  rintro e w1 ⟨he, bb⟩
  rw [HS.out] at he
  subst he
  have F := hid (term_sig (t := t) HS.out (bel.trans (bb.mono (Nat.le_of_lt rA.lt))))
  clear bb bel rA
  go_wp2
  go_ret
  exact F.out
 | true =>
  have HS := hid hsig
  have hars := (sig_arities hsig).1
  clear hsig
  by_cases hin : 1 ≤ (m : Int) ∧ (m : Int) ≤ 60
  ·go_enter Try.func25, Try.ntmps25
   go_wp2_with fail
   rw [← HW.out]
   refine L.out.mono ?_
   rintro e w1 ⟨he, bb⟩
   rw [HS.out] at he
   subst he
   replace h := h.next bb
   replace h' := h'.next bb
   have hlt := rA.lt
   replace rA := rA.next bb
   replace bel := bel.trans (bb.mono (Nat.le_of_lt hlt))
   have cA : w1.cell? ⟨w.heap.size, 0, none⟩ = some (.slice A n c) := rA.cell 0
   clear bb hlt
   go_wp2_with fail
   refine (inYes _ _ _ _ hin).mono ?_
   rintro e w2 ⟨rfl, rfl⟩
   go_wp2_with fail
   refine (specEnd A A' n c m c' sg t 0 _ h h' hn hm hars (by omega) (by omega)).mono ?_
   rintro e w2 ⟨rfl, bb⟩
   have F := hid (term_end HL.out HS.out (by omega) (bel.trans (bb.mono (Nat.le_of_lt rA.lt))))
   clear bb bel rA cA h h' hars
   rw [show (0 : Int).toNat = 0 from rfl]
   generalize endI sg t 0 = z at *
   go_wp2
   go_ret
   exact F.out
  ·go_enter Try.func25, Try.ntmps25
   go_wp2_with fail
   rw [← HW.out]
   refine L.out.mono ?_
   rintro e w1 ⟨he, bb⟩
   rw [HS.out] at he
   subst he
   have F : AnsTerm w sg t (.returned (.bool false)) w1 := by
    have b := bel.trans (bb.mono (Nat.le_of_lt rA.lt))
    by_cases h1 : 1 ≤ m
    ·exact term_long HL.out (by omega) b
    ·exact term_empty HL.out h1 b
   have HF := hid F
   clear F bb bel rA h h' hars
   go_wp2_with fail
   refine (inNo _ _ _ _ hin).mono ?_
   rintro e w2 ⟨rfl, rfl⟩
   go_wp2
   go_ret
   exact HF.out
theorem term_scan {w w' : World} {sg t : List Int} {m : Nat} {b : Bool} (hm : t.length = m) (h : sigOkB sg = true) (h' : m ≤ 60) (hs : decide (scan sg 1 t = some m) = b) (hb : Below w.heap.size w w') : AnsTerm w sg t (.returned (.bool b)) w' :=
 ⟨by unfold termOkB termB; rw [h, Bool.true_and, decide_eq_true (p := t.length ≤ 60) (by omega), Bool.true_and, hm, hs], hb⟩
theorem cur_new {w : World} {A A' : Option Addr} {n c m c' : Nat} {sg t : List Int} (h : Seg w w.heap.size A n sg) (h' : Seg w w.heap.size A' m t) (hn : n ≤ 1048576) (hm : m ≤ 1048576) (ha : Arities sg) (k : Nat) (hk : k ≤ m) :
  Cur (w.alloc (.cells #[.slice A n c, .slice A' m c', .int .i64 k] 56)) w.heap.size A n c A' m c' sg t k :=
 ⟨Row.new _ _ _, h.alloc (Nat.le_refl _) _, h'.alloc (Nat.le_refl _) _, hk, hn, hm, ha⟩
theorem grown_new {w w' : World} {o : Obj} (hg : (w.alloc o).grownBy w' (some w.heap.size)) : Below w.heap.size w w' :=
 ⟨hg.os, hg.tape, hg.output, by have := hg.size; simp at this; omega, fun i hi => by
  rw [hg.block i (by simp; omega) (by simp; omega)]
  exact Below.heap_alloc _ _ _ hi⟩
set_option maxHeartbeats 1000000 in
theorem implTermOk (A A' : Option Addr) (n c m c' : Nat) (sg t : List Int) (w : World) (h : Seg w w.heap.size A n sg) (h' : Seg w w.heap.size A' m t) (hn : n ≤ 1048576) (hm : m ≤ 1048576) :
  Calls Try.prog 35 #[.agg #[.slice A n c], .slice A' m c'] w (AnsTerm w sg t) := by
 obtain ⟨W, hW⟩ : ∃ W, W = w.alloc (.cells #[.slice A n c] 26) := ⟨_, rfl⟩
 have rA : Row W w.heap.size 26 #[.slice A n c] := by rw [hW]; exact Row.new _ _ _
 have bel : Below w.heap.size w W := by rw [hW]; exact (Below.refl _ _).alloc (Nat.le_refl _) _
 replace h := (h.below bel).more bel.size
 replace h' := (h'.below bel).more bel.size
 have HW := hid hW
 have HL := hid h'.1
 clear hW
 have L := hid (implSigOk A n c sg W h hn)
 cases hsig : sigOkB sg with
 | false =>
  have HS := hid hsig
  clear hsig h h'
  go_enter Try.func35, Try.ntmps35
  go_wp2_with fail
  rw [← HW.out]
  refine L.out.mono ?_
  rintro e w1 ⟨he, bb⟩
  rw [HS.out] at he
  subst he
  have F := hid (term_sig (t := t) HS.out (bel.trans (bb.mono (Nat.le_of_lt rA.lt))))
  clear bb bel rA
  go_wp2
  go_ret
  exact F.out
 | true =>
  have HS := hid hsig
  have hars := (sig_arities hsig).1
  clear hsig
  by_cases h60 : m ≤ 60
  ·go_enter Try.func35, Try.ntmps35
   go_wp2_with fail
   rw [← HW.out]
   refine L.out.mono ?_
   rintro e w1 ⟨he, bb⟩
   rw [HS.out] at he
   subst he
   replace h := h.next bb
   replace h' := h'.next bb
   have hlt := rA.lt
   replace rA := rA.next bb
   replace bel := bel.trans (bb.mono (Nat.le_of_lt hlt))
   have cA : w1.cell? ⟨w.heap.size, 0, none⟩ = some (.slice A n c) := rA.cell 0
   clear bb hlt
   have CN := hid (cur_new (c := c) (c' := c') h h' hn hm hars 0 (Nat.zero_le _))
   go_wp2_with fail
   refine (pass w1.heap.size A n c A' m c' sg t 0 _ CN.out).mono ?_
   rintro e w2 ⟨hg, ⟨j, hj, rfl, hc⟩ | ⟨hj, rfl, -⟩⟩
   ·have b2 := bel.trans ((grown_new hg).mono (Nat.le_of_lt rA.lt))
    have c2 : w2.cell? ⟨w1.heap.size, 2, none⟩ = some (.int .i64 ((0 + j : Nat) : Int)) := hc.row.cell 2
    rw [Nat.zero_add] at c2
    have F := hid (fun (b : Bool) (hb : decide (j = m) = b) => term_scan (b := b) HL.out HS.out h60 (by rw [show t.drop 0 = t from rfl] at hj; rw [hj, ← hb]; simp) b2)
    clear hj hc hg b2 bel rA cA h h' hars CN
    by_cases e : j = m
    ·have F' := hid (F.out true (by simp [e]))
     have e1 : ((j : Int) == (m : Int)) = true := by simp [e]
     clear F e
     go_wp2
     go_ret
     exact F'.out
    ·have F' := hid (F.out false (by simp [e]))
     have e1 : ((j : Int) == (m : Int)) = false := by simp; omega
     clear F e
     go_wp2
     go_ret
     exact F'.out
   ·have F := hid (term_scan (b := false) HL.out HS.out h60 (by rw [show t.drop 0 = t from rfl] at hj; rw [hj]; simp) (bel.trans ((grown_new hg).mono (Nat.le_of_lt rA.lt))))
    clear hj hg bel rA cA h h' hars CN
    go_wp2
    go_ret
    exact F.out
  ·have i1 : (60 : Int) < (m : Int) := by omega
   go_enter Try.func35, Try.ntmps35
   go_wp2_with fail
   rw [← HW.out]
   refine L.out.mono ?_
   rintro e w1 ⟨he, bb⟩
   rw [HS.out] at he
   subst he
   have F := hid (term_long HL.out (by omega) (bel.trans (bb.mono (Nat.le_of_lt rA.lt))) : AnsTerm w sg t _ _)
   clear bb bel rA h h' hars
   go_wp2
   go_ret
   exact F.out
end termOk
end
section
open Go.Lib (hid)
namespace drawSig
open Go.RowKit base ints sig cursor marks app sym dice
set_option maxRecDepth 100000
theorem stepApp1 {w : World} {ops : Array Oper} {o : Oper} {a : Act} {K : Act → World → Prop} {Q : Exit → Act → World → Prop} {E : Prop} (hgd : o.guard = none) (s x : Operand)
  (ho : o.op = .call { callee := .builtin .append, args := #[s, x], argTypes := #[24, 24] })
  (base : Nat) (A : Option Addr) (n c : Nat) (xs : List Int) (hs : a.eval s = .slice A n c) (hown : Own w base (.slice A n c) xs)
  (g c2 : Nat) (y : Int) (hx : a.eval x = .slice (some ⟨g, 0, none⟩) 1 c2) (hy : w.cell? ⟨g, 0, none⟩ = some (.int .i64 y)) (hn : n ≤ 2097152) (hbase : base ≤ w.heap.size)
  (h : ∀ g' c' w', Own w' base (.slice (some ⟨g', 0, none⟩) (n + 1) c') (xs ++ [y]) → w.grownBy w' (blk A) → (blk A = some g' ∨ g' = w.heap.size) → g' < w'.heap.size → K (a.put o.dst (.slice (some ⟨g', 0, none⟩) (n + 1) c')) w') :
  if Region.wanted o (yielded ops a.tmps) = true then Oper.wp Try.prog o a w K Q else E := by
 obtain ⟨i0, hi, hz0, hz1, hz2⟩ := info_parts info_i64
 have hl : xs.length = n := by
  obtain ⟨A', c', e⟩ := hown.slice
  injection e with _ e _
  exact e.symm
 have hob : (Value.slice A n c).ownBlock = blk A := by cases A <;> rfl
 refine step_append_lies w hgd s x 24 ho base 2 i0 (.int .i64 0) 1 8 Try.underlying24 hi hz0 hz1 hz2 rfl (by decide) (.slice A n c) n (xs.map (Value.int .i64)) hs (by rw [← hl]; rw [← hl] at hown; exact hown)
  ⟨g, 0, none⟩ 1 c2 [.int .i64 y] hx rfl (fun j u hj => ?_) (fun u hu => ?_) (by omega) (by unfold maxLen; omega) (by omega) hbase w.heap.size rfl ?_
 ·match j, hj with
  | 0, hj => simp at hj; subst hj; simpa [Addr.add] using hy
 ·simp at hu; subst hu; rfl
 ·intro g' c' w' hown' hg hat hlt
  have e : xs.map (Value.int .i64) ++ [.int .i64 y] = (xs ++ [y]).map (Value.int .i64) := by simp
  rw [e] at hown'
  rw [hob] at hg hat
  refine h g' c' w' ?_ hg hat hlt
  have hl2 : (xs ++ [y]).length = n + 1 := by simp [hl]
  unfold Own
  rw [hl2]
  exact hown'
def AnsSigD (w : World) (p : Nat) (A : Option Addr) (n c : Nat) (P : List Int → Prop) (e : Ending) (w' : World) : Prop :=
 ∃ O on oc xs, e = .returned (.agg #[.slice O on oc]) ∧ Own w' w.heap.size (.slice O on oc) xs ∧ P xs ∧ Dice w' p A n c ∧ w.grownBy w' (some p)
def Good (xs : List Int) : Prop := 1 ≤ xs.length ∧ xs.length ≤ 4 ∧ ∀ j, j < xs.length → 0 ≤ xs.getD j 0 ∧ xs.getD j 0 ≤ 2
theorem good_snoc {xs : List Int} {x : Int} (h1 : 1 ≤ xs.length) (h2 : xs.length ≤ 3) (h : ∀ j, j < xs.length → 0 ≤ xs.getD j 0 ∧ xs.getD j 0 ≤ 2) (h0 : 0 ≤ x) (hx : x ≤ 2) : Good (xs ++ [x]) := by
 refine ⟨by simp, by simp; omega, fun j hj => ?_⟩
 by_cases e : j < xs.length
 ·have := h j e
  simpa [List.getD, e, List.getElem?_append_left e] using this
 ·have e2 : j = xs.length := by simp at hj; omega
  subst e2
  simp [List.getD]
  omega
structure SigSt (w : World) (p : Nat) (A : Option Addr) (n c : Nat) (v : Nat) (wr : World) (O : Option Addr) (on oc : Nat) (xs : List Int) : Prop where
 own : Own wr w.heap.size (.slice O on oc) xs
 rV : Row wr v 26 #[.slice O on oc]
 rN : Row wr w.heap.size 26 #[.slice none 0 0]
 nV : blk O ≠ some v
 nN : blk O ≠ some w.heap.size
 hv : w.heap.size < v
 d : Dice wr p A n c
 g : w.grownBy wr (some p)
 hp : p < w.heap.size
section
variable {w : World} {p : Nat} {A : Option Addr} {n c v : Nat} {wr : World} {O : Option Addr} {on oc : Nat} {xs : List Int}
theorem SigSt.dice {w' : World} (s : SigSt w p A n c v wr O on oc xs) (d : Dice w' p A n c) (hg : wr.grownBy w' (some p)) : SigSt w p A n c v w' O on oc xs :=
 ⟨Own.far s.own hg (fun k hk => by injection hk; have := s.hp; omega), Row.away s.rV hg (fun e => by injection e; have := s.hp; have := s.hv; omega), Row.away s.rN hg (fun e => by injection e; have := s.hp; omega), s.nV, s.nN, s.hv, d, grown_trans s.g hg, s.hp⟩
theorem SigSt.alloc (s : SigSt w p A n c v wr O on oc xs) (o : Obj) : SigSt w p A n c v (wr.alloc o) O on oc xs :=
 ⟨Own.alloc s.own o, s.rV.alloc o, s.rN.alloc o, s.nV, s.nN, s.hv, s.d.alloc o, grown_trans s.g (World.grownBy_alloc wr o _), s.hp⟩
theorem SigSt.drew (s : SigSt w p A n c v wr O on oc xs) : SigSt w p A n c v wr.drew O on oc xs :=
 ⟨Own.drew s.own, s.rV.drew, s.rN.drew, s.nV, s.nN, s.hv, s.d.drewN 1, grown_drewN s.g 1, s.hp⟩
theorem SigSt.put {w' : World} {O' : Option Addr} {on' oc' : Nat} {ys : List Int} (s : SigSt w p A n c v wr O on oc xs) (ho : Own w' w.heap.size (.slice O' on' oc') ys) (hg : wr.grownBy w' (blk O)) (hat : blk O' = blk O ∨ blk O' = some wr.heap.size) (hO : ∀ k, blk O = some k → w.heap.size ≤ k) :
  SigSt w p A n c v (w'.setCell ⟨v, 0, none⟩ (.slice O' on' oc')) O' on' oc' ys := by
 have hpk : ∀ k, blk O = some k → p + 1 ≤ k := fun k hk => by have := hO k hk; have := s.hp; omega
 have zw := s.rV.lt
 have zn := s.rN.lt
 have nV' : blk O' ≠ some v := by
  rcases hat with h | h
  ·rw [h]; exact s.nV
  ·rw [h]; intro e; injection e; omega
 have nN' : blk O' ≠ some w.heap.size := by
  rcases hat with h | h
  ·rw [h]; exact s.nN
  ·rw [h]; intro e; injection e; omega
 have r1 := Row.away s.rV hg s.nV
 have r2 := Row.away s.rN hg s.nN
 have b1 : Below (p + 1) wr w' := (Below.refl _ _).grown hg (by have := s.hp; omega) hpk
 have b0 : Below w.heap.size wr w' := (Below.refl _ _).grown hg (by have := s.g.size; omega) hO
 refine ⟨?_, r1.put 0 _, r2.far (p := ⟨v, 0, none⟩) (by have := s.hv; simp; omega) _, nV', nN', s.hv, ?_, ?_, s.hp⟩
 ·have hk : w'.grownBy (w'.setCell ⟨v, 0, none⟩ (.slice O' on' oc')) (some v) := grown_put (World.grownBy.refl _ _) 0 _
  refine World.ownsRow.kept ho hk ?_
  cases O' with
  | none => exact .inl rfl
  | some a => exact .inr (fun e => nV' (by simpa [Value.ownBlock, blk] using e))
 ·have d1 := s.d.keep b1
  obtain ⟨i, h, d1⟩ := d1
  have hvp : p < v := by have := s.hp; have := s.hv; omega
  exact ⟨i, h, d1.row.far (p := ⟨v, 0, none⟩) (by simp; omega) _, d1.le, d1.s.keep fun q hq => World.cell?_setCell_other w' _ q _ (fun e => by subst e; have hq : v < p := hq; omega), d1.hn⟩
 ·refine ⟨b0.os.trans s.g.os, b0.tape.trans s.g.tape, b0.output.trans s.g.output, by have := s.g.size; have := b0.size; simp only [World.size_setCell]; omega, fun k hk hne => ?_⟩
  rw [Below.heap_setCell _ _ _ _ (by have := s.hv; intro e; have e : k = v := e; omega), b0.block k hk]
  exact s.g.block k hk hne
theorem SigSt.result {P : List Int → Prop} (s : SigSt w p A n c v wr O on oc xs) (hP : P xs) (hO : blk O ≠ some w.heap.size) : AnsSigD w p A n c P (.returned (.agg #[.slice O on oc])) (wr.setCell ⟨w.heap.size, 0, none⟩ (.slice O on oc)) := by
 refine ⟨O, on, oc, xs, rfl, ?_, hP, ?_, ?_⟩
 ·have hk : wr.grownBy (wr.setCell ⟨w.heap.size, 0, none⟩ (.slice O on oc)) (some w.heap.size) := grown_put (World.grownBy.refl _ _) 0 _
  refine World.ownsRow.kept s.own hk ?_
  cases O with
  | none => exact .inl rfl
  | some a => exact .inr (fun e => hO (by simpa [Value.ownBlock, blk] using e))
 ·obtain ⟨i, h, d1⟩ := s.d
  have hp := s.hp
  exact ⟨i, h, d1.row.far (p := ⟨w.heap.size, 0, none⟩) (by simp; omega) _, d1.le, d1.s.keep fun q hq => World.cell?_setCell_other wr _ q _ (fun e => by subst e; have hq : w.heap.size < p := hq; omega), d1.hn⟩
 ·refine ⟨s.g.os, s.g.tape, s.g.output, by simpa using s.g.size, fun k hk hne => ?_⟩
  rw [Below.heap_setCell _ _ _ _ (by intro e; have e : k = w.heap.size := e; omega)]
  exact s.g.block k hk hne
end
def HeadSigD (w : World) (p : Nat) (A : Option Addr) (n c v : Nat) (i : Value) (wr : World) : Prop :=
 ∃ (k : Nat) (O : Option Addr) (on oc : Nat) (xs : List Int), i = .int .i64 k ∧ SigSt w p A n c v wr O on oc xs ∧ 1 ≤ xs.length ∧ xs.length + k ≤ 4 ∧ ∀ j, j < xs.length → 0 ≤ xs.getD j 0 ∧ xs.getD j 0 ≤ 2
set_option maxHeartbeats 4000000 in
theorem drawSig (p : Nat) (A : Option Addr) (n c : Nat) (w : World) (hd : Dice w p A n c) :
  Calls Try.prog 82 #[.pointer (some ⟨p, 0, none⟩)] w (AnsSigD w p A n c Good) := by
 have hp := hd.lt
 obtain ⟨W, hW⟩ : ∃ W, W = ((w.alloc (.cells #[.slice none 0 0] 26)).alloc (.cells #[.int .i64 2, .int .i64 1, .int .i64 0] 2)).alloc (.cells #[.slice (some ⟨w.heap.size + 1, 0, none⟩) 3 3] 26) := ⟨_, rfl⟩
 have S0 : SigSt w p A n c (w.heap.size + 1 + 1) W (some ⟨w.heap.size + 1, 0, none⟩) 3 3 [2, 1, 0] := by
  rw [hW]
  have r1 : Row (((w.alloc (.cells #[.slice none 0 0] 26)).alloc (.cells #[.int .i64 2, .int .i64 1, .int .i64 0] 2)).alloc (.cells #[.slice (some ⟨w.heap.size + 1, 0, none⟩) 3 3] 26)) (w.heap.size + 1) 2 #[.int .i64 2, .int .i64 1, .int .i64 0] := by
   have := (Row.new (w.alloc (.cells #[.slice none 0 0] 26)) 2 #[.int .i64 2, .int .i64 1, .int .i64 0]).alloc (.cells #[.slice (some ⟨w.heap.size + 1, 0, none⟩) 3 3] 26)
   simpa using this
  refine ⟨Own.of_row r1 rfl rfl (Nat.le_refl _) (by omega) (by omega) (fun j hj => ?_), ?_, ((Row.new _ _ _).alloc _).alloc _, by simp [blk], by simp [blk], by omega, ((hd.alloc _).alloc _).alloc _, grown_trans (grown_trans (World.grownBy_alloc _ _ _) (World.grownBy_alloc _ _ _)) (World.grownBy_alloc _ _ _), hp⟩
  ·match j, hj with
   | 0, _ => rfl
   | 1, _ => rfl
   | 2, _ => rfl
  ·have := Row.new ((w.alloc (.cells #[.slice none 0 0] 26)).alloc (.cells #[.int .i64 2, .int .i64 1, .int .i64 0] 2)) 26 #[.slice (some ⟨w.heap.size + 1, 0, none⟩) 3 3]
   simpa using this
 have HW := hid hW
 clear hW
 have L := hid (once p A n c 4 W S0.d (by omega) (by omega))
 clear hd
 go_enter Try.func82, Try.ntmps82
 go_wp2_with fail
 rw [← HW.out]
 refine L.out.mono ?_
 rintro e w1 ⟨b, rfl, d1, g1⟩
 have S1 := S0.dice d1 g1
 have cV : w1.cell? ⟨w.heap.size + 1 + 1, 0, none⟩ = some (.slice (some ⟨w.heap.size + 1, 0, none⟩) 3 3) := S1.rV.cell 0
 have cN : w1.cell? ⟨w.heap.size, 0, none⟩ = some (.slice none 0 0) := S1.rN.cell 0
 have fV : w1.frozen? ⟨w.heap.size + 1 + 1, 0, none⟩ = false := S1.rV.free 0
 have fN : w1.frozen? ⟨w.heap.size, 0, none⟩ = false := S1.rN.free 0
 clear d1 g1 S0 L
 cases b with
 | false =>
  have F := hid (S1.result (P := Good) ⟨by decide, by decide, fun j hj => by match j, hj with | 0, _ => decide | 1, _ => decide | 2, _ => decide⟩ S1.nN)
  clear S1
  go_wp2
  exact bodyPost_ret (v := .agg #[.slice (some ⟨w.heap.size + 1, 0, none⟩) 3 3]) (by simp [results, Try.results82, go_sem, cN]) rfl F.out
 | true =>
  have zV : w.heap.size + 1 + 1 < w1.heap.size := S1.rV.lt
  obtain ⟨W2, hW2⟩ : ∃ W2, W2 = (w1.setCell ⟨w.heap.size + 1 + 1, 0, none⟩ (.slice (some ⟨w1.heap.size, 0, none⟩) 1 1)).alloc (.cells #[.int .i64 0] 2) := ⟨_, rfl⟩
  have S2 : SigSt w p A n c (w.heap.size + 1 + 1) W2 (some ⟨w1.heap.size, 0, none⟩) 1 1 [0] := by
   rw [hW2, ← World.setCell_alloc_past (hn := zV)]
   exact S1.put (Own.of_row (Row.new _ _ _) rfl rfl (Nat.le_refl _) (by omega) (by omega) (fun j hj => by match j, hj with | 0, _ => rfl)) (World.grownBy_alloc _ _ _) (.inr rfl) (fun k hk => by have hk : w.heap.size + 1 = k := Option.some.inj hk; omega)
  have HW2 := hid hW2
  have L2 := hid (below p A n c 4 W2 S2.d (by omega) (by omega))
  clear hW2 S1
  go_wp2_with fail
  rw [← HW2.out]
  refine L2.out.mono ?_
  rintro e w3 ⟨x, rfl, x0, x1, d3, g3⟩
  obtain ⟨k0, rfl⟩ := Int.eq_ofNat_of_zero_le x0
  have S3 := S2.dice d3 g3
  have H0 : HeadSigD w p A n c (w.heap.size + 1 + 1) (.int .i64 (k0 : Int)) w3 := ⟨k0, _, _, _, _, rfl, S3, by decide, by simp; omega, fun j hj => by match j, hj with | 0, _ => decide⟩
  have HH := hid H0
  clear H0 S3 S2 d3 g3 L2 cV cN fV fN
  go_wp2_with fail
  go_loopw [4] (fun i wr => HeadSigD w p A n c (w.heap.size + 1 + 1) i wr) (fun i _ => (intOf i).toNat)
  case atStart => exact HH.out
  case round =>
   obtain ⟨k, O, on, oc, xs, rfl, S, hx1, hx2, hxs⟩ := hrel
   clear HH
   have cV : wr.cell? ⟨w.heap.size + 1 + 1, 0, none⟩ = some (.slice O on oc) := S.rV.cell 0
   have cN : wr.cell? ⟨w.heap.size, 0, none⟩ = some (.slice none 0 0) := S.rN.cell 0
   have fV : wr.frozen? ⟨w.heap.size + 1 + 1, 0, none⟩ = false := S.rV.free 0
   have fN : wr.frozen? ⟨w.heap.size, 0, none⟩ = false := S.rN.free 0
   have zV : w.heap.size + 1 + 1 < wr.heap.size := S.rV.lt
   by_cases hk : k = 0
   ·subst hk
    have F := hid (S.result (P := Good) ⟨hx1, by omega, hxs⟩ S.nN)
    clear S
    go_wp2
    exact bodyPost_ret (v := .agg #[.slice O on oc]) (by simp [results, Try.results82, go_sem, cN]) rfl F.out
   ·have k1 : (0 : Int) < (k : Int) := by omega
    have S' := S.drew
    clear S
    go_wp2_with fail
    go_region_law (first
     | (refine stepApp1 rfl _ _ rfl w.heap.size O on oc xs (by simp [Act.eval, Act.put]) (Own.alloc S5.own _) w5.heap.size 1 x (by simp [Act.eval, Act.put]) ((Row.new _ _ _).cell 0) (by omega) (by simp; omega) ?_; intro O' oc' w6 ho6 hg6 hat6 hlt6; have r6 := Row.away (S5.alloc _).rV hg6 S5.nV; have cV6 : w6.cell? ⟨w.heap.size + 1 + 1, 0, none⟩ = some (.slice O on oc) := r6.cell 0; have fV6 : w6.frozen? ⟨w.heap.size + 1 + 1, 0, none⟩ = false := r6.free 0)
     | (go_simp; go_at_call 65; refine (below p A n c 3 _ S'.d (by omega) (by omega)).mono ?_; rintro e w5 ⟨x, rfl, x0, x1, d5, g5⟩; have S5 := S'.dice d5 g5; have cV5 : w5.cell? ⟨w.heap.size + 1 + 1, 0, none⟩ = some (.slice O on oc) := S5.rV.cell 0; have zV5 : w.heap.size + 1 + 1 < w5.heap.size := S5.rV.lt; have hon : on ≤ 4 := by have := Own.len S5.own; omega))
    all_goals
     have S6 := SigSt.put (S5.alloc (.cells #[.int .i64 x] 2)) ho6 hg6 (hat6.elim (fun h => .inl h.symm) (fun h => .inr (by rw [h]; rfl))) (Own.ge S5.own)
     have G := good_snoc hx1 (by omega) hxs x0 (by omega)
     have F : HeadSigD w p A n c (w.heap.size + 1 + 1) (.int .i64 ((k : Int) - 1)) (w6.setCell ⟨w.heap.size + 1 + 1, 0, none⟩ (.slice (some ⟨O', 0, none⟩) (on + 1) oc')) :=
      ⟨k - 1, _, _, _, _, congrArg (Value.int .i64) (by omega), S6, G.1, by simp; omega, G.2.2⟩
     have HF := hid F
     clear F G S6 S5 S' ho6 hg6 hat6 hlt6 r6 cV6 fV6 d5 g5 cV5
     go_wp2
     go_roundw
     case rel => exact HF.out
     case measure => simp [intOf]; omega
def Short (xs : List Int) : Prop := xs.length ≤ 9
theorem Own.blk_lt {w : World} {base : Nat} {O : Option Addr} {on oc : Nat} {xs : List Int} (h : Own w base (.slice O on oc) xs) : ∀ k, blk O = some k → k < w.heap.size := fun k hk => by
 refine (World.ownsRow.lt h k ?_).2
 cases O with
 | none => cases hk
 | some a => exact hk
set_option maxHeartbeats 4000000 in
theorem drawSigAny (p : Nat) (A : Option Addr) (n c : Nat) (w : World) (hd : Dice w p A n c) :
  Calls Try.prog 42 #[.pointer (some ⟨p, 0, none⟩)] w (AnsSigD w p A n c Short) := by
 have hp := hd.lt
 obtain ⟨W, hW⟩ : ∃ W, W = w.alloc (.cells #[.slice none 0 0] 26) := ⟨_, rfl⟩
 have rN : Row W w.heap.size 26 #[.slice none 0 0] := by rw [hW]; exact Row.new _ _ _
 have g0 : w.grownBy W (some p) := by rw [hW]; exact World.grownBy_alloc _ _ _
 have d0 : Dice W p A n c := by rw [hW]; exact hd.alloc _
 have zW : W.heap.size = w.heap.size + 1 := by rw [hW]; simp
 have HW := hid hW
 have L := hid (drawSig p A n c W d0)
 clear hW hd d0
 go_enter Try.func42, Try.ntmps42
 go_wp2_with fail
 rw [← HW.out]
 refine L.out.mono ?_
 rintro e w2 ⟨O, on, oc, xs, rfl, ho, hgood, d2, g2⟩
 rw [zW] at ho
 have rN2 : Row w2 w.heap.size 26 #[.slice none 0 0] := Row.away rN g2 (fun e => by injection e; omega)
 have zN := rN2.lt
 have hxs := hgood.2.1
 have hx1 := hgood.1
 obtain ⟨W3, hW3⟩ : ∃ W3, W3 = w2.alloc (.cells #[.slice O on oc] 26) := ⟨_, rfl⟩
 have S3 : SigSt w p A n c w2.heap.size W3 O on oc xs := by
  rw [hW3]
  refine ⟨Own.alloc (Own.lower ho (Nat.le_succ _)) _, Row.new _ _ _, rN2.alloc _, fun e => ?_, fun e => ?_, zN, d2.alloc _, grown_trans (grown_trans g0 g2) (World.grownBy_alloc _ _ _), hp⟩
  ·have := Own.blk_lt ho _ e; omega
  ·have := Own.ge ho _ e; omega
 have HW3 := hid hW3
 have L3 := hid (once p A n c 15 W3 S3.d (by omega) (by omega))
 obtain ⟨v, hv⟩ : ∃ v, w2.heap.size = v := ⟨_, rfl⟩
 have HV := hid hv
 clear ho hgood d2 g2 rN rN2 g0 L hW3 hv
 go_wp2_with fail
 rw [← HW3.out]
 refine L3.out.mono ?_
 rintro e w4 ⟨b, rfl, d4, g4⟩
 have S4 := S3.dice d4 g4
 rw [HV.out] at S4 ⊢
 have cV : w4.cell? ⟨v, 0, none⟩ = some (.slice O on oc) := S4.rV.cell 0
 have cN : w4.cell? ⟨w.heap.size, 0, none⟩ = some (.slice none 0 0) := S4.rN.cell 0
 have fN : w4.frozen? ⟨w.heap.size, 0, none⟩ = false := S4.rN.free 0
 have zV : v < w4.heap.size := S4.rV.lt
 have zNv := S4.hv
 clear d4 g4 S3 L3
 cases b with
 | false =>
  have F := hid (S4.result (P := Short) (by unfold Short; omega) S4.nN)
  clear S4
  go_wp2
  exact bodyPost_ret (v := .agg #[.slice O on oc]) (by simp [results, Try.results42, go_sem, cN]) rfl F.out
 | true =>
  have L4 := hid (below p A n c 3 w4 S4.d (by omega) (by omega))
  go_wp2_with fail
  refine L4.out.mono ?_
  rintro e w5 ⟨x, rfl, x0, x1, d5, g5⟩
  have S5 := S4.dice d5 g5
  replace cV : w5.cell? ⟨v, 0, none⟩ = some (.slice O on oc) := S5.rV.cell 0
  replace cN : w5.cell? ⟨w.heap.size, 0, none⟩ = some (.slice none 0 0) := S5.rN.cell 0
  replace fN : w5.frozen? ⟨w.heap.size, 0, none⟩ = false := S5.rN.free 0
  have fV : w5.frozen? ⟨v, 0, none⟩ = false := S5.rV.free 0
  replace zV : v < w5.heap.size := S5.rV.lt
  clear d5 g5 S4 L4
  by_cases hx0 : x = 0
  ·subst hx0
   have S6 := S5.drew
   clear S5 x0 x1
   go_wp2_with fail
   go_region_law (first
    | (refine stepApp1 rfl _ _ rfl w.heap.size O on oc xs (by simp [Act.eval, Act.put]) (Own.alloc S7.own _) w7.heap.size 1 y (by simp [Act.eval, Act.put]) ((Row.new _ _ _).cell 0) (by omega) (by simp; omega) ?_; intro O' oc' w8 ho8 hg8 hat8 hlt8; have r8 := Row.away (S7.alloc _).rV hg8 S7.nV; have cV8 : w8.cell? ⟨v, 0, none⟩ = some (.slice O on oc) := r8.cell 0; have fV8 : w8.frozen? ⟨v, 0, none⟩ = false := r8.free 0)
    | (go_simp; go_at_call 83; refine (fromTo p A n c (-1) 4 _ S6.d (by omega) (by omega) (by omega) (by omega)).mono ?_; rintro e w7 ⟨y, rfl, y0, y1, d7, g7⟩; have S7 := S6.dice d7 g7; have cV7 : w7.cell? ⟨v, 0, none⟩ = some (.slice O on oc) := S7.rV.cell 0; have zV7 : v < w7.heap.size := S7.rV.lt; have hon : on ≤ 4 := by have := Own.len S7.own; omega))
   all_goals
    have S8 := SigSt.put (S7.alloc (.cells #[.int .i64 y] 2)) ho8 hg8 (hat8.elim (fun h => .inl h.symm) (fun h => .inr (by rw [h]; rfl))) (Own.ge S7.own)
    have F := hid (S8.result (P := Short) (by unfold Short; simp; omega) S8.nN)
    have cN8 : (w8.setCell ⟨v, 0, none⟩ (.slice (some ⟨O', 0, none⟩) (on + 1) oc')).cell? ⟨w.heap.size, 0, none⟩ = some (.slice none 0 0) := S8.rN.cell 0
    have fN8 : (w8.setCell ⟨v, 0, none⟩ (.slice (some ⟨O', 0, none⟩) (on + 1) oc')).frozen? ⟨w.heap.size, 0, none⟩ = false := S8.rN.free 0
    clear S8 S7 S6 ho8 hg8 hat8 hlt8 r8 d7 g7 cV7
    go_wp2
    exact bodyPost_ret (v := .agg #[.slice (some ⟨O', 0, none⟩) (on + 1) oc']) (by simp [results, Try.results42, go_sem, cN8]) rfl F.out
  ·by_cases hx1' : x = 1
   ·subst hx1'
    have S6 : SigSt w p A n c v ((w5.alloc (.cells #[] 2)).setCell ⟨v, 0, none⟩ (.slice (some ⟨w5.heap.size, 0, none⟩) 0 0)) (some ⟨w5.heap.size, 0, none⟩) 0 0 [] :=
     S5.put (own_empty w5 w.heap.size (by omega)) (World.grownBy_alloc _ _ _) (.inr rfl) (Own.ge S5.own)
    have F := S6.result (P := Short) (by unfold Short; simp) S6.nN
    rw [World.setCell_alloc_past (hn := zV), World.setCell_alloc_past (hn := by simp; omega)] at F
    have HF := hid F
    have zz : w.heap.size < w5.heap.size := by omega
    have znv : ¬ w.heap.size = v := by omega
    have zvn : ¬ v = w.heap.size := by omega
    clear F S6 S5 x0 x1 hx0
    go_wp2
    exact bodyPost_ret (v := .agg #[.slice (some ⟨w5.heap.size, 0, none⟩) 0 0]) (by simp [results, Try.results42, go_sem, cN, zz, znv, zvn]) rfl HF.out
   ·have e2 : x = 2 := by omega
    subst e2
    have L6 := hid (below p A n c 2 w5 S5.d (by omega) (by omega))
    clear x0 x1 hx0 hx1'
    go_wp2_with fail
    refine L6.out.mono ?_
    rintro e w7 ⟨y, rfl, y0, y1, d7, g7⟩
    have S7 := S5.dice d7 g7
    replace cV : w7.cell? ⟨v, 0, none⟩ = some (.slice O on oc) := S7.rV.cell 0
    replace cN : w7.cell? ⟨w.heap.size, 0, none⟩ = some (.slice none 0 0) := S7.rN.cell 0
    replace fN : w7.frozen? ⟨w.heap.size, 0, none⟩ = false := S7.rN.free 0
    replace fV : w7.frozen? ⟨v, 0, none⟩ = false := S7.rV.free 0
    replace zV : v < w7.heap.size := S7.rV.lt
    obtain ⟨k, rfl⟩ := Int.eq_ofNat_of_zero_le y0
    have hmk : ∀ W : World, (Instr.makeSlice 24 (.int .i64 (8 + (k : Int))) (.int .i64 (8 + (k : Int)))).run Try.prog W = .ok (.slice (some ⟨W.heap.size, 0, none⟩) (8 + k) (8 + k)) (W.alloc (.cells (madeCells #[.int .i64 0] (8 + k)) 2)) := fun W => by
     have := run_make_i64 (8 + k) (by omega) W
     rwa [show ((8 + k : Nat) : Int) = 8 + (k : Int) by simp] at this
    have hcells : ∀ j, j < 8 + k → (madeCells #[Value.int .i64 0] (8 + k))[j]? = some (.int .i64 ((List.replicate (8 + k) (0 : Int)).getD j 0)) := fun j hj => by
     simp [madeCells, List.getD, hj, Nat.mod_one]
    have S8 : SigSt w p A n c v ((w7.alloc (.cells (madeCells #[.int .i64 0] (8 + k)) 2)).setCell ⟨v, 0, none⟩ (.slice (some ⟨w7.heap.size, 0, none⟩) (8 + k) (8 + k))) (some ⟨w7.heap.size, 0, none⟩) (8 + k) (8 + k) (List.replicate (8 + k) 0) :=
     S7.put (Own.of_row (Row.new _ _ _) (by simp) (size_madeCells _ _) (Nat.le_refl _) (by omega) (by omega) hcells) (World.grownBy_alloc _ _ _) (.inr rfl) (Own.ge S7.own)
    have F := S8.result (P := Short) (by unfold Short; simp; omega) S8.nN
    rw [World.setCell_alloc_past (hn := zV), World.setCell_alloc_past (hn := by simp; omega)] at F
    have HF := hid F
    have zz : w.heap.size < w7.heap.size := by omega
    have znv : ¬ w.heap.size = v := by omega
    have zvn : ¬ v = w.heap.size := by omega
    clear F S8 S7 S5 d7 g7 hcells L6
    go_wp2
    exact bodyPost_ret (v := .agg #[.slice (some ⟨w7.heap.size, 0, none⟩) (8 + k) (8 + k)]) (by simp [results, Try.results42, go_sem, cN, zz, znv, zvn]) rfl HF.out
end drawSig
end
section
open Go.Lib (hid)
namespace drawTerm
open Go.RowKit base ints sig term cursor marks app sym dice drawSig
set_option maxRecDepth 100000
def Rd (w : World) (p B : Nat) (A : Option Addr) (n : Nat) (xs : List Int) : Prop :=
 xs.length = n ∧ (0 < n → ∃ b off, A = some ⟨b, off, none⟩ ∧ b < B ∧ b ≠ p ∧ ∀ j, j < n → w.cell? ⟨b, off + j, none⟩ = some (.int .i64 (xs.getD j 0)))
theorem Rd.more {w : World} {p B B' : Nat} {A : Option Addr} {n : Nat} {xs : List Int} (h : Rd w p B A n xs) (hB : B ≤ B') : Rd w p B' A n xs :=
 ⟨h.1, fun hn => by obtain ⟨b, off, e, hb, hne, hc⟩ := h.2 hn; exact ⟨b, off, e, by omega, hne, hc⟩⟩
theorem Rd.keep {w w' : World} {p B : Nat} {A : Option Addr} {n : Nat} {xs : List Int} (h : Rd w p B A n xs) (hk : ∀ q : Addr, q.block < B → q.block ≠ p → w'.cell? q = w.cell? q) : Rd w' p B A n xs :=
 ⟨h.1, fun hn => by obtain ⟨b, off, e, hb, hne, hc⟩ := h.2 hn; exact ⟨b, off, e, hb, hne, fun j hj => (hk ⟨b, off + j, none⟩ hb hne).trans (hc j hj)⟩⟩
theorem Rd.grown {w w' : World} {p B : Nat} {A : Option Addr} {n : Nat} {xs : List Int} (h : Rd w p B A n xs) (hg : w.grownBy w' (some p)) (hB : B ≤ w.heap.size) : Rd w' p B A n xs :=
 h.keep fun q hq hne => World.cell?_of_block (hg.block q.block (by omega) (fun e => hne (by injection e)))
theorem Rd.below {w w' : World} {p B B' : Nat} {A : Option Addr} {n : Nat} {xs : List Int} (h : Rd w p B A n xs) (hb : Below B' w w') (hB : B ≤ B') : Rd w' p B A n xs :=
 h.keep fun q hq _ => hb.cell (by omega)
theorem Rd.seg {w : World} {p B : Nat} {A : Option Addr} {n : Nat} {xs : List Int} (h : Rd w p B A n xs) : Seg w B A n xs :=
 ⟨h.1, fun hn => by obtain ⟨b, off, e, hb, _, hc⟩ := h.2 hn; exact ⟨b, off, e, hb, hc⟩⟩
theorem Rd.of_own {w : World} {p base : Nat} {A : Option Addr} {n c : Nat} {xs : List Int} (h : Own w base (.slice A n c) xs) (hp : p < base) : Rd w p w.heap.size A n xs := by
 have hs := Own.seg h
 refine ⟨hs.1, fun hn => ?_⟩
 obtain ⟨b, off, e, hb, hc⟩ := hs.2 hn
 subst e
 exact ⟨b, off, rfl, hb, by have := Own.ge h b rfl; omega, hc⟩
theorem Own.none_cap {w : World} {base : Nat} {A : Option Addr} {n c : Nat} {xs : List Int} (h : Own w base (.slice A n c) xs) : A = none → c = 0 := by
 rintro rfl
 rcases h.form with ⟨e, _⟩ | ⟨g, c', cur, e, _⟩
 ·injection e
 ·injection e with e _ _; cases e
structure DT (w : World) (p : Nat) (A : Option Addr) (n c : Nat) (S : Option Addr) (sn sc : Nat) (sg : List Int) (wr : World) : Prop where
 d : Dice wr p A n c
 r : Row wr w.heap.size 26 #[.slice S sn sc]
 s : Rd wr p w.heap.size S sn sg
 g : w.grownBy wr (some p)
 hp : p < w.heap.size
section
variable {w : World} {p : Nat} {A : Option Addr} {n c : Nat} {S : Option Addr} {sn sc : Nat} {sg : List Int} {wr w' : World}
theorem DT.dice (t : DT w p A n c S sn sc sg wr) (d : Dice w' p A n c) (hg : wr.grownBy w' (some p)) : DT w p A n c S sn sc sg w' :=
 ⟨d, Row.away t.r hg (fun e => by injection e; have := t.hp; omega), t.s.grown hg t.g.size, grown_trans t.g hg, t.hp⟩
theorem DT.below (t : DT w p A n c S sn sc sg wr) (hb : Below (w.heap.size + 1) wr w') : DT w p A n c S sn sc sg w' :=
 ⟨t.d.keep (hb.mono (by have := t.hp; omega)), t.r.below hb (Nat.lt_succ_self _), t.s.below hb (Nat.le_succ _), ⟨hb.os.trans t.g.os, hb.tape.trans t.g.tape, hb.output.trans t.g.output, Nat.le_trans t.g.size hb.size, fun k hk hne => (hb.block k (by omega)).trans (t.g.block k hk hne)⟩, t.hp⟩
theorem DT.drew (t : DT w p A n c S sn sc sg wr) : DT w p A n c S sn sc sg wr.drew := ⟨t.d.drewN 1, t.r.drew, t.s, grown_drewN t.g 1, t.hp⟩
theorem DT.start (hd : Dice w p A n c) (hs : Rd w p w.heap.size S sn sg) : DT w p A n c S sn sc sg (w.alloc (.cells #[.slice S sn sc] 26)) :=
 ⟨hd.alloc _, Row.new _ _ _, hs.below ((Below.refl _ _).alloc (Nat.le_refl _) _) (Nat.le_refl _), World.grownBy_alloc _ _ _, hd.lt⟩
end
def AnsT (w : World) (p : Nat) (A : Option Addr) (n c L : Nat) (e : Ending) (w' : World) : Prop :=
 ∃ O on oc xs, e = .returned (.slice O on oc) ∧ Own w' w.heap.size (.slice O on oc) xs ∧ 1 ≤ on ∧ on ≤ L ∧ Dice w' p A n c ∧ w.grownBy w' (some p)
theorem leaf {w : World} {p : Nat} {A : Option Addr} {n c L : Nat} {S : Option Addr} {sn sc : Nat} {sg : List Int} {u : World} (t : DT w p A n c S sn sc sg u) (hL : 1 ≤ L) (y : Int) :
  AnsT w p A n c L (.returned (.slice (some ⟨u.heap.size, 0, none⟩) 1 1)) (u.alloc (.cells #[.int .i64 y] 2)) :=
 ⟨_, _, _, [y], rfl, Own.of_row (Row.new _ _ _) rfl rfl (Nat.le_refl _) (by omega) t.g.size (fun j hj => by match j, hj with | 0, _ => rfl), Nat.le_refl _, hL, t.d.alloc _, grown_trans t.g (World.grownBy_alloc _ _ _)⟩
def HeadT (w : World) (p : Nat) (A : Option Addr) (n c : Nat) (S : Option Addr) (sn sc : Nat) (sg : List Int) (M : Nat) (out k : Value) (wr : World) : Prop :=
 ∃ (q : Nat) (O : Option Addr) (on oc : Nat) (xs : List Int), k = .int .i64 q ∧ q ≤ 3 ∧ out = .slice O on oc ∧ Own wr (w.heap.size + 1) (.slice O on oc) xs ∧ 1 ≤ on ∧ on + q * M ≤ 1 + 3 * M ∧ DT w p A n c S sn sc sg wr
theorem one_le_four (f : Nat) : 1 ≤ 4 ^ f := Nat.one_le_pow _ _ (by omega)
set_option maxHeartbeats 4000000 in
theorem drawTerm (p : Nat) (A : Option Addr) (n c : Nat) (S : Option Addr) (sn sc : Nat) (sg : List Int) (vars : Int) (hs : Arities sg) (hn1 : 1 ≤ sn) (hn2 : sn ≤ 256) (hv0 : 1 ≤ vars) (hv1 : vars ≤ 256) : ∀ (f0 : Nat) (depth : Int) (w : World),
  Dice w p A n c → Rd w p w.heap.size S sn sg → f0 ≤ 4 → -1000 ≤ depth → depth ≤ (f0 : Int) + 1 →
  Calls Try.prog 64 #[.pointer (some ⟨p, 0, none⟩), .agg #[.slice S sn sc], .int .i64 depth, .int .i64 vars] w (AnsT w p A n c (4 ^ f0)) := by
 intro f0
 induction f0 with
 | zero =>
  intro depth w hd hr hf hlo hdep
  obtain ⟨LL, hLe⟩ : ∃ LL, 4 ^ 0 = LL := ⟨_, rfl⟩
  have hLL : 1 ≤ LL := by rw [← hLe]; exact one_le_four 0
  rw [hLe]
  clear hLe
  have T0 := DT.start (sc := sc) hd hr
  have hz : depth ≤ 1 := by omega
  obtain ⟨W, hW⟩ : ∃ W, W = w.alloc (.cells #[.slice S sn sc] 26) := ⟨_, rfl⟩
  rw [← hW] at T0
  have HW := hid hW
  clear hd hr hW
  go_enter Try.func64, Try.ntmps64
  go_wp2_with fail
  rw [← HW.out]
  have cS : W.cell? ⟨w.heap.size, 0, none⟩ = some (.slice S sn sc) := T0.r.cell 0
  go_wp2_with fail
  refine (once p A n c 2 _ T0.d (by omega) (by omega)).mono ?_
  rintro e u1 ⟨b, rfl, d1, g1⟩
  have T1 := T0.dice d1 g1
  clear d1 g1 cS T0
  cases b with
  | true =>
   go_wp2_with fail
   refine (below p A n c vars _ T1.d hv0 hv1).mono ?_
   rintro e u2 ⟨x, rfl, x0, x1, d2, g2⟩
   have F := hid (leaf (T1.dice d2 g2) hLL (-1 - x))
   clear T1 d2 g2
   go_wp2
   go_ret
   exact F.out
  | false =>
   have cS1 : u1.cell? ⟨w.heap.size, 0, none⟩ = some (.slice S sn sc) := T1.r.cell 0
   go_wp2_with fail
   go_loop [9] (fun i => ∃ k : Nat, k ≤ sn ∧ i = .int .i64 ((k : Int) - 1)) (fun i => (intOf i + 1).toNat)
   case atStart => exact ⟨sn, Nat.le_refl _, rfl⟩
   case round =>
    obtain ⟨k, hk, rfl⟩ := hrel
    by_cases hk0 : k = 0
    ·subst hk0
     have F := hid (leaf T1 hLL (-1))
     clear T1
     go_wp2
     go_ret
     exact F.out
    ·obtain ⟨k1, rfl⟩ : ∃ k1, k = k1 + 1 := ⟨k - 1, by omega⟩
     obtain ⟨b, off, y, rfl, hb, hy, ey⟩ := T1.s.seg.spot (show k1 < sn by omega)
     by_cases hy0 : y = 0
     ·subst hy0
      have F := hid (leaf T1 hLL (k1 : Int))
      clear T1 ey
      go_wp2
      go_ret
      exact F.out
     ·have e2 : (y == 0) = false := by simp [hy0]
      clear T1 ey
      go_wp2
      go_round
      case rel => exact ⟨k1, by omega, congrArg (Value.int .i64) (by omega)⟩
      case measure => first | (simp [intOf]; done) | (simp [intOf]; omega)
 | succ f ih =>
  intro depth w hd hr hf hlo hdep
  have IH := hid ih
  clear ih
  obtain ⟨M, hM⟩ : ∃ M, 4 ^ f = M := ⟨_, rfl⟩
  have hM1 : 1 ≤ M := by rw [← hM]; exact one_le_four f
  have hM2 : M ≤ 64 := by rw [← hM]; exact Nat.pow_le_pow_right (n := 4) (by omega) (show f ≤ 3 by omega)
  obtain ⟨LL, hLe⟩ : ∃ LL, 4 ^ (f + 1) = LL := ⟨_, rfl⟩
  have hLM : LL = 4 * M := by rw [← hLe, ← hM, Nat.pow_succ, Nat.mul_comm]
  have hLL : 1 ≤ LL := by omega
  rw [hLe]
  rw [hM] at IH
  clear hLe hM
  have HLM := hid hLM
  clear hLM
  have T0 := DT.start (sc := sc) hd hr
  obtain ⟨W, hW⟩ : ∃ W, W = w.alloc (.cells #[.slice S sn sc] 26) := ⟨_, rfl⟩
  rw [← hW] at T0
  have HW := hid hW
  clear hd hr hW
  by_cases hz : depth ≤ 1
  ·go_enter Try.func64, Try.ntmps64
   go_wp2_with fail
   rw [← HW.out]
   have cS : W.cell? ⟨w.heap.size, 0, none⟩ = some (.slice S sn sc) := T0.r.cell 0
   go_wp2_with fail
   refine (once p A n c 2 _ T0.d (by omega) (by omega)).mono ?_
   rintro e u1 ⟨b, rfl, d1, g1⟩
   have T1 := T0.dice d1 g1
   clear d1 g1 cS T0
   cases b with
   | true =>
    go_wp2_with fail
    refine (below p A n c vars _ T1.d hv0 hv1).mono ?_
    rintro e u2 ⟨x, rfl, x0, x1, d2, g2⟩
    have F := hid (leaf (T1.dice d2 g2) hLL (-1 - x))
    clear T1 d2 g2
    go_wp2
    go_ret
    exact F.out
   | false =>
    have cS1 : u1.cell? ⟨w.heap.size, 0, none⟩ = some (.slice S sn sc) := T1.r.cell 0
    go_wp2_with fail
    go_loop [9] (fun i => ∃ k : Nat, k ≤ sn ∧ i = .int .i64 ((k : Int) - 1)) (fun i => (intOf i + 1).toNat)
    case atStart => exact ⟨sn, Nat.le_refl _, rfl⟩
    case round =>
     obtain ⟨k, hk, rfl⟩ := hrel
     by_cases hk0 : k = 0
     ·subst hk0
      have F := hid (leaf T1 hLL (-1))
      clear T1
      go_wp2
      go_ret
      exact F.out
     ·obtain ⟨k1, rfl⟩ : ∃ k1, k = k1 + 1 := ⟨k - 1, by omega⟩
      obtain ⟨b, off, y, rfl, hb, hy, ey⟩ := T1.s.seg.spot (show k1 < sn by omega)
      by_cases hy0 : y = 0
      ·subst hy0
       have F := hid (leaf T1 hLL (k1 : Int))
       clear T1 ey
       go_wp2
       go_ret
       exact F.out
      ·have e2 : (y == 0) = false := by simp [hy0]
       clear T1 ey
       go_wp2
       go_round
       case rel => exact ⟨k1, by omega, congrArg (Value.int .i64) (by omega)⟩
       case measure => first | (simp [intOf]; done) | (simp [intOf]; omega)
  ·have hz1 : (1 : Int) < depth := by omega
   go_enter Try.func64, Try.ntmps64
   go_wp2_with fail
   rw [← HW.out]
   refine (once p A n c 4 _ T0.d (by omega) (by omega)).mono ?_
   rintro e u0 ⟨b, rfl, d0, g0⟩
   have T2 := T0.dice d0 g0
   clear d0 g0 T0
   cases b with
   | true =>
    have cS : u0.cell? ⟨w.heap.size, 0, none⟩ = some (.slice S sn sc) := T2.r.cell 0
    go_wp2_with fail
    refine (once p A n c 2 _ T2.d (by omega) (by omega)).mono ?_
    rintro e u1 ⟨b, rfl, d1, g1⟩
    have T1 := T2.dice d1 g1
    clear d1 g1 cS T2
    cases b with
    | true =>
     go_wp2_with fail
     refine (below p A n c vars _ T1.d hv0 hv1).mono ?_
     rintro e u2 ⟨x, rfl, x0, x1, d2, g2⟩
     have F := hid (leaf (T1.dice d2 g2) hLL (-1 - x))
     clear T1 d2 g2
     go_wp2
     go_ret
     exact F.out
    | false =>
     have cS1 : u1.cell? ⟨w.heap.size, 0, none⟩ = some (.slice S sn sc) := T1.r.cell 0
     go_wp2_with fail
     go_loop [9] (fun i => ∃ k : Nat, k ≤ sn ∧ i = .int .i64 ((k : Int) - 1)) (fun i => (intOf i + 1).toNat)
     case atStart => exact ⟨sn, Nat.le_refl _, rfl⟩
     case round =>
      obtain ⟨k, hk, rfl⟩ := hrel
      by_cases hk0 : k = 0
      ·subst hk0
       have F := hid (leaf T1 hLL (-1))
       clear T1
       go_wp2
       go_ret
       exact F.out
      ·obtain ⟨k1, rfl⟩ : ∃ k1, k = k1 + 1 := ⟨k - 1, by omega⟩
       obtain ⟨b, off, y, rfl, hb, hy, ey⟩ := T1.s.seg.spot (show k1 < sn by omega)
       by_cases hy0 : y = 0
       ·subst hy0
        have F := hid (leaf T1 hLL (k1 : Int))
        clear T1 ey
        go_wp2
        go_ret
        exact F.out
       ·have e2 : (y == 0) = false := by simp [hy0]
        clear T1 ey
        go_wp2
        go_round
        case rel => exact ⟨k1, by omega, congrArg (Value.int .i64) (by omega)⟩
        case measure => first | (simp [intOf]; done) | (simp [intOf]; omega)
   | false =>
    have cS : u0.cell? ⟨w.heap.size, 0, none⟩ = some (.slice S sn sc) := T2.r.cell 0
    go_wp2_with fail
    refine (below p A n c (sn : Int) _ T2.d (by omega) (by omega)).mono ?_
    rintro e u1 ⟨x, rfl, x0, x1, d1, g1⟩
    obtain ⟨k, rfl⟩ := Int.eq_ofNat_of_zero_le x0
    have T3 := T2.dice d1 g1
    have hks : k < sn := by omega
    have hsl := T3.s.1
    obtain ⟨b, off, y, rfl, hb, hy, ey⟩ := T3.s.seg.spot hks
    have hyb := hs k (by omega)
    rw [ey.out] at hyb
    obtain ⟨q, rfl⟩ := Int.eq_ofNat_of_zero_le hyb.1
    have hq3 : q ≤ 3 := by omega
    have T4 : DT w p A n c (some ⟨b, off, none⟩) sn sc sg (u1.alloc (.cells #[.int .i64 (k : Int)] 2)) := T3.below ((Below.refl _ _).alloc (by have := T3.r.lt; omega) _)
    have O4 : Own (u1.alloc (.cells #[.int .i64 (k : Int)] 2)) (w.heap.size + 1) (.slice (some ⟨u1.heap.size, 0, none⟩) 1 1) [(k : Int)] :=
     Own.of_row (Row.new _ _ _) rfl rfl (Nat.le_refl _) (by omega) (by have := T3.r.lt; omega) (fun j hj => by match j, hj with | 0, _ => rfl)
    have H0 : HeadT w p A n c (some ⟨b, off, none⟩) sn sc sg M (.slice (some ⟨u1.heap.size, 0, none⟩) 1 1) (.int .i64 (q : Int)) (u1.alloc (.cells #[.int .i64 (k : Int)] 2)) :=
     ⟨q, _, _, _, _, rfl, hq3, rfl, O4, Nat.le_refl _, by have := Nat.mul_le_mul_right M hq3; omega, T4⟩
    have HH := hid H0
    have cS1 : u1.cell? ⟨w.heap.size, 0, none⟩ = some (.slice (some ⟨b, off, none⟩) sn sc) := T3.r.cell 0
    have zN : w.heap.size < u1.heap.size := T3.r.lt
    have zb : b < u1.heap.size := by omega
    have i1 : (k : Int) < (sn : Int) := by omega
    clear H0 T4 O4 T3 T2 d1 g1 cS ey hsl hyb
    go_wp2_with fail
    go_loopw [11, 12] (fun out kk wr => HeadT w p A n c (some ⟨b, off, none⟩) sn sc sg M out kk wr) (fun _ kk _ => (intOf kk).toNat)
    case atStart => exact HH.out
    case round =>
     obtain ⟨q, O, on, oc, xs, rfl, hq3, rfl, ho, ho1, hoM, T⟩ := hrel
     clear HH
     have cS : wr.cell? ⟨w.heap.size, 0, none⟩ = some (.slice (some ⟨b, off, none⟩) sn sc) := T.r.cell 0
     cases q with
     | zero =>
      have F : AnsT w p A n c LL (.returned (.slice O on oc)) wr := ⟨O, on, oc, xs, rfl, Own.lower ho (Nat.le_succ _), ho1, by have := HLM.out; omega, T.d, T.g⟩
      have HF := hid F
      clear F T ho
      go_wp2
      go_ret
      exact HF.out
     | succ q =>
      have e0 : (0 : Int) < ((q + 1 : Nat) : Int) := by omega
      have hoM' : on + q * M + M ≤ 1 + 3 * M := by have e : (q + 1) * M = q * M + M := Nat.succ_mul q M; omega
      have hon : on ≤ 193 := by have := Nat.zero_le (q * M); omega
      go_wp2_with fail
      refine (IH.out (depth - 1) wr T.d (T.s.more T.g.size) (by omega) (by omega) (by omega)).mono ?_
      rintro e u2 ⟨O2, on2, oc2, ys, rfl, o2, h1, h2, d2, g2⟩
      have T2 := T.dice d2 g2
      have ho2 := Own.far ho g2 (fun k hk => by injection hk; have := T.hp; omega)
      have z2 := T2.r.lt
      clear ho T d2 g2 cS
      go_wp2_with (at_builtin; refine appAll rfl _ _ rfl (w.heap.size + 1) O on oc xs rfl ho2 O2 on2 oc2 u2.heap.size ys rfl (Own.seg o2) (Own.none_cap o2) (by omega) (by omega) (by omega) ?_; intro O3 oc3 u3 ho3 b3)
      have F : HeadT w p A n c (some ⟨b, off, none⟩) sn sc sg M (.slice O3 (on + on2) oc3) (.int .i64 (q : Int)) u3 := ⟨q, O3, on + on2, oc3, _, rfl, by omega, rfl, ho3, by omega, by omega, T2.below b3⟩
      have HF := hid F
      clear F ho3 b3 T2 ho2 o2
      go_wp2
      go_roundw
      case rel => first | exact HF.out | simpa using HF.out
      case measure => simp [intOf]
end drawTerm
end
section
open Go.Lib (hid)
namespace drawAny
open Go.RowKit base ints sig term cursor termOk marks app sym dice drawSig drawTerm
set_option maxRecDepth 100000
def AnsR (w : World) (p : Nat) (A : Option Addr) (n c L : Nat) (e : Ending) (w' : World) : Prop :=
 ∃ O on oc xs, e = .returned (.slice O on oc) ∧ Rd w' p w'.heap.size O on xs ∧ on ≤ oc ∧ oc ≤ 9223372036854775807 ∧ (O = none → oc = 0) ∧ on ≤ L ∧ Dice w' p A n c ∧ w.grownBy w' (some p)
theorem Own.cap {w : World} {base : Nat} {O : Option Addr} {on oc : Nat} {xs : List Int} (h : Own w base (.slice O on oc) xs) : on ≤ oc ∧ oc ≤ 9223372036854775807 := by
 rcases h.2 with ⟨e, _⟩ | ⟨g, cap, cur, e, _, _, h1, h2, _⟩
 ·injection e with _ e1 e2; omega
 ·injection e with _ e1 e2
  have := Own.len h
  unfold maxLen at h2
  omega
def AnsRN (w : World) (p : Nat) (A : Option Addr) (n c L : Nat) (e : Ending) (w' : World) : Prop :=
 ∃ O on oc xs, e = .returned (.slice O on oc) ∧ Rd w' p w'.heap.size O on xs ∧ on ≤ oc ∧ oc ≤ 9223372036854775807 ∧ (O = none → oc = 0) ∧ on ≤ L ∧ Dice w' p A n c ∧ w.grownBy w' (some p) ∧ ∀ k, blk O = some k → w.heap.size ≤ k
theorem ansRN_own {w w' : World} {p : Nat} {A : Option Addr} {n c L : Nat} {O : Option Addr} {on oc base : Nat} {xs : List Int} (h : Own w' base (.slice O on oc) xs) (hp : p < base) (hb : w.heap.size ≤ base) (hL : on ≤ L) (d : Dice w' p A n c) (g : w.grownBy w' (some p)) : AnsRN w p A n c L (.returned (.slice O on oc)) w' :=
 ⟨O, on, oc, xs, rfl, Rd.of_own h hp, (Own.cap h).1, (Own.cap h).2, Own.none_cap h, hL, d, g, fun k hk => Nat.le_trans hb (Own.ge h k hk)⟩
theorem Own.some_ {w : World} {base : Nat} {O : Option Addr} {on oc : Nat} {xs : List Int} (h : Own w base (.slice O on oc) xs) (h1 : 1 ≤ on) : ∃ g, O = some ⟨g, 0, none⟩ := by
 rcases h.2 with ⟨e, _⟩ | ⟨g, cap, cur, e, _⟩
 ·injection e with _ e1 e2; omega
 ·injection e with e _ _; exact ⟨g, e⟩
theorem Own.cellAt {w : World} {base g on oc : Nat} {xs : List Int} (h : Own w base (.slice (some ⟨g, 0, none⟩) on oc) xs) {k : Nat} (hk : k < on) : ∃ u, w.cell? ⟨g, k, none⟩ = some u := by
 have hl := Own.len h
 subst hl
 have := World.ownsRow.cellAt h k (by omega)
 exact ⟨_, this.trans (List.getElem?_eq_getElem (by simpa using hk))⟩
theorem Own.frozenAt {w : World} {base g on oc : Nat} {xs : List Int} (h : Own w base (.slice (some ⟨g, 0, none⟩) on oc) xs) (k : Nat) : w.frozen? ⟨g, k, none⟩ = false := by
 have hl := Own.len h
 subst hl
 exact World.ownsRow.frozenAt h k
theorem Own.put {w : World} {base g on oc : Nat} {xs : List Int} (h : Own w base (.slice (some ⟨g, 0, none⟩) on oc) xs) (k : Nat) (y : Int) : Own (w.setCell ⟨g, k, none⟩ (.int .i64 y)) base (.slice (some ⟨g, 0, none⟩) on oc) (xs.set k y) := by
 have hl := Own.len h
 subst hl
 have := World.ownsRow.stored h k (.int .i64 y)
 unfold Own
 rw [List.length_set, List.map_set]
 exact this.1
theorem Rd.tail {w : World} {p B b off n : Nat} {xs : List Int} (h : Rd w p B (some ⟨b, off, none⟩) n xs) (h1 : 1 ≤ n) : Rd w p B (some ⟨b, off + 1, none⟩) (n - 1) (xs.drop 1) := by
 refine ⟨by have := h.1; simp; omega, fun hn => ?_⟩
 obtain ⟨b', off', e, hb, hne, hc⟩ := h.2 (by omega)
 injection e with e
 injection e with e1 e2
 subst e1 e2
 refine ⟨_, _, rfl, hb, hne, fun j hj => ?_⟩
 rw [Nat.add_assoc, hc (1 + j) (by omega)]
 simp [List.getD, Nat.add_comm]
theorem Rd.none_ {w : World} {p B : Nat} {O : Option Addr} : Rd w p B O 0 [] := ⟨rfl, fun h => absurd h (by omega)⟩
set_option maxHeartbeats 4000000 in
theorem drawAnyN (p : Nat) (A : Option Addr) (n c : Nat) (S : Option Addr) (sn sc : Nat) (sg : List Int) (w : World) (hd : Dice w p A n c) (hr : Rd w p w.heap.size S sn sg) (hsn : sn ≤ 1048576) :
  Calls Try.prog 44 #[.pointer (some ⟨p, 0, none⟩), .agg #[.slice S sn sc]] w (AnsRN w p A n c 65) := by
 have T0 := DT.start (sc := sc) hd hr
 obtain ⟨W, hW⟩ : ∃ W, W = w.alloc (.cells #[.slice S sn sc] 26) := ⟨_, rfl⟩
 rw [← hW] at T0
 have HW := hid hW
 clear hd hr hW
 have hN := T0.hp
 by_cases hs0 : sn = 0
 ·subst hs0
  go_enter Try.func44, Try.ntmps44
  go_wp2_with fail
  rw [← HW.out]
  refine (fromTo p A n c (-2) 2 _ T0.d (by omega) (by omega) (by omega) (by omega)).mono ?_
  rintro e u1 ⟨x, rfl, x0, x1, d1, g1⟩
  obtain ⟨O, on, oc, xs, he, o1, h1, h2, d2, g2⟩ := leaf (L := 1) (T0.dice d1 g1) (Nat.le_refl _) x
  have F : AnsRN w p A n c 65 _ _ := ansRN_own o1 hN (Nat.le_refl _) (by omega) d2 g2
  rw [← he] at F
  have HF := hid F
  clear F he o1 d2 g2 T0 d1 g1
  go_wp2
  go_ret
  exact HF.out
 ·have e0 : ((sn : Int) == 0) = false := by simp; omega
  have L := hid (specSigOk S sn sc sg W (T0.s.seg.more T0.g.size) hsn)
  cases hok : sigOkB sg with
  | false =>
   have HS := hid hok
   clear hok
   go_enter Try.func44, Try.ntmps44
   go_wp2_with fail
   rw [← HW.out]
   refine L.out.mono ?_
   rintro e u0 ⟨he, bb⟩
   rw [HS.out] at he
   subst he
   have T1 := T0.below (bb.mono (by have := T0.r.lt; omega))
   clear T0 bb L
   go_wp2_with fail
   refine (fromTo p A n c (-2) 2 _ T1.d (by omega) (by omega) (by omega) (by omega)).mono ?_
   rintro e u1 ⟨x, rfl, x0, x1, d1, g1⟩
   obtain ⟨O, on, oc, xs, he, o1, h1, h2, d2, g2⟩ := leaf (L := 1) (T1.dice d1 g1) (Nat.le_refl _) x
   have F : AnsRN w p A n c 65 _ _ := ansRN_own o1 hN (Nat.le_refl _) (by omega) d2 g2
   rw [← he] at F
   have HF := hid F
   clear F he o1 d2 g2 T1 d1 g1
   go_wp2
   go_ret
   exact HF.out
  | true =>
   have HS := hid hok
   have hars := (sig_arities hok).1
   have hl8 := (sig_arities hok).2.2
   have hsl := T0.s.1
   have hs8 : sn ≤ 8 := by omega
   clear hok hsl hl8
   go_enter Try.func44, Try.ntmps44
   go_wp2_with fail
   rw [← HW.out]
   refine L.out.mono ?_
   rintro e u0 ⟨he, bb⟩
   rw [HS.out] at he
   subst he
   have T1 := (T0.below (bb.mono (by have := T0.r.lt; omega))).drew
   have cS : u0.cell? ⟨w.heap.size, 0, none⟩ = some (.slice S sn sc) := T1.r.cell 0
   clear T0 bb L
   go_wp2_with fail
   go_region_held3 (fun w' => w'.cell? ⟨w.heap.size, 0, none⟩ = some (.slice S sn sc))
    (go_keep)
    (first
     | (go_at_call 65; refine (below p A n c 4 _ T1.d (by omega) (by omega)).mono ?_; rintro e u1 ⟨x, rfl, x0, x1, d1, g1⟩; have T2 := T1.dice d1 g1; have cS2 : u1.cell? ⟨w.heap.size, 0, none⟩ = some (.slice S sn sc) := T2.r.cell 0; have hw : IntKind.i64.wrap (1 + x) = 1 + x := by rw [IntKind.wrap_i64]; omega)
     | (go_at_call 64; refine (drawTerm p A n c S sn sc sg 3 hars (by omega) (by omega) (by omega) (by omega) 3 (1 + x) u1 T2.d (T2.s.more T2.g.size) (by omega) (by clear hw; omega) (by clear hw; omega)).mono ?_; rintro e u2 ⟨O, on, oc, xs, rfl, o2, h1, h2, d2, g2⟩; have T3 := T2.dice d2 g2; have cS3 : u2.cell? ⟨w.heap.size, 0, none⟩ = some (.slice S sn sc) := T3.r.cell 0))
   have o3 : Own u2 (w.heap.size + 1) (.slice O on oc) xs := Own.lower o2 (by have := T2.r.lt; omega)
   obtain ⟨gg, rfl⟩ := Own.some_ o3 h1
   have hgg : w.heap.size + 1 ≤ gg := Own.ge o3 gg rfl
   have hL : on ≤ 64 := h2
   clear hw o2 T2 T1 d1 g1 d2 g2 cS cS2 cS3 h2 x0 x1
   have hp1 : p < w.heap.size + 1 := by omega
   go_wp2_with fail
   refine (once p A n c 12 _ T3.d (by omega) (by omega)).mono ?_
   rintro e u3 ⟨b, rfl, d1, g1⟩
   have T4 := T3.dice d1 g1
   have o4 := Own.far o3 g1 (fun k hk => by injection hk; omega)
   clear T3 o3 d1 g1
   cases b with
   | false =>
    have F : AnsRN w p A n c 65 (.returned (.slice (some ⟨gg, 0, none⟩) on oc)) u3 := ansRN_own o4 hp1 (by omega) (by omega) T4.d T4.g
    have HF := hid F
    clear F T4 o4
    go_wp2
    go_ret
    exact HF.out
   | true =>
    go_wp2_with fail
    refine (below p A n c 4 _ T4.d (by omega) (by omega)).mono ?_
    rintro e u4 ⟨x, rfl, x0, x1, d1, g1⟩
    have T5 := T4.dice d1 g1
    have o5 := Own.far o4 g1 (fun k hk => by injection hk; omega)
    clear T4 o4 d1 g1
    by_cases hx0 : x = 0
    ·subst hx0
     go_wp2_with fail
     refine (fromTo p A n c (-2) 3 _ T5.d (by omega) (by omega) (by omega) (by omega)).mono ?_
     rintro e u5 ⟨y, rfl, y0, y1, d1, g1⟩
     have T6 := T5.dice d1 g1
     have o6 := Own.far o5 g1 (fun k hk => by injection hk; omega)
     have z6 := T6.r.lt
     clear T5 o5 d1 g1 x0 x1
     go_wp2_with (at_builtin; refine app1 rfl _ _ rfl (w.heap.size + 1) (some ⟨gg, 0, none⟩) on oc xs rfl (Own.alloc o6 _) u5.heap.size 1 y rfl ((Row.new _ _ _).cell 0) (by omega) (by simp; omega) ?_; intro O' oc' u6 o7 b7)
     have T7 := (T6.below ((Below.refl _ _).alloc (by omega) (.cells #[.int .i64 y] 2))).below b7
     have F : AnsRN w p A n c 65 (.returned (.slice O' (on + 1) oc')) u6 := ansRN_own o7 hp1 (by omega) (by omega) T7.d T7.g
     have HF := hid F
     clear F T7 T6 o6 o7 b7
     go_wp2
     go_ret
     exact HF.out
    ·by_cases hx1 : x = 1
     ·subst hx1
      go_wp2_with fail
      refine (below p A n c (on : Int) _ T5.d (by omega) (by omega)).mono ?_
      rintro e u5 ⟨y, rfl, y0, y1, d1, g1⟩
      obtain ⟨k, rfl⟩ := Int.eq_ofNat_of_zero_le y0
      have T6 := T5.dice d1 g1
      have o6 := Own.far o5 g1 (fun k hk => by injection hk; omega)
      clear T5 o5 d1 g1 x0 x1 hx0
      go_wp2_with fail
      refine (fromTo p A n c (-3) 4 _ T6.d (by omega) (by omega) (by omega) (by omega)).mono ?_
      rintro e u6 ⟨z, rfl, z0, z1, d1, g1⟩
      have T7 := T6.dice d1 g1
      have o7 := Own.far o6 g1 (fun k hk => by injection hk; omega)
      have hk : k < on := by omega
      have i1 : (k : Int) < (on : Int) := by omega
      obtain ⟨u, hu⟩ := Own.cellAt o7 hk
      have hf := Own.frozenAt o7 k
      have o8 := Own.put o7 k z
      have T8 := T7.below ((Below.refl (w.heap.size + 1) u6).setCell (p := ⟨gg, k, none⟩) hgg (.int .i64 z))
      have F : AnsRN w p A n c 65 (.returned (.slice (some ⟨gg, 0, none⟩) on oc)) (u6.setCell ⟨gg, k, none⟩ (.int .i64 z)) := ansRN_own o8 hp1 (by omega) (by omega) T8.d T8.g
      have HF := hid F
      clear F T8 T7 T6 o8 o7 o6 d1 g1
      go_wp2
      go_ret
      exact HF.out
     ·by_cases hx2 : x = 2
      ·subst hx2
       have hcap := Own.cap o5
       have hrd := Rd.of_own o5 hp1
       by_cases hc1 : oc = 1
       ·subst hc1
        have e1 : on = 1 := by omega
        subst e1
        have F : AnsRN w p A n c 65 (.returned (.slice (some ⟨gg, 0, none⟩) 0 0)) u4 := ⟨_, 0, 0, [], rfl, Rd.none_, Nat.le_refl _, by omega, fun e => rfl, by omega, T5.d, T5.g, fun k hk => by (injection hk with e); have e2 : gg = k := e; omega⟩
        have HF := hid F
        clear F T5 o5 hrd x0 x1 hx0 hx1
        go_wp2
        go_ret
        exact HF.out
       ·have F : AnsRN w p A n c 65 (.returned (.slice (some ⟨gg, 0 + 1, none⟩) (on - 1) (oc - 1))) u4 := ⟨_, _, _, _, rfl, Rd.tail hrd h1, by omega, by omega, (fun e => by cases e), by omega, T5.d, T5.g, fun k hk => by (injection hk with e); have e2 : gg = k := e; omega⟩
        have HF := hid F
        have hc2 : ¬ oc = 1 := hc1
        have i1 : (1 : Int) ≤ (on : Int) := by omega
        have i2 : (1 : Int) ≤ (oc : Int) := by omega
        have i3 : (on : Int) ≤ (oc : Int) := by omega
        have i4 : 1 ≤ on := h1
        have i5 : on ≤ oc := hcap.1
        clear F T5 o5 hrd x0 x1 hx0 hx1 hc1 hcap
        go_wp2
        go_ret
        exact HF.out
      ·have e3 : x = 3 := by omega
       subst e3
       clear x0 x1 hx0 hx1 hx2
       go_wp2_with fail
       refine (odd p A n c _ T5.d).mono ?_
       rintro e u5 ⟨y, rfl, d1, g1⟩
       have T6 := T5.dice d1 g1
       have o6 := Own.far o5 g1 (fun k hk => by injection hk; omega)
       have z6 := T6.r.lt
       clear T5 o5 d1 g1
       go_wp2_with (at_builtin; refine app1 rfl _ _ rfl (w.heap.size + 1) (some ⟨gg, 0, none⟩) on oc xs rfl (Own.alloc o6 _) u5.heap.size 1 y rfl ((Row.new _ _ _).cell 0) (by omega) (by simp; omega) ?_; intro O' oc' u6 o7 b7)
       have T7 := (T6.below ((Below.refl _ _).alloc (by omega) (.cells #[.int .i64 y] 2))).below b7
       have F : AnsRN w p A n c 65 (.returned (.slice O' (on + 1) oc')) u6 := ansRN_own o7 hp1 (by omega) (by omega) T7.d T7.g
       have HF := hid F
       clear F T7 T6 o6 o7 b7
       go_wp2
       go_ret
       exact HF.out
theorem drawAny (p : Nat) (A : Option Addr) (n c : Nat) (S : Option Addr) (sn sc : Nat) (sg : List Int) (w : World) (hd : Dice w p A n c) (hr : Rd w p w.heap.size S sn sg) (hsn : sn ≤ 1048576) :
  Calls Try.prog 44 #[.pointer (some ⟨p, 0, none⟩), .agg #[.slice S sn sc]] w (AnsR w p A n c 65) :=
 (drawAnyN p A n c S sn sc sg w hd hr hsn).mono fun _ _ ⟨O, on, oc, xs, h1, h2, h3, h4, h5, h6, h7, h8, _⟩ => ⟨O, on, oc, xs, h1, h2, h3, h4, h5, h6, h7, h8⟩
end drawAny
end
section
namespace drawTwo
open Go.RowKit base ints sig term cursor termOk marks app sym dice drawSig drawTerm drawAny
set_option maxRecDepth 100000
def AnsNew (w : World) (A : Option Addr) (n c : Nat) (e : Ending) (w' : World) : Prop := ∃ p, e = .returned (.pointer (some ⟨p, 0, none⟩)) ∧ w.heap.size ≤ p ∧ Dice w' p A n c ∧ Below w.heap.size w w'
set_option maxHeartbeats 1000000 in
theorem new_ (A : Option Addr) (n c : Nat) (w : World) (h : SegB w w.heap.size A n) (hn : n ≤ 4096) :
  Calls Try.prog 33 #[.slice A n c] w (AnsNew w A n c) := by
 go_enter Try.func33, Try.ntmps33
 go_wp2_with fail
 go_loop [3, 4] (fun hh i => ∃ (k : Nat) (h0 : Int), k ≤ n ∧ i = .int .i64 k ∧ hh = .int .i64 h0) (fun _ i => n - (intOf i).toNat)
 case atStart => exact ⟨0, _, Nat.zero_le _, rfl, rfl⟩
 case round =>
  obtain ⟨k, h0, hk, rfl, rfl⟩ := hrel
  by_cases hlt : k < n
  ·obtain ⟨b, off, rfl, hb, hc⟩ := h (by omega)
   obtain ⟨y, hy0, hy1, hy⟩ := hc k hlt
   clear hc h
   go_wp2
   go_round
   case rel => exact ⟨k + 1, _, hlt, by go_num, rfl⟩
   case measure => simp [intOf]; omega
  ·have F : AnsNew w A n c (.returned (.pointer (some ⟨w.heap.size, 0, none⟩))) (w.alloc (.cells #[.slice A n c, .int .i64 0, .int .i64 h0] 85)) :=
    ⟨_, rfl, Nat.le_refl _, ⟨0, h0, Row.new _ _ _, Nat.zero_le _, h.keep (fun q hq => World.cell?_alloc_lt w _ q hq), hn⟩, (Below.refl _ _).alloc (Nat.le_refl _) _⟩
   have HF := Lib.hid F
   clear F h
   go_wp2
   go_ret
   exact HF.out
end drawTwo
end
section
namespace drawPair
open Go.RowKit base ints sig term cursor termOk marks app sym dice drawSig drawTerm drawAny drawTwo
set_option maxRecDepth 100000
theorem Rd.other {w : World} {p B N : Nat} {O : Option Addr} {on : Nat} {xs : List Int} {a : Option Addr} {l k : Nat} (h : Rd w p B O on xs) (hN : w.cell? ⟨N, 0, none⟩ = some (.slice a l k)) (u : Value) : Rd (w.setCell ⟨N, 0, none⟩ u) p B O on xs :=
 ⟨h.1, fun hn => by
  obtain ⟨b, off, e, hb, hne, hc⟩ := h.2 hn
  refine ⟨b, off, e, hb, hne, fun j hj => ?_⟩
  rw [World.cell?_setCell_other w _ _ _ (fun e => by rw [e] at hN; rw [hc j hj] at hN; cases hN)]
  exact hc j hj⟩
theorem Dice.other {w : World} {p N : Nat} {A : Option Addr} {n c : Nat} {a : Option Addr} {l k : Nat} (d : Dice w p A n c) (hN : w.cell? ⟨N, 0, none⟩ = some (.slice a l k)) (hp : p ≠ N) (u : Value) : Dice (w.setCell ⟨N, 0, none⟩ u) p A n c := by
 obtain ⟨i, h, d⟩ := d
 refine ⟨i, h, d.row.far (p := ⟨N, 0, none⟩) hp u, d.le, fun hn => ?_, d.hn⟩
 obtain ⟨b, off, e, hb, hc⟩ := d.s hn
 refine ⟨b, off, e, hb, fun j hj => ?_⟩
 obtain ⟨x, x0, x1, hx⟩ := hc j hj
 refine ⟨x, x0, x1, ?_⟩
 rw [World.cell?_setCell_other w _ _ _ (fun e => by rw [e] at hN; rw [hx] at hN; cases hN)]
 exact hx
end drawPair
end
section
namespace drawOne
open Go.RowKit base ints sig term cursor termOk marks app sym dice drawSig drawTerm drawAny drawPair
theorem grown_set {a b : World} {r : Option Nat} (h : a.grownBy b r) {q : Nat} (hq : a.heap.size ≤ q) (i : Nat) (u : Value) : a.grownBy (b.setCell ⟨q, i, none⟩ u) r :=
 ⟨h.os, h.tape, h.output, by simpa [World.setCell] using h.size, fun k hk hn => (Below.heap_setCell _ _ _ _ (by show k ≠ q; omega)).trans (h.block k hk hn)⟩
end drawOne
end
section
namespace term
theorem scan_split {sg : List Int} : ∀ {l : List Int} {p q j : Nat}, scan sg (p + q) l = some j → ∃ i, i ≤ j ∧ scan sg p l = some i ∧ scan sg q (l.drop i) = some (j - i) := by
 intro l
 induction l with
 | nil =>
  intro p q j h
  cases p with
  | zero => exact ⟨0, Nat.zero_le _, rfl, by simpa using h⟩
  | succ p => rw [show p + 1 + q = (p + q) + 1 by omega, scan_nil] at h; cases h
 | cons x r ih =>
  intro p q j h
  cases p with
  | zero => exact ⟨0, Nat.zero_le _, rfl, by simpa using h⟩
  | succ p =>
   rw [show p + 1 + q = (p + q) + 1 by omega] at h
   by_cases ha : ar sg x < 0
   ·rw [scan_bad ha] at h; cases h
   ·rw [scan_step ha] at h
    obtain ⟨j', hj', rfl⟩ := Option.map_eq_some_iff.1 h
    rw [show p + q + (ar sg x).toNat = (p + (ar sg x).toNat) + q by omega] at hj'
    obtain ⟨i, h1, h2, h3⟩ := ih hj'
    refine ⟨i + 1, by omega, by rw [scan_step ha, h2]; rfl, ?_⟩
    rw [List.drop_succ_cons, h3]
    congr 1
    omega
theorem scan_tail {sg : List Int} : ∀ {l : List Int} {q j a : Nat}, scan sg q l = some j → a < j → ∃ q', scan sg (q' + 1) (l.drop a) = some (j - a) := by
 intro l
 induction l with
 | nil =>
  intro q j a h ha
  cases q with
  | zero => rw [scan_zero] at h; injection h; omega
  | succ q => rw [scan_nil] at h; cases h
 | cons x r ih =>
  intro q j a h ha
  cases q with
  | zero => rw [scan_zero] at h; injection h; omega
  | succ q =>
   cases a with
   | zero => exact ⟨q, h⟩
   | succ a =>
    by_cases hx : ar sg x < 0
    ·rw [scan_bad hx] at h; cases h
    ·rw [scan_step hx] at h
     obtain ⟨j', hj', rfl⟩ := Option.map_eq_some_iff.1 h
     obtain ⟨q', h'⟩ := ih (a := a) hj' (by omega)
     exact ⟨q', by rw [List.drop_succ_cons, h']; congr 1; omega⟩
theorem scan_pos {sg : List Int} {l : List Int} {q j : Nat} (h : scan sg (q + 1) l = some j) : 1 ≤ j := by
 cases l with
 | nil => rw [scan_nil] at h; cases h
 | cons x r =>
  by_cases hx : ar sg x < 0
  ·rw [scan_bad hx] at h; cases h
  ·rw [scan_step hx] at h
   obtain ⟨j', _, rfl⟩ := Option.map_eq_some_iff.1 h
   omega
theorem scan_le {sg : List Int} : ∀ {l : List Int} {q j : Nat}, scan sg q l = some j → j ≤ l.length := by
 intro l
 induction l with
 | nil =>
  intro q j h
  cases q with
  | zero => rw [scan_zero] at h; injection h; omega
  | succ q => rw [scan_nil] at h; cases h
 | cons x r ih =>
  intro q j h
  cases q with
  | zero => rw [scan_zero] at h; injection h; omega
  | succ q =>
   by_cases hx : ar sg x < 0
   ·rw [scan_bad hx] at h; cases h
   ·rw [scan_step hx] at h
    obtain ⟨j', hj', rfl⟩ := Option.map_eq_some_iff.1 h
    have := ih hj'
    simp
    omega
theorem scan_at {sg t : List Int} (h : scan sg 1 t = some t.length) {a : Nat} (ha : a < t.length) : ∃ j, scan sg 1 (t.drop a) = some j ∧ 1 ≤ j ∧ a + j ≤ t.length := by
 obtain ⟨q', h'⟩ := scan_tail h ha
 rw [Nat.add_comm] at h'
 obtain ⟨i, h1, h2, _⟩ := scan_split h'
 have h3 := scan_pos (q := 0) h2
 exact ⟨i, h2, h3, by omega⟩
theorem scan_args {sg t : List Int} {a j : Nat} (h : scan sg 1 (t.drop a) = some j) : ∃ i, j = i + 1 ∧ a < t.length ∧ ¬ ar sg (t.getD a 0) < 0 ∧ scan sg (ar sg (t.getD a 0)).toNat (t.drop (a + 1)) = some i := by
 by_cases ha : a < t.length
 ·rw [drop_cons ha] at h
  by_cases hx : ar sg (t.getD a 0) < 0
  ·rw [scan_bad hx] at h; cases h
  ·rw [scan_step hx, Nat.zero_add] at h
   obtain ⟨i, hi, rfl⟩ := Option.map_eq_some_iff.1 h
   exact ⟨i, rfl, ha, hx, hi⟩
 ·rw [List.drop_eq_nil_of_le (by omega), scan_nil] at h; cases h
theorem scan_first {sg t : List Int} {q a i : Nat} (h : scan sg (q + 1) (t.drop a) = some i) : ∃ j, scan sg 1 (t.drop a) = some j ∧ 1 ≤ j ∧ j ≤ i ∧ scan sg q (t.drop (a + j)) = some (i - j) := by
 rw [Nat.add_comm] at h
 obtain ⟨j, h1, h2, h3⟩ := scan_split h
 rw [List.drop_drop] at h3
 exact ⟨j, h2, scan_pos (q := 0) h2, h1, h3⟩
def len1 (sg t : List Int) (a : Nat) : Nat := (scan sg 1 (t.drop a)).getD 0
theorem len1_eq {sg t : List Int} {a j : Nat} (h : scan sg 1 (t.drop a) = some j) : len1 sg t a = j := by unfold len1; rw [h]; rfl
def places (sg t : List Int) : Nat → Nat → List Int
 | 0, _ => []
 | k + 1, p => (p : Int) :: places sg t k (p + len1 sg t p)
def maxOver (sg t : List Int) (g : Nat → Int) : Nat → Nat → Int
 | 0, _ => 0
 | k + 1, p => max (g p) (maxOver sg t g k (p + len1 sg t p))
def dep (sg t : List Int) : Nat → Nat → Int
 | 0, _ => 0
 | f + 1, a => maxOver sg t (dep sg t f) (ar sg (t.getD a 0)).toNat (a + 1) + 1
theorem maxOver_bd {sg t : List Int} {g : Nat → Int} {B : Int} (hB : 0 ≤ B) (hg : ∀ p, 0 ≤ g p ∧ g p ≤ B) : ∀ k p, 0 ≤ maxOver sg t g k p ∧ maxOver sg t g k p ≤ B
 | 0, _ => by simp [maxOver, hB]
 | k + 1, p => by
  have h1 := hg p
  have h2 := maxOver_bd (sg := sg) (t := t) hB hg k (p + len1 sg t p)
  simp only [maxOver]
  omega
theorem dep_bd {sg t : List Int} : ∀ f a, 0 ≤ dep sg t f a ∧ dep sg t f a ≤ f
 | 0, _ => by simp [dep]
 | f + 1, a => by
  have := maxOver_bd (sg := sg) (t := t) (g := dep sg t f) (B := f) (by omega) (fun p => dep_bd (sg := sg) (t := t) f p) (ar sg (t.getD a 0)).toNat (a + 1)
  simp only [dep]
  omega
theorem places_len {sg t : List Int} : ∀ k p, (places sg t k p).length = k
 | 0, _ => rfl
 | k + 1, p => by simp [places, places_len]
end term
end
section
namespace termFacts
open sig term termOk
theorem term_parts {sg t : List Int} (h : termOkB sg t = true) : sigOkB sg = true ∧ t.length ≤ 60 ∧ scan sg 1 t = some t.length := by
 unfold termOkB termB at h
 simp only [Bool.and_eq_true, decide_eq_true_eq] at h
 exact h
theorem term_mk {sg t : List Int} (h1 : sigOkB sg = true) (h2 : t.length ≤ 60) (h3 : scan sg 1 t = some t.length) : termOkB sg t = true := by
 unfold termOkB termB
 simp [h1, h2, h3]
theorem term_len {sg t : List Int} (h : termOkB sg t = true) : 1 ≤ t.length ∧ t.length ≤ 60 := ⟨scan_pos (q := 0) (term_parts h).2.2, (term_parts h).2.1⟩
theorem term_ar {sg t : List Int} (h : termOkB sg t = true) {j : Nat} (hj : j < t.length) : ¬ ar sg (t.getD j 0) < 0 := by
 obtain ⟨i, h1, _, _⟩ := scan_at (term_parts h).2.2 hj
 obtain ⟨_, _, _, h2, _⟩ := scan_args h1
 exact h2
theorem term_num {sg t : List Int} (h : termOkB sg t = true) {j : Nat} (hj : j < t.length) : -24 ≤ t.getD j 0 ∧ t.getD j 0 < 8 := by
 have h1 := term_ar h hj
 have h2 := (sig_arities (term_parts h).1).2
 unfold ar at h1
 split at h1
 ·omega
 ·split at h1
  ·omega
  ·omega
theorem term_mem {sg t : List Int} (h : termOkB sg t = true) {x : Int} (hx : x ∈ t) : -24 ≤ x ∧ x < 8 := by
 obtain ⟨j, hj, rfl⟩ := List.getElem_of_mem hx
 have := term_num h hj
 simpa [List.getD, hj] using this
end termFacts
end
section
namespace varsMath
open term termOk
def into : List Int → Int → List Int
 | [], n => [n]
 | y :: r, n => if y < n then y :: into r n else if y = n then y :: r else n :: y :: r
def negs (t : List Int) : List Int := (t.filter fun n => decide (n < 0)).map fun n => -1 - n
def vars (t : List Int) : List Int := (negs t).foldl into []
theorem take_snoc {t : List Int} {k : Nat} (hk : k < t.length) {x : Int} (hx : t.getD k 0 = x) : t.take (k + 1) = t.take k ++ [x] := by
 rw [List.take_succ_eq_append_getElem hk, ← hx]
 simp [List.getD, hk]
end varsMath
end
end Go.Proofs.Ytgfgaeagbipobaa
