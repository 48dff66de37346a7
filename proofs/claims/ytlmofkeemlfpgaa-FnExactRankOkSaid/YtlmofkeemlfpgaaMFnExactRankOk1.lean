/-
  MERGED: my texts Base, Open, Ints, Sig, Term, Arity, Cursor, Marks, Append, List, AppAt, Segs, SegsHelp, SegsMark, Kinds, RankMath, Shape, Shape2, KindsR, End, TermOk, VarsMath, Term2, TermFacts, Copy, Vars, AnsB, VarsOf, CountL, Linear, FillMath, RenMath, RuleMath, Rename, Same, RuleSpec, AnyR, RuleImpl, RankSpec, WRankOk, one behind the other, as they are. By an AI agent.
-/
import Derived.WalkKit
import Derived.Lib.Hide
import Derived.Deep.Draws
import Derived.ProofKit
import Derived.OpenShut
import Derived.Lib.SmallJoins
import Derived.Test.YtlmofkeemlfpgaaRows
import Derived.Deep.QuietTactic
import Derived.BigQuiet
import Derived.Deep.RegionHeld3
import Derived.Deep.AppendLies
import Derived.Laws.AppendOwnNone
import Derived.Maps.AppendAt
import Derived.WalkSpells
import Derived.Shelf.Abstract
import Derived.Deep.LoopGhost
namespace Go.Proofs.Ytlmofkeemlfpgaa
section
namespace base
open Go.RowKit
def Seg (w : World) (B : Nat) (A : Option Addr) (n : Nat) (xs : List Int) : Prop :=
 xs.length = n ∧ (0 < n → ∃ b off, A = some ⟨b, off, none⟩ ∧ b < B ∧ ∀ j, j < n → w.cell? ⟨b, off + j, none⟩ = some (.int .i64 (xs.getD j 0)))
def Row (w : World) (g : Nat) (t : TypeId) (cs : Array Value) : Prop := w.heap[g]? = some (.cells cs t (0, 0))
section
variable {w w' : World} {B B' n : Nat} {A : Option Addr} {xs : List Int}
theorem Seg.empty : Seg w B A 0 [] := ⟨rfl, fun h => absurd h (by omega)⟩
theorem Seg.round (h : Seg w B A n xs) {k : Nat} (hk : k < n) : ∃ b off, A = some ⟨b, off, none⟩ ∧ b < B ∧ w.cell? ⟨b, off + k, none⟩ = some (.int .i64 (xs.getD k 0)) := by
 obtain ⟨b, off, e, hb, hc⟩ := h.2 (by omega)
 exact ⟨b, off, e, hb, hc k hk⟩
theorem Seg.spot (h : Seg w B A n xs) {k : Nat} (hk : k < n) : ∃ b off x, A = some ⟨b, off, none⟩ ∧ b < B ∧ w.cell? ⟨b, off + k, none⟩ = some (.int .i64 x) ∧ Hid (xs.getD k 0 = x) := by
 obtain ⟨b, off, e, hb, hc⟩ := h.2 (by omega)
 exact ⟨b, off, _, e, hb, hc k hk, Lib.hid rfl⟩
theorem Seg.of_row {a : Option Addr} {len cap : Nat} {zs : List Int}
  (h : (a = none ∧ len = 0 ∧ cap = 0 ∧ zs = []) ∨ ∃ x, a = some x ∧ len ≤ cap ∧ cap ≤ maxLen ∧ zs.length = cap ∧ (∀ i, i < zs.length → w.cell? (x.add i) = some (.int .i64 (zs.getD i 0))) ∧ ∀ n ∈ zs, (Lit.int .i64 n).wf = true) :
  Seg w w.heap.size a len (zs.take len) := by
 rcases h with ⟨rfl, rfl, rfl, rfl⟩ | ⟨x, rfl, hl, hm, hz, hc, hw⟩
 ·exact Seg.empty
 ·refine ⟨by simp; omega, fun hn => ?_⟩
  obtain ⟨b, off, spot⟩ := x
  have h0 := hc 0 (by omega)
  have hspot : spot = none := by simpa [Addr.add] using World.cell?_spot h0
  subst hspot
  refine ⟨b, off, rfl, ?_, fun j hj => ?_⟩
  ·have : w.cell? ⟨b, off, none⟩ = some (.int .i64 (zs.getD 0 0)) := by simpa [Addr.add] using h0
   unfold World.cell? at this
   split at this
   ·rename_i c t f he
    exact (Array.getElem?_eq_some_iff.1 he).1
   ·cases this
  ·have := hc j (by omega)
   rw [show (⟨b, off, none⟩ : Addr).add j = ⟨b, off + j, none⟩ by unfold Addr.add; split <;> simp_all] at this
   rw [this]
   simp [List.getD, List.getElem?_take, hj]
theorem Seg.keep (h : Seg w B A n xs) (hk : ∀ p : Addr, p.block < B → w'.cell? p = w.cell? p) : Seg w' B A n xs :=
 ⟨h.1, fun hn => by
  obtain ⟨b, off, e, hb, hc⟩ := h.2 hn
  exact ⟨b, off, e, hb, fun j hj => (hk ⟨b, off + j, none⟩ hb).trans (hc j hj)⟩⟩
theorem Seg.more (h : Seg w B A n xs) (hB : B ≤ B') : Seg w B' A n xs :=
 ⟨h.1, fun hn => by
  obtain ⟨b, off, e, hb, hc⟩ := h.2 hn
  exact ⟨b, off, e, by omega, hc⟩⟩
theorem Seg.below (h : Seg w B A n xs) (hb : Below B w w') : Seg w' B A n xs := h.keep fun _ hp => hb.cell hp
theorem Seg.next (h : Seg w w.heap.size A n xs) (hb : Below w.heap.size w w') : Seg w' w'.heap.size A n xs := (h.below hb).more hb.size
theorem Seg.alloc (h : Seg w B A n xs) (hB : B ≤ w.heap.size) (o : Obj) : Seg (w.alloc o) B A n xs := h.keep fun p hp => World.cell?_alloc_lt w o p (by omega)
theorem Row.lt {g : Nat} {t : TypeId} {cs : Array Value} (h : Row w g t cs) : g < w.heap.size := by
 unfold Row at h
 exact (Array.getElem?_eq_some_iff.1 h).1
theorem Row.cell {g : Nat} {t : TypeId} {cs : Array Value} (h : Row w g t cs) (i : Nat) : w.cell? ⟨g, i, none⟩ = cs[i]? := cell_of_row w g i cs t (0, 0) h
theorem Row.free {g : Nat} {t : TypeId} {cs : Array Value} (h : Row w g t cs) (i : Nat) : w.frozen? ⟨g, i, none⟩ = false := by
 unfold Row at h
 simp [World.frozen?, h]
theorem Row.new (w : World) (t : TypeId) (cs : Array Value) : Row (w.alloc (.cells cs t)) w.heap.size t cs := heap_alloc_new w _
theorem Row.put {g : Nat} {t : TypeId} {cs : Array Value} (h : Row w g t cs) (i : Nat) (u : Value) : Row (w.setCell ⟨g, i, none⟩ u) g t (cs.setIfInBounds i u) := by
 unfold Row at h ⊢
 simp [World.setCell, Array.getElem?_modify, h]
theorem Row.far {g : Nat} {t : TypeId} {cs : Array Value} (h : Row w g t cs) {p : Addr} (hp : g ≠ p.block) (u : Value) : Row (w.setCell p u) g t cs := (Below.heap_setCell w p u g hp).trans h
theorem Row.alloc {g : Nat} {t : TypeId} {cs : Array Value} (h : Row w g t cs) (o : Obj) : Row (w.alloc o) g t cs := (Below.heap_alloc w o g h.lt).trans h
theorem Row.drew {g : Nat} {t : TypeId} {cs : Array Value} (h : Row w g t cs) : Row w.drew g t cs := h
theorem Row.below {g : Nat} {t : TypeId} {cs : Array Value} (h : Row w g t cs) (hb : Below B w w') (hg : g < B) : Row w' g t cs := (hb.block g hg).trans h
theorem Row.next {g : Nat} {t : TypeId} {cs : Array Value} (h : Row w g t cs) (hb : Below w.heap.size w w') : Row w' g t cs := h.below hb h.lt
theorem Row.seg {g : Nat} {t : TypeId} {cs : Array Value} (h : Row w g t cs) (hl : xs.length = n) (hB : g < B) (hc : ∀ j, j < n → cs[j]? = some (.int .i64 (xs.getD j 0))) : Seg w B (some ⟨g, 0, none⟩) n xs :=
 ⟨hl, fun _ => ⟨g, 0, rfl, hB, fun j hj => by rw [Nat.zero_add, h.cell j]; exact hc j hj⟩⟩
theorem next_trans {a b c : World} (h : Below a.heap.size a b) (k : Below b.heap.size b c) : Below a.heap.size a c := h.trans (k.mono h.size)
theorem below_drewN {a : World} (h : Below B a w) (k : Nat) : Below B a (w.drewN k) := ⟨h.os, h.tape, h.output, h.size, h.block⟩
end
end base
end
section
namespace openArgs
open Go.ChangeShapes Go.WideShapes Go.ChangeAt Go.RowKit base
section
variable {H : Type} {enc : TypeId × Value → H} {P : Program} {w : World}
theorem ints_of_trod {t e : TypeId} {fuel : Nat} {a : Option Addr} {n c : Nat} {held : Bool} {x : DataW H × List MemPlace} (ht : P.underlying t = some (.slice e)) (he : P.underlying e = some (.int .i64)) (hc : P.cellsOf e = 1)
  (h : DataW.trod enc P w 0 (fun _ => true) held fuel t [.slice a n c] = some x) : ∃ xs, Seg w w.heap.size a n xs ∧ n ≤ 9223372036854775807 := by
 rcases open_ints ht he hc h with ⟨hcs, _⟩ | ⟨y, l, cap, zs, hcs, _, hl, hm, hz, _, hcell, hwz⟩
 ·simp at hcs
  obtain ⟨rfl, rfl, rfl⟩ := hcs
  exact ⟨[], Seg.empty, by omega⟩
 ·simp at hcs
  obtain ⟨rfl, rfl, rfl⟩ := hcs
  exact ⟨zs.take n, Seg.of_row (.inr ⟨_, rfl, hl, hm, by simpa using hz, hcell, hwz⟩), by unfold maxLen at hm; omega⟩
theorem open_seg {t e : TypeId} {r : Reach} {b0 : Nat} {v : Value} {d : DataW H} {p : List MemPlace} {held : Bool} (ht : P.underlying t = some (.slice e)) (he : P.underlying e = some (.int .i64)) (hc : P.cellsOf e = 1)
  (hv : Value.okWide P w r b0 t v) (h : DataW.Trod enc P w 0 (fun _ => true) held t v d p) : ∃ a n c xs, v = .slice a n c ∧ Seg w w.heap.size a n xs ∧ n ≤ 9223372036854775807 := by
 obtain ⟨a, n, c, rfl⟩ := okWide_slice ht hv
 obtain ⟨fuel, hf⟩ := h
 obtain ⟨xs, hs, hn⟩ := ints_of_trod ht he hc (by simpa [Value.cells] using hf)
 exact ⟨a, n, c, xs, rfl, hs, hn⟩
theorem array1 {T : Array Value} (h : T.size = 1) : ∃ v, T = #[v] := by
 obtain ⟨l⟩ := T
 match l, h with
 | [v], _ => exact ⟨v, rfl⟩
theorem open_sig {s t e : TypeId} {f0 : Field} {r : Reach} {b0 : Nat} {v : Value} {d : DataW H} {p : List MemPlace} {held : Bool} (hs : P.underlying s = some (.struct #[f0])) (hone : Go.Deep.oneCellFields P #[f0] = true) (hC : P.cellsOf s = 1)
  (hf : f0.type = t) (ht : P.underlying t = some (.slice e)) (he : P.underlying e = some (.int .i64)) (hc : P.cellsOf e = 1)
  (hv : Value.okWide P w r b0 s v) (h : DataW.Trod enc P w 0 (fun _ => true) held s v d p) : ∃ a n c xs, v = .agg #[.slice a n c] ∧ Seg w w.heap.size a n xs ∧ n ≤ 9223372036854775807 := by
 subst hf
 obtain ⟨cs, rfl, hsz⟩ := okWide_struct hs hv
 obtain ⟨c0, rfl⟩ := array1 (hsz.trans hC)
 obtain ⟨fuel, hfu⟩ := h
 obtain ⟨y0, n, _, _, h0⟩ := trod_struct1 hs hfu
 obtain ⟨o0, k0⟩ := Go.Deep.hone_of hone 0 f0 rfl
 have h0' : DataW.trod enc P w 0 (fun _ => true) held n f0.type [c0] = some y0 := by simpa [Value.cells, o0, k0] using h0
 obtain ⟨a, l, c, hcs⟩ := Go.Joins.slice_form ht h0'
 simp at hcs
 subst hcs
 obtain ⟨xs, hseg, hn⟩ := ints_of_trod ht he hc h0'
 exact ⟨a, l, c, xs, rfl, hseg, hn⟩
end
end openArgs
end
section
namespace ints
open Go.RowKit base
theorem info_i64 : (Try.prog.info? 2).map (fun i => (i.zero, i.size, i.bytes)) = some (some (.int .i64 0), 1, 8) := by kernel_rfl
theorem run_make_i64 (n : Nat) (hn : n ≤ 1048576) (W : World) : (Instr.makeSlice 27 (.int .i64 (n : Int)) (.int .i64 (n : Int))).run Try.prog W =
  .ok (.slice (some ⟨W.heap.size, 0, none⟩) n n) (W.alloc (.cells (madeCells #[.int .i64 0] n) 2)) := by
 obtain ⟨i0, hi, hz0, hz1, hz2⟩ := info_parts info_i64
 have hr := run_make (P := Try.prog) W 27 2 i0 _ Try.underlying27 hi hz0 .i64 .i64 n n (by omega) (by omega) (by rw [hz2]; omega) (by omega)
 simpa [hz1, Value.cells] using hr
def Copied (w : World) (n : Nat) (xs : List Int) (i : Value) (wr : World) : Prop :=
 ∃ (k : Nat) (cs : Array Value), k ≤ n ∧ i = .int .i64 k ∧ Row wr w.heap.size 2 cs ∧ cs.size = n ∧ (∀ j, j < k → cs[j]? = some (.int .i64 (xs.getD j 0))) ∧ wr.heap.size = w.heap.size + 1 ∧ Below w.heap.size w wr
theorem copied_start (w : World) (n : Nat) (xs : List Int) : Copied w n xs (.int .i64 0) (w.alloc (.cells (madeCells #[.int .i64 0] n) 2)) :=
 ⟨0, _, Nat.zero_le _, rfl, Row.new _ _ _, size_madeCells _ _, fun j h => absurd h (Nat.not_lt_zero _), by simp, (Below.refl _ _).alloc (Nat.le_refl _) _⟩
theorem copied_step {w wr : World} {n k : Nat} {xs : List Int} {cs : Array Value} (hk : k < n) (hr : Row wr w.heap.size 2 cs) (hs : cs.size = n) (hc : ∀ j, j < k → cs[j]? = some (.int .i64 (xs.getD j 0)))
  (hz : wr.heap.size = w.heap.size + 1) (hb : Below w.heap.size w wr) : Copied w n xs (.int .i64 ((k : Int) + 1)) (wr.setCell ⟨w.heap.size, k, none⟩ (.int .i64 (xs.getD k 0))) := by
 refine ⟨k + 1, _, hk, by simp, hr.put k _, by simp [hs], fun j hj => ?_, by simpa using hz, hb.setCell (Nat.le_refl _) _⟩
 rw [Array.getElem?_setIfInBounds]
 by_cases e : k = j
 ·subst e; simp [hs, hk]
 ·simp [e]; exact hc j (by omega)
set_option maxHeartbeats 400000 in
theorem toInts (A : Option Addr) (n c : Nat) (xs : List Int) (w : World) (h : Seg w w.heap.size A n xs) (hn : n ≤ 1048576) :
  Calls Try.prog 35 #[.slice A n c] w fun e w' => ∃ cs, e = .returned (.slice (some ⟨w.heap.size, 0, none⟩) n n) ∧ Row w' w.heap.size 2 cs ∧ cs.size = n ∧
   (∀ j, j < n → cs[j]? = some (.int .i64 (xs.getD j 0))) ∧ w'.heap.size = w.heap.size + 1 ∧ Below w.heap.size w w' := by
 have hmk := run_make_i64 n hn
 go_enter Try.func35, Try.ntmps35
 go_wp2
 clear hmk
 go_loopw [4] (fun i wr => Copied w n xs i wr) (fun i _ => n - (intOf i).toNat)
 case atStart => exact copied_start w n xs
 case round =>
  obtain ⟨k, cs, hk, rfl, hr, hs, hc, hz, hb⟩ := hrel
  by_cases hlt : k < n
  ·obtain ⟨b, off, rfl, hbB, hx⟩ := h.round hlt
   have hx' : wr.cell? ⟨b, off + k, none⟩ = some (.int .i64 (xs.getD k 0)) := (hb.cell (p := ⟨b, off + k, none⟩) hbB).trans hx
   obtain ⟨u, hu⟩ : ∃ u, wr.cell? ⟨w.heap.size, k, none⟩ = some u := ⟨_, (hr.cell k).trans (Array.getElem?_eq_getElem (by omega))⟩
   have hf : wr.frozen? ⟨w.heap.size, k, none⟩ = false := hr.free k
   have S := Lib.hid (copied_step hlt hr hs hc hz hb)
   clear hx hr hs hc hz hb h
   go_wp2
   go_roundw
   case rel => exact S.out
   case measure => simp [intOf]; omega
  ·go_wp2
   go_ret
   have : k = n := by omega
   subst this
   exact ⟨cs, rfl, hr, hs, hc, hz, hb⟩
theorem lists_eq {xs ys : List Int} {n : Nat} (hx : xs.length = n) (hy : ys.length = n) (h : ∀ j, j < n → xs.getD j 0 = ys.getD j 0) : xs = ys := by
 subst hx
 refine List.ext_getElem hy.symm fun j h1 h2 => ?_
 have := h j h1
 simpa [List.getD, h1, h2] using this
def HeadSame (w : World) (n : Nat) (xs ys : List Int) (i : Value) (wr : World) : Prop :=
 ∃ (k d : Nat), k ≤ n ∧ i = .int .i64 k ∧ wr = w.drewN d ∧ ∀ j, j < k → xs.getD j 0 = ys.getD j 0
theorem alike_step {w : World} {n k : Nat} {xs ys : List Int} {x : Int} (hk : k < n) (h : ∀ j, j < k → xs.getD j 0 = ys.getD j 0) (hx : Hid (xs.getD k 0 = x)) (hy : Hid (ys.getD k 0 = x)) (d : Nat) :
  HeadSame w n xs ys (.int .i64 ((k : Int) + 1)) (w.drewN d) :=
 ⟨k + 1, d, hk, by simp, rfl, fun j hj => by
  by_cases e : j = k
  ·subst e; rw [hx.out, hy.out]
  ·exact h j (by omega)⟩
def AnsSame (w : World) (xs ys : List Int) (e : Ending) (w' : World) : Prop := e = .returned (.bool (decide (xs = ys))) ∧ ∃ d, w' = w.drewN d
theorem same_not {w : World} {xs ys : List Int} {k : Nat} {x y : Int} (hx : Hid (xs.getD k 0 = x)) (hy : Hid (ys.getD k 0 = y)) (h : ¬ x = y) (d : Nat) : AnsSame w xs ys (.returned (.bool false)) (w.drewN d) :=
 ⟨by rw [decide_eq_false (fun e => h (by rw [← hx.out, ← hy.out, e]))], d, rfl⟩
theorem same_yes {w : World} {xs ys : List Int} {n k : Nat} (hx : xs.length = n) (hy : ys.length = n) (hn : ¬ k < n) (h : ∀ j, j < k → xs.getD j 0 = ys.getD j 0) (d : Nat) : AnsSame w xs ys (.returned (.bool true)) (w.drewN d) :=
 ⟨by rw [decide_eq_true (lists_eq hx hy (fun j hj => h j (by omega)))], d, rfl⟩
theorem same_len {w : World} {xs ys : List Int} {n m : Nat} (hx : xs.length = n) (hy : ys.length = m) (h : ¬ n = m) : AnsSame w xs ys (.returned (.bool false)) w :=
 ⟨by rw [decide_eq_false (fun e => h (by rw [← hx, ← hy, e]))], 0, rfl⟩
set_option maxHeartbeats 400000 in
theorem eqInts (A A' : Option Addr) (n m c c' : Nat) (xs ys : List Int) (w : World) (h : Seg w w.heap.size A n xs) (h' : Seg w w.heap.size A' m ys) (hn : n ≤ 1048576) (hm : m ≤ 1048576) :
  Calls Try.prog 38 #[.slice A n c, .slice A' m c'] w (AnsSame w xs ys) := by
 by_cases hnm : n = m
 ·subst hnm
  go_enter Try.func38, Try.ntmps38
  go_wp2
  go_loopw [5] (fun i wr => HeadSame w n xs ys i wr) (fun i _ => n - (intOf i).toNat)
  case atStart => exact ⟨0, 0, Nat.zero_le _, rfl, rfl, fun j h => absurd h (Nat.not_lt_zero _)⟩
  case round =>
   obtain ⟨k, d, hk, rfl, rfl, hc⟩ := hrel
   by_cases hlt : k < n
   ·obtain ⟨b, off, x, rfl, -, hx, ex⟩ := h.spot hlt
    obtain ⟨b', off', y, rfl, -, hx', ey⟩ := h'.spot hlt
    by_cases he : x = y
    ·subst he
     have S := Lib.hid (alike_step (w := w) hlt hc ex ey)
     clear hc h h' ex ey
     go_wp2
     go_quiet (fail)
     go_wp2
     go_roundw
     case rel => exact S.out _
     case measure => simp [intOf]; omega
    ·have S := Lib.hid (same_not (w := w) ex ey he)
     have hne : (x != y) = true := by simp [he]
     clear hc h h' ex ey he
     go_wp2
     go_quiet (fail)
     go_wp2
     go_ret
     rw [World.drewN_drewN]
     exact S.out _
   ·have S := Lib.hid (same_yes (w := w) h.1 h'.1 hlt hc)
    clear hc h h'
    go_wp2
    go_ret
    exact S.out _
 ·have S := Lib.hid (same_len (w := w) h.1 h'.1 hnm)
  have hne : ((n : Int) != (m : Int)) = true := by simp; omega
  clear h h'
  go_enter Try.func38, Try.ntmps38
  go_wp2
  go_ret
  exact S.out
theorem eqYes (A A' : Option Addr) (n c c' : Nat) (xs : List Int) (w : World) (h : Seg w w.heap.size A n xs) (h' : Seg w w.heap.size A' n xs) (hn : n ≤ 1048576) :
  Calls Try.prog 38 #[.slice A n c, .slice A' n c'] w fun e w' => e = .returned (.bool true) ∧ ∃ d, w' = w.drewN d :=
 (eqInts A A' n n c c' xs xs w h h' hn hn).mono fun _ _ ⟨he, hd⟩ => ⟨by rw [he]; simp, hd⟩
def Fine (w : World) (e : Ending) (w' : World) : Prop := e = .returned (.bool true) ∧ Below w.heap.size w w'
end ints
end
section
open Go.Lib (hid)
namespace sig
open Go.RowKit base ints
theorem szInts (A : Option Addr) (n c : Nat) (left : Int) (w : World) (hn : n ≤ 9223372036854775807) (h0 : 0 ≤ left) (h1 : left ≤ 1048576) :
  Calls Try.prog 80 #[.slice A n c, .int .i64 left] w fun e w' => w = w' ∧ e = .returned (.int .i64 (if left - n < 0 then -1 else left - n)) := by
 by_cases h : left - n < 0
 ·rw [if_pos h]
  go_enter Try.func80, Try.ntmps80
  go_wp2
  go_ret
  exact ⟨rfl, rfl⟩
 ·rw [if_neg h]
  go_enter Try.func80, Try.ntmps80
  go_wp2
  go_ret
  exact ⟨rfl, rfl⟩
theorem szSig (A : Option Addr) (n c : Nat) (left : Int) (w : World) (hn : n ≤ 9223372036854775807) (h0 : 0 ≤ left) (h1 : left ≤ 1048576) :
  Calls Try.prog 32 #[.agg #[.slice A n c], .int .i64 left] w fun e w' => e = .returned (.int .i64 (if left - n < 0 then -1 else left - n)) ∧ Below w.heap.size w w' := by
 have L := fun W => hid (szInts A n c left W hn h0 h1)
 have hb : Below w.heap.size w (w.alloc (.cells #[.slice A n c] 48)) := (Below.refl _ _).alloc (Nat.le_refl _) _
 by_cases h : left - n < 0
 ·rw [if_pos h] at L ⊢
  go_enter Try.func32, Try.ntmps32
  go_wp2_with fail
  refine (L _).out.mono ?_
  rintro e w' ⟨rfl, rfl⟩
  go_wp2
  go_ret
  exact ⟨rfl, hb⟩
 ·rw [if_neg h] at L ⊢
  go_enter Try.func32, Try.ntmps32
  go_wp2_with fail
  refine (L _).out.mono ?_
  rintro e w' ⟨rfl, rfl⟩
  go_wp2
  go_ret
  exact ⟨rfl, hb⟩
def CopySig (w : World) (n : Nat) (xs : List Int) (e : Ending) (w' : World) : Prop :=
 ∃ g cs, e = .returned (.agg #[.slice (some ⟨g, 0, none⟩) n n]) ∧ w.heap.size ≤ g ∧ Row w' g 2 cs ∧ cs.size = n ∧ (∀ j, j < n → cs[j]? = some (.int .i64 (xs.getD j 0))) ∧ Below w.heap.size w w'
set_option maxHeartbeats 400000 in
theorem toSig (A : Option Addr) (n c : Nat) (xs : List Int) (w : World) (h : Seg w w.heap.size A n xs) (hn : n ≤ 1048576) :
  Calls Try.prog 34 #[.agg #[.slice A n c]] w (CopySig w n xs) := by
 obtain ⟨W, hW⟩ : ∃ W, W = ((w.alloc (.cells #[.slice A n c] 48)).alloc (.cells #[.slice none 0 0] 29)).alloc (.cells #[.slice none 0 0] 29) := ⟨_, rfl⟩
 have hz : W.heap.size = w.heap.size + 1 + 1 + 1 := by rw [hW]; simp
 have r1 : Row W (w.heap.size + 1) 29 #[.slice none 0 0] := by
  rw [hW]; have := (Row.new (w.alloc (.cells #[.slice A n c] 48)) 29 #[.slice none 0 0]).alloc (.cells #[.slice none 0 0] 29); simpa using this
 have r2 : Row W (w.heap.size + 1 + 1) 29 #[.slice none 0 0] := by
  rw [hW]; have := Row.new ((w.alloc (.cells #[.slice A n c] 48)).alloc (.cells #[.slice none 0 0] 29)) 29 #[.slice none 0 0]; simpa using this
 have s : Seg W W.heap.size A n xs := by
  have : Seg W w.heap.size A n xs := by rw [hW]; exact ((h.alloc (Nat.le_refl _) _).alloc (by simp) _).alloc (by simp; omega) _
  exact this.more (by omega)
 have b : Below w.heap.size w W := by rw [hW]; exact (((Below.refl _ _).alloc (Nat.le_refl _) _).alloc (by simp) _).alloc (by simp; omega) _
 have L := hid (toInts A n c xs W s hn)
 have HW := hid hW
 clear hW s h
 go_enter Try.func34, Try.ntmps34
 go_wp2_with fail
 rw [← HW.out]
 refine L.out.mono ?_
 rintro e w' ⟨cs, rfl, hr, hs, hc, hz', hb⟩
 replace r1 := r1.next hb
 replace r2 := r2.next hb
 have c1 : w'.cell? ⟨w.heap.size + 1, 0, none⟩ = some (.slice none 0 0) := r1.cell 0
 have c2 : w'.cell? ⟨w.heap.size + 1 + 1, 0, none⟩ = some (.slice none 0 0) := r2.cell 0
 have f1 : w'.frozen? ⟨w.heap.size + 1, 0, none⟩ = false := r1.free 0
 have f2 : w'.frozen? ⟨w.heap.size + 1 + 1, 0, none⟩ = false := r2.free 0
 rw [hz] at hr ⊢
 have B : Below w.heap.size w w' := b.trans (hb.mono (by omega))
 have S : CopySig w n xs (.returned (.agg #[.slice (some ⟨w.heap.size + 1 + 1 + 1, 0, none⟩) n n]))
   ((w'.setCell ⟨w.heap.size + 1 + 1, 0, none⟩ (.slice (some ⟨w.heap.size + 1 + 1 + 1, 0, none⟩) n n)).setCell ⟨w.heap.size + 1, 0, none⟩ (.slice (some ⟨w.heap.size + 1 + 1 + 1, 0, none⟩) n n)) :=
  ⟨_, cs, rfl, by omega, (hr.far (by simp) _).far (by simp; omega) _, hs, hc, (B.setCell (by simp; omega) _).setCell (by simp) _⟩
 have HS := hid S
 clear S hc hr hs hz hz' hb b B r1 r2
 go_wp2
 exact bodyPost_ret (v := .agg #[.slice (some ⟨w.heap.size + 1 + 1 + 1, 0, none⟩) n n]) (by simp [results, Try.results34, go_sem, c1]) rfl HS.out
theorem eqSigYes (A A' : Option Addr) (n c c' : Nat) (xs : List Int) (w : World) (h : Seg w w.heap.size A n xs) (h' : Seg w w.heap.size A' n xs) (hn : n ≤ 1048576) :
  Calls Try.prog 37 #[.agg #[.slice A n c], .agg #[.slice A' n c']] w fun e w' => e = .returned (.bool true) ∧ Below w.heap.size w w' := by
 obtain ⟨W, hW⟩ : ∃ W, W = (w.alloc (.cells #[.slice A n c] 29)).alloc (.cells #[.slice A' n c'] 29) := ⟨_, rfl⟩
 have s : Seg W W.heap.size A n xs := by
  have : Seg W w.heap.size A n xs := by rw [hW]; exact (h.alloc (Nat.le_refl _) _).alloc (by simp) _
  exact this.more (by rw [hW]; simp; omega)
 have s' : Seg W W.heap.size A' n xs := by
  have : Seg W w.heap.size A' n xs := by rw [hW]; exact (h'.alloc (Nat.le_refl _) _).alloc (by simp) _
  exact this.more (by rw [hW]; simp; omega)
 have b : Below w.heap.size w W := by rw [hW]; exact ((Below.refl _ _).alloc (Nat.le_refl _) _).alloc (by simp) _
 have L := hid (eqYes A A' n c c' xs W s s' hn)
 have HW := hid hW
 clear hW s s' h h'
 go_enter Try.func37, Try.ntmps37
 go_wp2_with fail
 rw [← HW.out]
 refine L.out.mono ?_
 rintro e w' ⟨rfl, d, rfl⟩
 replace b := below_drewN b d
 go_wp2
 go_ret
 exact ⟨rfl, b⟩
def arityOk (a : Int) : Bool := decide (0 ≤ a ∧ a ≤ 3)
def sigOkB (xs : List Int) : Bool := decide (1 ≤ xs.length ∧ xs.length ≤ 8) && xs.all arityOk
theorem inYes (x lo hi : Int) (w : World) (h : lo ≤ x ∧ x ≤ hi) : Calls Try.prog 82 #[.int .i64 x, .int .i64 lo, .int .i64 hi] w fun e w' => w = w' ∧ e = .returned (.bool true) := by
 obtain ⟨h1, h2⟩ := h
 go_enter Try.func82, Try.ntmps82
 go_wp2
 go_ret
 exact ⟨rfl, rfl⟩
theorem inNo (x lo hi : Int) (w : World) (h : ¬ (lo ≤ x ∧ x ≤ hi)) : Calls Try.prog 82 #[.int .i64 x, .int .i64 lo, .int .i64 hi] w fun e w' => w = w' ∧ e = .returned (.bool false) := by
 by_cases h1 : lo ≤ x
 ·have h2 : decide (x ≤ hi) = false := by simp; omega
  go_enter Try.func82, Try.ntmps82
  go_wp2
  go_ret
  exact ⟨rfl, rfl⟩
 ·go_enter Try.func82, Try.ntmps82
  go_wp2
  go_ret
  exact ⟨rfl, rfl⟩
def AnsSig (w : World) (xs : List Int) (e : Ending) (w' : World) : Prop := e = .returned (.bool (sigOkB xs)) ∧ Below w.heap.size w w'
theorem sig_len {w w' : World} {xs : List Int} {n : Nat} (hx : xs.length = n) (h : ¬ (1 ≤ n ∧ n ≤ 8)) (hb : Below w.heap.size w w') : AnsSig w xs (.returned (.bool false)) w' :=
 ⟨by unfold sigOkB; rw [decide_eq_false (by omega), Bool.false_and], hb⟩
theorem sig_bad {w w' : World} {xs : List Int} {n k : Nat} {x : Int} (hx : xs.length = n) (hk : k < n) (ex : Hid (xs.getD k 0 = x)) (h : ¬ (0 ≤ x ∧ x ≤ 3)) (hb : Below w.heap.size w w') : AnsSig w xs (.returned (.bool false)) w' := by
 refine ⟨?_, hb⟩
 have hm : x ∈ xs := by
  have := ex.out
  subst hx
  rw [← this]
  simp [List.getD, hk]
 have : xs.all arityOk = false := by
  rw [List.all_eq_false]
  exact ⟨x, hm, by simp [arityOk]; omega⟩
 unfold sigOkB
 rw [this, Bool.and_false]
theorem sig_good {w w' : World} {xs : List Int} {n k : Nat} (hx : xs.length = n) (h : 1 ≤ n ∧ n ≤ 8) (hn : ¬ k < n) (hc : ∀ j, j < k → 0 ≤ xs.getD j 0 ∧ xs.getD j 0 ≤ 3) (hb : Below w.heap.size w w') : AnsSig w xs (.returned (.bool true)) w' := by
 refine ⟨?_, hb⟩
 have : xs.all arityOk = true := by
  rw [List.all_eq_true]
  intro x hxm
  obtain ⟨j, hj, rfl⟩ := List.getElem_of_mem hxm
  have := hc j (by omega)
  simp [List.getD, hj] at this
  simp [arityOk, this]
 unfold sigOkB
 rw [this, Bool.and_true, decide_eq_true (by omega)]
def HeadSig (n : Nat) (xs : List Int) (i : Value) : Prop := ∃ k : Nat, k ≤ n ∧ i = .int .i64 k ∧ ∀ j, j < k → 0 ≤ xs.getD j 0 ∧ xs.getD j 0 ≤ 3
theorem headSig_step {n k : Nat} {xs : List Int} {x : Int} (hk : k < n) (h : ∀ j, j < k → 0 ≤ xs.getD j 0 ∧ xs.getD j 0 ≤ 3) (hx : Hid (xs.getD k 0 = x)) (h0 : 0 ≤ x ∧ x ≤ 3) : HeadSig n xs (.int .i64 ((k : Int) + 1)) :=
 ⟨k + 1, hk, by simp, fun j hj => by
  by_cases e : j = k
  ·subst e; rw [hx.out]; exact h0
  ·exact h j (by omega)⟩
set_option maxHeartbeats 400000 in
theorem specSigOk (A : Option Addr) (n c : Nat) (xs : List Int) (w : World) (h : Seg w w.heap.size A n xs) (hn : n ≤ 1048576) :
  Calls Try.prog 81 #[.agg #[.slice A n c]] w (AnsSig w xs) := by
 have b : Below w.heap.size w (w.alloc (.cells #[.slice A n c] 29)) := (Below.refl _ _).alloc (Nat.le_refl _) _
 by_cases hl : 1 ≤ n ∧ n ≤ 8
 ·go_enter Try.func81, Try.ntmps81
  go_wp2_with fail
  refine (inYes _ _ _ _ (by omega)).mono ?_
  rintro e w' ⟨rfl, rfl⟩
  go_wp2_with fail
  go_loop [3] (fun i => HeadSig n xs i) (fun i => n - (intOf i).toNat)
  case atStart => exact ⟨0, Nat.zero_le _, rfl, fun j h => absurd h (Nat.not_lt_zero _)⟩
  case round =>
   obtain ⟨k, hk, rfl, hc⟩ := hrel
   by_cases hlt : k < n
   ·obtain ⟨g, off, x, rfl, hg, hx, ex⟩ := h.spot hlt
    by_cases hin : 0 ≤ x ∧ x ≤ 3
    ·have S := hid (headSig_step (n := n) hlt hc ex hin)
     have L := hid (fun W => inYes x 0 3 W hin)
     clear hc h ex hin
     go_wp2_with fail
     refine (L.out _).mono ?_
     rintro e w' ⟨rfl, rfl⟩
     go_wp2
     go_round
     case rel => exact S.out
     case measure => simp [intOf]; omega
    ·have S := hid (sig_bad h.1 hlt ex hin b)
     have L := hid (fun W => inNo x 0 3 W hin)
     clear hc h ex hin b
     go_wp2_with fail
     refine (L.out _).mono ?_
     rintro e w' ⟨rfl, rfl⟩
     go_wp2
     go_ret
     exact S.out
   ·have S := hid (sig_good h.1 hl hlt hc b)
    clear hc h b
    go_wp2
    go_ret
    exact S.out
 ·have S := hid (sig_len h.1 hl b)
  clear h b
  go_enter Try.func81, Try.ntmps81
  go_wp2_with fail
  refine (inNo _ _ _ _ (by omega)).mono ?_
  rintro e w' ⟨rfl, rfl⟩
  go_wp2
  go_ret
  exact S.out
set_option maxHeartbeats 400000 in
theorem implSigOk (A : Option Addr) (n c : Nat) (xs : List Int) (w : World) (h : Seg w w.heap.size A n xs) (hn : n ≤ 1048576) :
  Calls Try.prog 83 #[.agg #[.slice A n c]] w (AnsSig w xs) := by
 have b : Below w.heap.size w (w.alloc (.cells #[.slice A n c] 29)) := (Below.refl _ _).alloc (Nat.le_refl _) _
 by_cases hl : 1 ≤ n ∧ n ≤ 8
 ·obtain ⟨hl1, hl2⟩ := hl
  go_enter Try.func83, Try.ntmps83
  go_wp2_with fail
  go_loop [18] (fun i => HeadSig n xs i) (fun i => n - (intOf i).toNat)
  case atStart => exact ⟨0, Nat.zero_le _, rfl, fun j h => absurd h (Nat.not_lt_zero _)⟩
  case round =>
   obtain ⟨k, hk, rfl, hc⟩ := hrel
   by_cases hlt : k < n
   ·obtain ⟨g, off, x, rfl, hg, hx, ex⟩ := h.spot hlt
    by_cases hin : 0 ≤ x ∧ x ≤ 3
    ·have S := hid (headSig_step (n := n) hlt hc ex hin)
     obtain ⟨hin1, hin2⟩ := hin
     clear hc h ex
     go_wp2
     go_round
     case rel => exact S.out
     case measure => simp [intOf]; omega
    ·have S := hid (sig_bad h.1 hlt ex hin b)
     clear hc h ex b
     by_cases hx0 : x < 0
     ·go_wp2
      go_ret
      exact S.out
     ·have hx3 : 3 < x := by omega
      go_wp2
      go_ret
      exact S.out
   ·have S := hid (sig_good h.1 ⟨hl1, hl2⟩ hlt hc b)
    clear hc h b
    go_wp2
    go_ret
    exact S.out
 ·have S := hid (sig_len h.1 hl b)
  clear h b
  by_cases hl1 : n < 1
  ·go_enter Try.func83, Try.ntmps83
   go_wp2
   go_ret
   exact S.out
  ·have hl2 : 8 < n := by omega
   go_enter Try.func83, Try.ntmps83
   go_wp2
   go_ret
   exact S.out
end sig
end
section
namespace term
end term
end
section
namespace arity
open Go.RowKit base ints sig term
end arity
end
section
namespace cursor
open Go.RowKit base ints sig term arity
end cursor
end
section
namespace marks
open Go.RowKit base ints sig cursor
def Own (w : World) (base : Nat) (v : Value) (xs : List Int) : Prop := w.ownsRow base 2 1 v xs.length (xs.map (Value.int .i64))
theorem Own.nil (w : World) (base : Nat) : Own w base (.slice none 0 0) [] := World.ownsRow_nil w base 2 1
theorem Own.form {w : World} {base : Nat} {v : Value} {xs : List Int} (h : Own w base v xs) : (v = .slice none 0 0 ∧ xs = []) ∨
  ∃ g c cur, v = .slice (some ⟨g, 0, none⟩) xs.length c ∧ base ≤ g ∧ Row w g 2 cur ∧ xs.length ≤ cur.size ∧ ∀ j, j < xs.length → cur[j]? = some (.int .i64 (xs.getD j 0)) := by
 obtain ⟨h1, h2⟩ := h
 rcases h2 with ⟨rfl, h0⟩ | ⟨g, cap, cur, rfl, hb, hg, hn, _, hs, ht⟩
 ·exact .inl ⟨rfl, List.eq_nil_of_length_eq_zero h0⟩
 ·refine .inr ⟨g, cap, cur, rfl, hb, hg, by omega, fun j hj => ?_⟩
  have h3 : (cur.toList.take (xs.length * 1))[j]? = (xs.map (Value.int .i64))[j]? := by rw [ht]
  rw [List.getElem?_take, if_pos (by omega)] at h3
  simpa [List.getD, hj] using h3
theorem Own.slice {w : World} {base : Nat} {v : Value} {xs : List Int} (h : Own w base v xs) : ∃ A c, v = .slice A xs.length c := by
 rcases h.form with ⟨rfl, rfl⟩ | ⟨g, c, _, rfl, _⟩
 ·exact ⟨none, 0, rfl⟩
 ·exact ⟨_, c, rfl⟩
theorem Own.seg {w : World} {base : Nat} {A : Option Addr} {n c : Nat} {xs : List Int} (h : Own w base (.slice A n c) xs) : Seg w w.heap.size A n xs := by
 rcases h.form with ⟨e, rfl⟩ | ⟨g, c', cur, e, hb, hr, hs, hc⟩
 ·injection e with e1 e2 e3
  subst e1 e2
  exact Seg.empty
 ·injection e with e1 e2 e3
  subst e1 e2
  exact hr.seg rfl hr.lt hc
theorem Own.next {w w' : World} {base : Nat} {v : Value} {xs : List Int} (h : Own w base v xs) (hb : Below w.heap.size w w') : Own w' base v xs :=
 World.ownsRow.kept h ⟨hb.os, hb.tape, hb.output, hb.size, fun k hk _ => hb.block k hk⟩ (row := none) (by cases v.ownBlock <;> simp)
theorem Own.of_row {w : World} {base g n c : Nat} {cs : Array Value} {xs : List Int} (hr : Row w g 2 cs) (hl : xs.length = n) (hs : cs.size = c) (hn : n ≤ c) (hm : c ≤ 9223372036854775807) (hb : base ≤ g) (hc : ∀ j, j < n → cs[j]? = some (.int .i64 (xs.getD j 0))) : Own w base (.slice (some ⟨g, 0, none⟩) n c) xs := by
 subst hl
 refine ⟨by simp, .inr ⟨g, c, cs, rfl, hb, hr, hn, by unfold maxLen; omega, by omega, ?_⟩⟩
 refine List.ext_getElem? fun j => ?_
 rw [List.getElem?_take]
 by_cases hj : j < xs.length
 ·rw [if_pos (by omega)]
  have := hc j hj
  simp [List.getD, hj] at this ⊢
  exact this
 ·rw [if_neg (by omega)]
  have : (xs.map (Value.int .i64))[j]? = none := List.getElem?_eq_none (by simp; omega)
  rw [this]
def blk (A : Option Addr) : Option Nat := A.map (·.block)
end marks
end
section
namespace app
open Go.RowKit base ints marks
end app
end
section
namespace sym
open Go.RowKit base ints marks app
theorem Own.len {w : World} {base : Nat} {A : Option Addr} {n c : Nat} {xs : List Int} (h : Own w base (.slice A n c) xs) : n = xs.length := by
 obtain ⟨_, _, e⟩ := h.slice
 injection e
end sym
end
section
namespace appAt
open Go.RowKit base ints marks app
set_option maxRecDepth 100000
theorem blk_own (A : Option Addr) (n c : Nat) : (Value.slice A n c).ownBlock = blk A := by cases A <;> rfl
end appAt
end
section
namespace segs
open Go.RowKit base ints marks app sym appAt
set_option maxRecDepth 100000
def Cap (A : Option Addr) (n c : Nat) : Prop := n ≤ c ∧ c ≤ 9223372036854775807 ∧ (A = none → c = 0)
def Segs (w : World) (B : Nat) (A : Option Addr) (n : Nat) (xss : List (List Int)) : Prop :=
 xss.length = n ∧ (0 < n → ∃ b off, A = some ⟨b, off, none⟩ ∧ b < B ∧ ∀ j, j < n → ∃ A' n' c', w.cell? ⟨b, off + j, none⟩ = some (.slice A' n' c') ∧ Seg w B A' n' (xss.getD j []) ∧ Cap A' n' c')
section
variable {w w' : World} {B B' n : Nat} {A : Option Addr} {xss : List (List Int)}
theorem Segs.spot (h : Segs w B A n xss) {k : Nat} (hk : k < n) : ∃ b off A' n' c', A = some ⟨b, off, none⟩ ∧ b < B ∧ w.cell? ⟨b, off + k, none⟩ = some (.slice A' n' c') ∧ Seg w B A' n' (xss.getD k []) ∧ Cap A' n' c' := by
 obtain ⟨b, off, e, hb, hc⟩ := h.2 (by omega)
 obtain ⟨A', n', c', h1, h2, h3⟩ := hc k hk
 exact ⟨b, off, A', n', c', e, hb, h1, h2, h3⟩
end
def Inn (w : World) (lo hi : Nat) (v : Value) (xs : List Int) : Prop := ∃ A c, v = .slice A xs.length c ∧ Own w lo v xs ∧ ∀ k, blk A = some k → k < hi
def Apart (n : Nat) (vs : List Value) : Prop := ∀ i j k, i < j → j < n → (vs.getD i undef).ownBlock = some k → (vs.getD j undef).ownBlock ≠ some k
structure Owns (w : World) (lo hi : Nat) (A : Option Addr) (n c : Nat) (xss : List (List Int)) : Prop where
 len : xss.length = n
 row : ∃ vs : List Value, w.ownsRow lo 27 1 (.slice A n c) n vs ∧ (∀ j, j < n → Inn w lo hi (vs.getD j undef) (xss.getD j [])) ∧ Apart n vs
 top : ∀ k, blk A = some k → k < hi
section
variable {w w' : World} {lo hi n c : Nat} {A : Option Addr} {xss : List (List Int)}
theorem own_form {base n c : Nat} {A : Option Addr} {vs : List Value} {t : TypeId} (h : w.ownsRow base t 1 (.slice A n c) n vs) : (A = none ∧ n = 0 ∧ c = 0 ∧ vs = []) ∨
  ∃ g cur, A = some ⟨g, 0, none⟩ ∧ base ≤ g ∧ Row w g t cur ∧ n ≤ c ∧ cur.size = c ∧ c ≤ 9223372036854775807 ∧ vs.length = n ∧ ∀ j, j < n → cur[j]? = some (vs.getD j undef) := by
 have hl : vs.length = n := by have := h.1; omega
 obtain ⟨h1, h2⟩ := h
 rcases h2 with ⟨e, h0⟩ | ⟨g, cap, cur, e, hb, hg, hn, hm, hs, ht⟩
 ·have e1 := (Value.slice.inj e)
  obtain ⟨rfl, rfl, rfl⟩ := e1
  exact .inl ⟨rfl, rfl, rfl, List.eq_nil_of_length_eq_zero hl⟩
 ·have e1 := (Value.slice.inj e)
  obtain ⟨rfl, -, rfl⟩ := e1
  refine .inr ⟨g, cur, rfl, hb, hg, hn, by omega, by unfold maxLen at hm; omega, hl, fun j hj => ?_⟩
  have h3 : (cur.toList.take (n * 1))[j]? = vs[j]? := by rw [ht]
  rw [List.getElem?_take, if_pos (by omega)] at h3
  rw [← Array.getElem?_toList, h3]
  simp [List.getD, show j < vs.length by omega]
theorem Inn.blk {v : Value} {xs : List Int} (h : Inn w lo hi v xs) : ∀ k, v.ownBlock = some k → lo ≤ k ∧ k < hi ∧ k < w.heap.size := fun k hk => by
 obtain ⟨A, c, rfl, ho, ht⟩ := h
 have h1 := World.ownsRow.lt ho k hk
 rw [blk_own] at hk
 exact ⟨h1.1, ht k hk, h1.2⟩
theorem Inn.cap {v : Value} {xs : List Int} (h : Inn w lo hi v xs) : ∃ A c, v = .slice A xs.length c ∧ Own w lo v xs ∧ Cap A xs.length c := by
 obtain ⟨A, c, rfl, ho, ht⟩ := h
 refine ⟨A, c, rfl, ho, ?_⟩
 rcases own_form (n := xs.length) (vs := xs.map (Value.int .i64)) ho with ⟨rfl, h1, rfl, _⟩ | ⟨g, cur, rfl, _, _, h1, h2, h3, _⟩
 ·exact ⟨by omega, by omega, fun _ => rfl⟩
 ·exact ⟨h1, h3, fun e => by cases e⟩
theorem Owns.cap (h : Owns w lo hi A n c xss) : Cap A n c := by
 obtain ⟨vs, hr, _⟩ := h.row
 rcases own_form hr with ⟨rfl, h1, rfl, _⟩ | ⟨g, cur, rfl, _, _, h1, h2, h3, _⟩
 ·exact ⟨by omega, by omega, fun _ => rfl⟩
 ·exact ⟨h1, h3, fun e => by cases e⟩
theorem Owns.nil (w : World) (lo hi : Nat) : Owns w lo hi none 0 0 [] :=
 ⟨rfl, ⟨[], World.ownsRow_nil w lo 27 1, fun j hj => absurd hj (Nat.not_lt_zero _), fun i j k _ hj => absurd hj (Nat.not_lt_zero _)⟩, fun k hk => by cases hk⟩
end
end segs
end
section
namespace segsHelp
open Go.RowKit base ints sig cursor marks app sym appAt segs
set_option maxRecDepth 100000
end segsHelp
end
section
namespace segsMark
open Go.RowKit base ints sig cursor marks app sym appAt segs segsHelp
set_option maxRecDepth 100000
end segsMark
end
section
namespace kinds
open Go.RowKit base ints sig cursor marks app sym appAt segs segsHelp segsMark
set_option maxRecDepth 100000
def Ownd (w : World) (lo hi : Nat) (A : Option Addr) (n c : Nat) (xs : List Int) : Prop := Own w lo (.slice A n c) xs ∧ ∀ k, blk A = some k → k < hi
section
variable {w w' : World} {lo hi n c : Nat} {A : Option Addr} {xs : List Int}
theorem Ownd.rd (h : Ownd w lo hi A n c xs) : Seg w w.heap.size A n xs := Own.seg h.1
theorem Ownd.next (h : Ownd w lo hi A n c xs) (hb : Below w.heap.size w w') : Ownd w' lo hi A n c xs := ⟨h.1.next hb, h.2⟩
theorem Ownd.drew (h : Ownd w lo hi A n c xs) : Ownd w.drew lo hi A n c xs := h
theorem Ownd.of_own (h : Own w lo (.slice A n c) xs) : Ownd w lo w.heap.size A n c xs := ⟨h, fun k hk => (World.ownsRow.lt h k (by rw [blk_own]; exact hk)).2⟩
theorem Ownd.cap (h : Ownd w lo hi A n c xs) : Cap A n c := by
 have hl := Own.len h.1
 rcases own_form (n := n) (vs := xs.map (Value.int .i64)) (by rw [hl]; have := h.1; rw [hl] at this; exact this) with ⟨rfl, h1, rfl, _⟩ | ⟨g, cur, rfl, _, _, h1, h2, h3, _⟩
 ·exact ⟨by omega, by omega, fun _ => rfl⟩
 ·exact ⟨h1, h3, fun e => by cases e⟩
theorem drew_below (w : World) : Below w.heap.size w w.drew := ⟨rfl, rfl, rfl, Nat.le_refl _, fun _ _ => rfl⟩
theorem drewN_below (w : World) (d : Nat) : Below w.heap.size w (w.drewN d) := ⟨rfl, rfl, rfl, Nat.le_refl _, fun _ _ => rfl⟩
end
def CopyInts (w : World) (n : Nat) (xs : List Int) (e : Ending) (w' : World) : Prop := ∃ g, e = .returned (.slice (some ⟨g, 0, none⟩) n n) ∧ Ownd w' w.heap.size w'.heap.size (some ⟨g, 0, none⟩) n n xs ∧ w.heap.size < w'.heap.size ∧ Below w.heap.size w w'
theorem intsTo (A : Option Addr) (n c : Nat) (xs : List Int) (w : World) (h : Seg w w.heap.size A n xs) (hn : n ≤ 1048576) :
  Calls Try.prog 35 #[.slice A n c] w (CopyInts w n xs) :=
 (toInts A n c xs w h hn).mono fun _ _ ⟨cs, he, hr, hs, hc, hz, hb⟩ => ⟨w.heap.size, he, Ownd.of_own (Own.of_row hr h.1 hs (Nat.le_refl _) (by omega) (Nat.le_refl _) hc), by omega, hb⟩
theorem intsEq (A A' : Option Addr) (n n' c c' : Nat) (xs : List Int) (w : World) (h : Seg w w.heap.size A n xs) (h' : Seg w w.heap.size A' n' xs) (hn : n ≤ 1048576) :
  Calls Try.prog 38 #[.slice A n c, .slice A' n' c'] w fun e w' => e = .returned (.bool true) ∧ Below w.heap.size w w' := by
 obtain rfl : n = n' := by rw [← h.1, ← h'.1]
 exact (eqYes A A' n c c' xs w h h' hn).mono fun _ _ ⟨he, d, hd⟩ => ⟨he, by rw [hd]; exact drewN_below _ _⟩
def CopySigK (w : World) (n : Nat) (xs : List Int) (e : Ending) (w' : World) : Prop := ∃ g, e = .returned (.agg #[.slice (some ⟨g, 0, none⟩) n n]) ∧ Ownd w' w.heap.size w'.heap.size (some ⟨g, 0, none⟩) n n xs ∧ w.heap.size < w'.heap.size ∧ Below w.heap.size w w'
theorem sigTo (A : Option Addr) (n c : Nat) (xs : List Int) (w : World) (h : Seg w w.heap.size A n xs) (hn : n ≤ 1048576) :
  Calls Try.prog 34 #[.agg #[.slice A n c]] w (CopySigK w n xs) :=
 (toSig A n c xs w h hn).mono fun _ _ ⟨g, cs, he, hg, hr, hs, hc, hb⟩ => ⟨g, he, Ownd.of_own (Own.of_row hr h.1 hs (Nat.le_refl _) (by omega) hg hc), Nat.lt_of_le_of_lt hg hr.lt, hb⟩
theorem sigEq (A A' : Option Addr) (n n' c c' : Nat) (xs : List Int) (w : World) (h : Seg w w.heap.size A n xs) (h' : Seg w w.heap.size A' n' xs) (hn : n ≤ 1048576) :
  Calls Try.prog 37 #[.agg #[.slice A n c], .agg #[.slice A' n' c']] w fun e w' => e = .returned (.bool true) ∧ Below w.heap.size w w' := by
 obtain rfl : n = n' := by rw [← h.1, ← h'.1]
 exact eqSigYes A A' n c c' xs w h h' hn
end kinds
end
section
namespace rankMath
theorem perm_of {α : Type} [BEq α] [LawfulBEq α] : ∀ {a b : List α}, a.Nodup → (∀ x ∈ a, x ∈ b) → b.length ≤ a.length → a.Perm b
 | [], b, _, _, h => by
  cases b with
  | nil => exact .nil
  | cons x r => simp at h
 | x :: r, b, hn, hs, h => by
  have hx := hs x (List.mem_cons_self ..)
  have h1 := List.perm_cons_erase hx
  have h2 : r.Perm (b.erase x) := perm_of (List.nodup_cons.1 hn).2 (fun y hy => by
   have hne : y ≠ x := fun e => (List.nodup_cons.1 hn).1 (e ▸ hy)
   exact (List.mem_erase_of_ne hne).2 (hs y (List.mem_cons_of_mem _ hy))) (by
   rw [List.length_erase_of_mem hx]
   simp at h
   omega)
  exact (h2.cons x).trans h1.symm
def upI (n : Nat) : List Int := (List.range n).map fun k : Nat => (k : Int)
theorem up_mem {n : Nat} {x : Int} : x ∈ upI n ↔ 0 ≤ x ∧ x < n := by
 unfold upI
 rw [List.mem_map]
 constructor
 ·rintro ⟨k, hk, rfl⟩
  rw [List.mem_range] at hk
  omega
 ·rintro ⟨h0, h1⟩
  exact ⟨x.toNat, List.mem_range.2 (by omega), by omega⟩
theorem up_nodup (n : Nat) : (upI n).Nodup := by
 unfold upI
 rw [List.Nodup, List.pairwise_map]
 exact (List.nodup_range (n := n)).imp fun h e => h (by omega)
theorem up_len (n : Nat) : (upI n).length = n := by unfold upI; rw [List.length_map, List.length_range]
theorem all_there {l : List Int} : ((∀ x ∈ l, 0 ≤ x ∧ x < (l.length : Int)) ∧ l.Nodup) ↔ ∀ k : Nat, k < l.length → (k : Int) ∈ l := by
 constructor
 ·rintro ⟨h1, h2⟩ k hk
  have := perm_of h2 (fun x hx => up_mem.2 (h1 x hx)) (by rw [up_len]; exact Nat.le_refl _)
  exact this.mem_iff.2 (up_mem.2 ⟨by omega, by omega⟩)
 ·intro h
  have := perm_of (up_nodup l.length) (fun x hx => by
   obtain ⟨h0, h1⟩ := up_mem.1 hx
   have := h x.toNat (by omega)
   rwa [show ((x.toNat : Nat) : Int) = x by omega] at this) (by rw [up_len]; exact Nat.le_refl _)
  exact ⟨fun x hx => up_mem.1 (this.mem_iff.2 hx), this.nodup_iff.1 (up_nodup _)⟩
def rankB (n : Nat) (l : List Int) : Bool := decide (l.length = n) && (List.range l.length).all fun k => decide ((k : Int) ∈ l)
theorem rank_len {n : Nat} {l : List Int} (h : l.length ≠ n) : rankB n l = false := by unfold rankB; rw [decide_eq_false h]; rfl
theorem rank_miss {n k : Nat} {l : List Int} (hk : k < l.length) (h : (k : Int) ∉ l) : rankB n l = false := by
 unfold rankB
 rw [Bool.and_eq_false_iff]
 right
 rw [Bool.eq_false_iff]
 intro h2
 exact h (by simpa using (List.all_eq_true.1 h2) k (List.mem_range.2 hk))
theorem rank_yes {n : Nat} {l : List Int} (h : l.length = n) (h2 : ∀ k : Nat, k < l.length → (k : Int) ∈ l) : rankB n l = true := by
 unfold rankB
 rw [decide_eq_true h, Bool.true_and, List.all_eq_true]
 intro k hk
 exact decide_eq_true (h2 k (List.mem_range.1 hk))
theorem rank_parts {n : Nat} {l : List Int} (h : rankB n l = true) : l.length = n ∧ (∀ k : Nat, k < l.length → (k : Int) ∈ l) := by
 unfold rankB at h
 rw [Bool.and_eq_true, decide_eq_true_iff, List.all_eq_true] at h
 exact ⟨h.1, fun k hk => by simpa using h.2 k (List.mem_range.2 hk)⟩
theorem rank_out {n i : Nat} {l : List Int} (hi : i < l.length) (h : ¬ (0 ≤ l.getD i 0 ∧ l.getD i 0 ≤ (l.length : Int) - 1)) : rankB n l = false := by
 cases hr : rankB n l with
 | false => rfl
 | true =>
  have := (all_there.2 (rank_parts hr).2).1 (l.getD i 0) (by rw [List.getD_eq_getElem?_getD, List.getElem?_eq_getElem hi]; exact List.getElem_mem hi)
  omega
theorem rank_twice {n i k : Nat} {l : List Int} (hi : i < l.length) (hk : k < i) (h : l.getD k 0 = l.getD i 0) : rankB n l = false := by
 cases hr : rankB n l with
 | false => rfl
 | true =>
  have := (all_there.2 (rank_parts hr).2).2
  rw [List.Nodup, List.pairwise_iff_getElem] at this
  refine absurd ?_ (this k i (by omega) hi hk)
  rw [List.getD_eq_getElem?_getD, List.getD_eq_getElem?_getD, List.getElem?_eq_getElem hi, List.getElem?_eq_getElem (by omega : k < l.length)] at h
  exact h
theorem rank_spec {n : Nat} {l : List Int} (h : l.length = n) (h1 : ∀ i, i < l.length → 0 ≤ l.getD i 0 ∧ l.getD i 0 ≤ (l.length : Int) - 1) (h2 : ∀ i k, i < l.length → k < i → ¬ l.getD k 0 = l.getD i 0) : rankB n l = true := by
 refine rank_yes h (all_there.1 ⟨fun x hx => ?_, ?_⟩)
 ·obtain ⟨i, hi, rfl⟩ := List.getElem_of_mem hx
  have := h1 i hi
  rw [List.getD_eq_getElem?_getD, List.getElem?_eq_getElem hi] at this
  simp at this
  omega
 ·rw [List.Nodup, List.pairwise_iff_getElem]
  intro i j hi hj hij e
  refine h2 j i hj hij ?_
  rw [List.getD_eq_getElem?_getD, List.getD_eq_getElem?_getD, List.getElem?_eq_getElem hi, List.getElem?_eq_getElem hj]
  exact e
end rankMath
end
section
namespace shape
open Go.RowKit base ints sig cursor marks app sym appAt segs segsHelp segsMark kinds
inductive Sh where
 | num : Sh
 | bit : Sh
 | row : TypeId → Sh → Sh
 | cat : Sh → Sh → Sh
@[reducible] def Dat : Sh → Type
 | .num => Int
 | .bit => Bool
 | .row _ s => List (Dat s)
 | .cat a b => Dat a × Dat b
def nc : Sh → Nat
 | .num => 1
 | .bit => 1
 | .row _ _ => 1
 | .cat a b => nc a + nc b
def dft : (s : Sh) → Dat s
 | .num => (0 : Int)
 | .bit => false
 | .row _ _ => []
 | .cat a b => (dft a, dft b)
def Piece (w : World) (b off : Nat) (es : List Value) : Prop := ∀ i, i < es.length → w.cell? ⟨b, off + i, none⟩ = es[i]?
def Rd (w : World) (B : Nat) : (s : Sh) → List Value → Dat s → Prop
 | .num, cs, (x : Int) => cs = [.int .i64 x]
 | .bit, cs, (x : Bool) => cs = [.bool x]
 | .row _ s, cs, (d : List (Dat s)) => ∃ A n c, cs = [.slice A n c] ∧ Cap A n c ∧ d.length = n ∧
   (0 < n → ∃ b off, A = some ⟨b, off, none⟩ ∧ b < B ∧ ∀ j, j < n → ∃ es, es.length = nc s ∧ Piece w b (off + j * nc s) es ∧ Rd w B s es (d.getD j (dft s)))
 | .cat a b, cs, d => ∃ ca cb, cs = ca ++ cb ∧ Rd w B a ca d.1 ∧ Rd w B b cb d.2
def Ow (w : World) : (s : Sh) → List Value → Dat s → List Nat → Prop
 | .num, cs, (x : Int), F => cs = [.int .i64 x] ∧ F = []
 | .bit, cs, (x : Bool), F => cs = [.bool x] ∧ F = []
 | .row e s, cs, (d : List (Dat s)), F => ∃ A n c, cs = [.slice A n c] ∧ d.length = n ∧
   ((A = none ∧ n = 0 ∧ c = 0 ∧ F = []) ∨ ∃ (g : Nat) (cur : Array Value) (E : Nat → List Value) (G : Nat → List Nat), A = some ⟨g, 0, none⟩ ∧ Row w g e cur ∧ n ≤ c ∧ c ≤ 9223372036854775807 ∧ cur.size = c * nc s ∧
    F = g :: (List.range n).flatMap G ∧ ∀ j, j < n → (E j).length = nc s ∧ (∀ i, i < nc s → cur[j * nc s + i]? = (E j)[i]?) ∧ Ow w s (E j) (d.getD j (dft s)) (G j))
 | .cat a b, cs, d, F => ∃ ca cb Fa Fb, cs = ca ++ cb ∧ F = Fa ++ Fb ∧ Ow w a ca d.1 Fa ∧ Ow w b cb d.2 Fb
section
variable {w w' : World} {B B' : Nat}
theorem Rd.len : ∀ {s : Sh} {cs : List Value} {d : Dat s}, Rd w B s cs d → cs.length = nc s
 | .num, _, _, h => by have h : _ = _ := h; rw [h]; rfl
 | .bit, _, _, h => by have h : _ = _ := h; rw [h]; rfl
 | .row _ _, _, _, h => by obtain ⟨A, n, c, e, _⟩ := h; rw [e]; rfl
 | .cat a b, _, _, h => by
  obtain ⟨ca, cb, e, h1, h2⟩ := h
  rw [e, List.length_append, h1.len, h2.len]; rfl
theorem Ow.len : ∀ {s : Sh} {cs : List Value} {d : Dat s} {F : List Nat}, Ow w s cs d F → cs.length = nc s
 | .num, _, _, _, h => by obtain ⟨e, _⟩ := h; rw [e]; rfl
 | .bit, _, _, _, h => by obtain ⟨e, _⟩ := h; rw [e]; rfl
 | .row _ _, _, _, _, h => by obtain ⟨A, n, c, e, _⟩ := h; rw [e]; rfl
 | .cat a b, _, _, _, h => by
  obtain ⟨ca, cb, Fa, Fb, e, _, h1, h2⟩ := h
  rw [e, List.length_append, h1.len, h2.len]; rfl
def Owned (w : World) (lo hi : Nat) (s : Sh) (cs : List Value) (d : Dat s) : Prop := ∃ F, Ow w s cs d F ∧ F.Nodup ∧ ∀ k ∈ F, lo ≤ k ∧ k < hi
variable {lo hi : Nat} {s : Sh} {cs : List Value} {d : Dat s}
theorem Owned.cat {mid mid' : Nat} {a b : Sh} {ca cb : List Value} {da : Dat a} {db : Dat b} (h1 : Owned w lo mid a ca da) (h2 : Owned w mid' hi b cb db) (hm : mid ≤ mid') (hl : lo ≤ mid') (hh : mid ≤ hi) : Owned w lo hi (.cat a b) (ca ++ cb) (da, db) := by
 obtain ⟨F, h1, n1, b1⟩ := h1
 obtain ⟨G, h2, n2, b2⟩ := h2
 refine ⟨F ++ G, ⟨ca, cb, F, G, rfl, rfl, h1, h2⟩, List.nodup_append.2 ⟨n1, n2, fun x hx y hy e => ?_⟩, fun k hk => ?_⟩
 ·have := b1 x hx; have := b2 y hy; omega
 ·rcases List.mem_append.1 hk with hk | hk
  ·have := b1 k hk; omega
  ·have := b2 k hk; omega
end
abbrev sI : Sh := .row 2 .num
section
variable {w w' : World} {B : Nat}
end
end shape
end
section
namespace shape
open Go.RowKit base ints sig cursor marks app sym appAt segs segsHelp segsMark kinds
section
variable {w w' w2 : World} {B : Nat} {s : Sh} {e : TypeId} {v : Value} {F G : List Nat}
end
section
variable {s : Sh} {e : TypeId}
end
theorem Rd.split {w : World} {B : Nat} {a b : Sh} {ca cb : List Value} {d : Dat (.cat a b)} (h : Rd w B (.cat a b) (ca ++ cb) d) (hl : ca.length = nc a) : Rd w B a ca d.1 ∧ Rd w B b cb d.2 := by
 obtain ⟨ca', cb', e, h1, h2⟩ := h
 obtain ⟨rfl, rfl⟩ := List.append_inj e (by rw [hl, h1.len])
 exact ⟨h1, h2⟩
theorem Ow.split {w : World} {a b : Sh} {ca cb : List Value} {d : Dat (.cat a b)} {F : List Nat} (h : Ow w (.cat a b) (ca ++ cb) d F) (hl : ca.length = nc a) : ∃ Fa Fb, F = Fa ++ Fb ∧ Ow w a ca d.1 Fa ∧ Ow w b cb d.2 Fb := by
 obtain ⟨ca', cb', Fa, Fb, e, e2, h1, h2⟩ := h
 obtain ⟨rfl, rfl⟩ := List.append_inj e (by rw [hl, h1.len])
 exact ⟨Fa, Fb, e2, h1, h2⟩
section
variable {s : Sh} {e : TypeId}
end
section
variable {w wr w1 : World} {tL tI : TypeId} {cs zs part : Array Value}
end
end shape
end
section
namespace kindsR
open Go.RowKit base ints sig cursor marks app sym appAt segs segsHelp segsMark kinds shape
set_option maxRecDepth 100000
abbrev sSig : Sh := sI
def CopySig (w : World) (d : Dat sSig) (e : Ending) (w' : World) : Prop := ∃ A0 n0 c0, e = .returned (.agg #[.slice A0 n0 c0]) ∧ Owned w' w.heap.size w'.heap.size sSig [.slice A0 n0 c0] d ∧ Below w.heap.size w w'
end kindsR
end
section
namespace endOf
open Go.RowKit base ints sig term arity
end endOf
end
section
namespace termOk
open Go.RowKit base ints sig term arity endOf cursor
end termOk
end
section
namespace varsMath
open term termOk
end varsMath
end
section
namespace term
end term
end
section
namespace termFacts
open sig term termOk
end termFacts
end
section
namespace sub
open Go.RowKit base ints marks app sym
end sub
end
section
namespace varsOf
open Go.RowKit base ints sig term termOk marks app sym sub segs varsMath termFacts
set_option maxRecDepth 100000
end varsOf
end
section
namespace varsOf
open Go.RowKit base
end varsOf
end
section
namespace varsOf
open Go.RowKit base ints sig term termOk marks app sym sub segs varsMath termFacts
set_option maxRecDepth 100000
end varsOf
end
section
namespace count
open Go.RowKit base ints sig term termOk
end count
end
section
namespace linear
open Go.RowKit base ints sig term termOk marks sym count varsMath termFacts varsOf
set_option maxRecDepth 100000
end linear
end
section
namespace fillMath
open sig term termOk termFacts varsMath
end fillMath
end
section
namespace renMath
open sig term termOk termFacts varsMath fillMath
def idx : List Int → Int → Nat
 | [], _ => 0
 | y :: r, x => if y = x then 0 else idx r x + 1
theorem idx_first : ∀ {o : List Int} {x : Int} {k : Nat}, k < o.length → (∀ j, j < k → o.getD j 0 ≠ x) → o.getD k 0 = x → idx o x = k
 | y :: r, x, 0, _, _, h => by
  have h : y = x := by simpa using h
  rw [idx, if_pos h]
 | y :: r, x, k + 1, hk, hl, h => by
  have h0 : ¬ y = x := by simpa using hl 0 (by omega)
  rw [idx, if_neg h0, idx_first (k := k) (by simpa using hk) (fun j hj => by simpa using hl (j + 1) (by omega)) (by simpa using h)]
end renMath
end
section
namespace ruleMath
open sig term termOk termFacts varsMath count linear renMath
abbrev Rl := List Int × List Int
def hd (t : List Int) : Int := t.getD 0 0
theorem lists_eq {rs rs' : List Rl} (hl : rs.length = rs'.length) (h : ∀ j, j < rs.length → rs.getD j ([], []) = rs'.getD j ([], [])) : rs = rs' :=
 List.ext_getElem hl fun j h1 h2 => by
  have := h j h1
  simpa [List.getD, h1, h2] using this
end ruleMath
end
section
open Go.Lib (hid)
namespace rename
open Go.RowKit base ints sig term termOk marks app sym segs termFacts varsMath varsOf renMath
set_option maxRecDepth 100000
theorem mem_of_get {t : List Int} {k : Nat} {x : Int} (hk : k < t.length) (hx : t.getD k 0 = x) : x ∈ t := by
 rw [← hx]
 simp [List.getD, hk]
theorem not_mem_of {t : List Int} {x : Int} (h : ∀ j, j < t.length → t.getD j 0 ≠ x) : x ∉ t := fun hx => by
 obtain ⟨j, hj, e⟩ := List.getElem_of_mem hx
 exact h j hj (by simp [List.getD, hj, e])
def HeadNo (n : Nat) (xs : List Int) (x : Int) (i : Value) : Prop := ∃ k : Nat, k ≤ n ∧ i = .int .i64 k ∧ ∀ j, j < k → xs.getD j 0 ≠ x
theorem headNo_step {n k : Nat} {xs : List Int} {x y : Int} (hk : k < n) (h : ∀ j, j < k → xs.getD j 0 ≠ x) (hy : Hid (xs.getD k 0 = y)) (hne : ¬ y = x) : HeadNo n xs x (.int .i64 ((k : Int) + 1)) :=
 ⟨k + 1, hk, by simp, fun j hj => by
  by_cases e : j = k
  ·subst e; rw [hy.out]; exact hne
  ·exact h j (by omega)⟩
set_option maxHeartbeats 1000000 in
theorem l1Has (A : Option Addr) (n c : Nat) (xs : List Int) (x : Int) (w : World) (h : Seg w w.heap.size A n xs) (hn : n ≤ 1048576) :
  Calls Try.prog 139 #[.slice A n c, .int .i64 x] w fun e w' => w = w' ∧ e = .returned (.bool (decide (x ∈ xs))) := by
 have HX := hid h.1
 go_enter Try.func139, Try.ntmps139
 go_wp2
 go_loop [5] (fun i => HeadNo n xs x i) (fun i => n - (intOf i).toNat)
 case atStart => exact ⟨0, Nat.zero_le _, rfl, fun j hj => absurd hj (Nat.not_lt_zero _)⟩
 case round =>
  obtain ⟨k, hk, rfl, hlow⟩ := hrel
  by_cases hlt : k < n
  ·obtain ⟨b, off, y, rfl, -, hy, ey⟩ := h.spot hlt
   by_cases he : y = x
   ·subst he
    have F := hid (show y ∈ xs from mem_of_get (by rw [HX.out]; exact hlt) ey.out)
    have e1 : (y == y) = true := by simp
    clear h ey hlow
    go_wp2
    go_ret
    exact ⟨rfl, by rw [decide_eq_true F.out]; rfl⟩
   ·have S := hid (headNo_step hlt hlow ey he)
    have e1 : (y == x) = false := by simp [he]
    clear h ey hlow
    go_wp2
    go_round
    case rel => exact S.out
    case measure => simp [intOf]; omega
  ·have F := hid (not_mem_of (t := xs) (x := x) (fun j hj => hlow j (by rw [HX.out] at hj; omega)))
   clear h hlow
   go_wp2
   go_ret
   exact ⟨rfl, by rw [decide_eq_false F.out]; rfl⟩
def indexI (xs : List Int) (x : Int) : Int := if x ∈ xs then (idx xs x : Int) else -1
set_option maxHeartbeats 1000000 in
theorem indexOf (A : Option Addr) (n c : Nat) (xs : List Int) (x : Int) (w : World) (h : Seg w w.heap.size A n xs) (hn : n ≤ 1048576) :
  Calls Try.prog 119 #[.slice A n c, .int .i64 x] w fun e w' => w = w' ∧ e = .returned (.int .i64 (indexI xs x)) := by
 have HX := hid h.1
 go_enter Try.func119, Try.ntmps119
 go_wp2
 go_loop [8] (fun i => HeadNo n xs x i) (fun i => n - (intOf i).toNat)
 case atStart => exact ⟨0, Nat.zero_le _, rfl, fun j hj => absurd hj (Nat.not_lt_zero _)⟩
 case round =>
  obtain ⟨k, hk, rfl, hlow⟩ := hrel
  by_cases hlt : k < n
  ·obtain ⟨b, off, y, rfl, -, hy, ey⟩ := h.spot hlt
   by_cases he : y = x
   ·subst he
    have F := hid (show indexI xs y = (k : Int) by
     have hkl : k < xs.length := by rw [HX.out]; exact hlt
     unfold indexI
     rw [if_pos (mem_of_get hkl ey.out), idx_first hkl hlow ey.out])
    have e1 : (y == y) = true := by simp
    clear h ey hlow
    go_wp2
    go_ret
    exact ⟨rfl, by rw [F.out]; rfl⟩
   ·have S := hid (headNo_step hlt hlow ey he)
    have e1 : (x == y) = false := by simp; exact fun e => he e.symm
    clear h ey hlow
    go_wp2
    go_round
    case rel => exact S.out
    case measure => simp [intOf]; omega
  ·have F := hid (show indexI xs x = -1 by unfold indexI; rw [if_neg (not_mem_of (fun j hj => hlow j (by rw [HX.out] at hj; omega)))])
   clear h hlow
   go_wp2
   go_ret
   exact ⟨rfl, by rw [F.out]; rfl⟩
end rename
end
section
namespace same
open Go.RowKit base ints
end same
end
section
namespace ruleSpec
open Go.RowKit renMath base ints sig term termOk marks app sym segs termFacts varsMath varsOf rename same count linear shape kindsR ruleMath
set_option maxRecDepth 100000
theorem box1 (w : World) (t : TypeId) (cs : Array Value) : ∃ W, W = w.alloc (.cells cs t) ∧ Row W w.heap.size t cs ∧ Below w.heap.size w W :=
 ⟨_, rfl, Row.new _ _ _, (Below.refl _ _).alloc (Nat.le_refl _) _⟩
end ruleSpec
end
section
namespace anyR
open Go.RowKit base ints sig segs varsOf shape kindsR ruleMath
set_option maxRecDepth 100000
end anyR
end
section
namespace ruleImpl
open Go.RowKit base ints sig term termOk marks app sym segs termFacts varsMath varsOf rename same count linear shape kindsR ruleMath ruleSpec anyR
set_option maxRecDepth 100000
theorem containsI (A : Option Addr) (n c : Nat) (xs : List Int) (x : Int) (w : World) (h : Seg w w.heap.size A n xs) (hn : n ≤ 1048576) :
  Calls Try.prog 84 #[.slice A n c, .int .i64 x] w fun e w' => w = w' ∧ e = .returned (.bool (decide (x ∈ xs))) := by
 have L := Lib.hid (indexOf A n c xs x w h hn)
 clear h
 go_enter Try.func84, Try.ntmps84
 go_wp2_with fail
 refine L.out.mono ?_
 rintro e w' ⟨rfl, rfl⟩
 have E : decide (0 ≤ indexI xs x) = decide (x ∈ xs) := decide_eq_decide.2 (by unfold indexI; split <;> simp_all)
 have HE := Lib.hid E
 clear L E
 generalize indexI xs x = z at *
 go_wp2
 go_ret
 exact ⟨rfl, by rw [← HE.out]; rfl⟩
end ruleImpl
end
section
open Go.Lib (hid)
namespace rankSpec
open Go.RowKit base ints sig term rankMath shape kindsR ruleMath ruleSpec ruleImpl
set_option maxRecDepth 100000
def precB (sg rk : List Int) : Bool := sigOkB sg && rankB sg.length rk
theorem prec_sig {sg rk : List Int} (h : sigOkB sg = false) : precB sg rk = false := by unfold precB; rw [h]; rfl
theorem prec_rank {sg rk : List Int} (h : rankB sg.length rk = false) : precB sg rk = false := by unfold precB; rw [h, Bool.and_false]
theorem prec_yes {sg rk : List Int} (h : sigOkB sg = true) (h2 : rankB sg.length rk = true) : precB sg rk = true := by unfold precB; rw [h, h2]; rfl
def AnsRank (w : World) (sg rk : List Int) (e : Ending) (w' : World) : Prop := e = .returned (.bool (precB sg rk)) ∧ Below w.heap.size w w'
set_option maxHeartbeats 4000000 in
theorem specRankOk (A A' : Option Addr) (n c m c' : Nat) (sg rk : List Int) (w : World) (h : Seg w w.heap.size A n sg) (h' : Seg w w.heap.size A' m rk) (hn : n ≤ 1048576) (hm : m ≤ 1048576) :
  Calls Try.prog 33 #[.agg #[.slice A n c], .slice A' m c'] w (AnsRank w sg rk) := by
 have HL := hid (And.intro h.1 h'.1)
 obtain ⟨W, hW, rA, bel⟩ := box1 w 29 #[.slice A n c]
 have k0 : W.cell? ⟨w.heap.size, 0, none⟩ = some (.slice A n c) := rA.cell 0
 rw [hW] at k0
 have HW := hid hW
 have L1 := hid (specSigOk A n c sg W ((h.below bel).more bel.size) hn)
 have SR := hid (fun (w1 : World) (bb : Below w.heap.size w w1) => (h'.below bb).more bb.size)
 obtain ⟨bs, hbs⟩ : ∃ b, sigOkB sg = b := ⟨_, rfl⟩
 have HS := hid hbs
 clear hW h h' hbs
 go_enter Try.func33, Try.ntmps33
 go_wp2_with fail
 rw [← HW.out]
 refine L1.out.mono ?_
 rintro e w1 ⟨he, bb⟩
 rw [HS.out] at he
 subst he
 replace bel := next_trans bel bb
 replace rA := rA.next bb
 clear k0 L1 bb HW
 cases bs with
 | false =>
  have F := hid (show AnsRank w sg rk (.returned (.bool false)) w1 from ⟨by rw [prec_sig HS.out], bel⟩)
  clear bel rA
  go_wp2
  go_ret
  exact F.out
 | true =>
  have k0 : w1.cell? ⟨w.heap.size, 0, none⟩ = some (.slice A n c) := rA.cell 0
  by_cases hmn : m = n
  ·subst hmn
   have S0 := hid bel
   clear bel rA
   go_wp2_with fail
   go_loopg [5] m (fun g i wr => ∃ j : Nat, i = .int .i64 (j : Int) ∧ j + g = m ∧ (∀ k : Nat, k < j → (0 ≤ rk.getD k 0 ∧ rk.getD k 0 ≤ (rk.length : Int) - 1) ∧ ∀ l : Nat, l < k → ¬ rk.getD l 0 = rk.getD k 0) ∧ Below w.heap.size w wr)
   case atStart => exact ⟨0, rfl, by omega, (fun k hk => absurd hk (Nat.not_lt_zero _)), S0.out⟩
   case round =>
    clear S0 k0
    obtain ⟨j, rfl, hj, hall, bel⟩ := hrel
    obtain ⟨G, hG⟩ : ∃ G, G = gk := ⟨_, rfl⟩
    subst hG
    have HA := hid hall
    clear hall
    by_cases hlt : j < m
    ·obtain ⟨b, off, x, rfl, hbB, hx, ex⟩ := (SR.out wr bel).spot hlt
     have HB := hid bel
     have i0 : (0 : Int) ≤ (j : Int) := by omega
     have i1 : (j : Int) < (m : Int) := by omega
     have HJ := hid hj
     clear bel hj
     by_cases hin : 0 ≤ x ∧ x ≤ (m : Int) - 1
     ·have HI := hid hin
      clear hin
      go_wp2_with (first
       | (go_at_call 82; refine (inYes _ _ _ _ HI.out).mono ?_; rintro e w2 ⟨rfl, rfl⟩))
      clear hx
      go_loopg [6] j (fun g i W2 => ∃ k : Nat, i = .int .i64 (k : Int) ∧ k + g = j ∧ (∀ l : Nat, l < k → ¬ rk.getD l 0 = rk.getD j 0) ∧ Below w.heap.size w W2)
      case atStart => exact ⟨0, rfl, by omega, (fun l hl => absurd hl (Nat.not_lt_zero _)), HB.out⟩
      case round =>
       clear HB
       obtain ⟨k, rfl, hkj, hlow, bel⟩ := hrel
       have HLOW := hid hlow
       clear hlow
       obtain ⟨b', off', x', e', hbB', hx', ex'⟩ := (SR.out _ bel).spot hlt
       injection e' with e'
       injection e' with e1 e2
       subst e1 e2
       have exx : x' = x := by rw [← ex'.out, ← ex.out]
       subst exx
       by_cases hk : k < j
       ·obtain ⟨b2, off2, y, e2, -, hy, ey⟩ := (SR.out _ bel).spot (show k < m by omega)
        injection e2 with e2
        injection e2 with e21 e22
        subst e21 e22
        have HB := hid bel
        have HK := hid hkj
        have q0 : (0 : Int) ≤ (k : Int) := by omega
        have q1 : (k : Int) < (m : Int) := by omega
        have q2 : (k : Int) < (j : Int) := by omega
        clear hkj bel
        by_cases hxy : y = x'
        ·subst hxy
         have F := hid (fun dd => (show AnsRank w sg rk (.returned (.bool false)) (wr.drewN dd) from ⟨by rw [prec_rank (rank_twice (i := j) (k := k) (by rw [HL.out.2]; exact hlt) hk (by rw [ey.out, ex.out]))], below_drewN HB.out dd⟩))
         go_wp2_with fail
         go_quiet (fail)
         go_wp2
         go_ret
         exact F.out _
        ·have S2 := hid (show ∀ l : Nat, l < k + 1 → ¬ rk.getD l 0 = rk.getD j 0 from fun l hl => by
          by_cases e : l = k
          ·rw [e, ey.out, ex.out]; exact hxy
          ·exact HLOW.out l (by omega))
         have S3 := hid (fun dd => below_drewN HB.out dd)
         have e9 : (y == x') = false := by simp [hxy]
         go_wp2_with fail
         go_quiet (fail)
         go_wp2
         go_roundg (gk - 1)
         case measure => have := HK.out; omega
         case rel => exact ⟨k + 1, by simp, by have := HK.out; omega, S2.out, S3.out _⟩
       ·have hkj' : k = j := by omega
        subst hkj'
        have HB := hid bel
        clear bel
        have S1 := hid (show ∀ k' : Nat, k' < k + 1 → (0 ≤ rk.getD k' 0 ∧ rk.getD k' 0 ≤ (rk.length : Int) - 1) ∧ ∀ l : Nat, l < k' → ¬ rk.getD l 0 = rk.getD k' 0 from fun k' hk' => by
         by_cases e : k' = k
         ·rw [e]
          refine ⟨?_, HLOW.out⟩
          rw [ex.out, HL.out.2]
          exact HI.out
         ·exact HA.out k' (by omega))
        go_wp2
        go_roundg (G - 1)
        case measure => have := HJ.out; omega
        case rel => exact ⟨k + 1, by simp, by have := HJ.out; omega, S1.out, HB.out⟩
     ·have F := hid (show AnsRank w sg rk (.returned (.bool false)) wr from ⟨by rw [prec_rank (rank_out (i := j) (by rw [HL.out.2]; exact hlt) (by rw [ex.out, HL.out.2]; exact hin))], HB.out⟩)
      have HI := hid hin
      clear hin
      go_wp2_with (first
       | (go_at_call 82; refine (inNo _ _ _ _ HI.out).mono ?_; rintro e w2 ⟨rfl, rfl⟩))
      go_wp2
      go_ret
      exact F.out
    ·have F := hid (show AnsRank w sg rk (.returned (.bool true)) wr from ⟨by rw [prec_yes HS.out (rank_spec (by rw [HL.out.1, HL.out.2]) (fun i hi => (HA.out i (by rw [HL.out.2] at hi; omega)).1) fun i k hi hk => (HA.out i (by rw [HL.out.2] at hi; omega)).2 k hk)], bel⟩)
     clear bel
     go_wp2
     go_ret
     exact F.out
  ·have F := hid (show AnsRank w sg rk (.returned (.bool false)) w1 from ⟨by rw [prec_rank (rank_len (by rw [HL.out.1, HL.out.2]; exact hmn))], bel⟩)
   have hne : ¬ (m : Int) = (n : Int) := by omega
   clear bel rA
   go_wp2
   go_ret
   exact F.out
set_option maxHeartbeats 2000000 in
theorem implRankOk (A A' : Option Addr) (n c m c' : Nat) (sg rk : List Int) (w : World) (h : Seg w w.heap.size A n sg) (h' : Seg w w.heap.size A' m rk) (hn : n ≤ 1048576) (hm : m ≤ 1048576) :
  Calls Try.prog 36 #[.agg #[.slice A n c], .slice A' m c'] w (AnsRank w sg rk) := by
 have HL := hid (And.intro h.1 h'.1)
 obtain ⟨W, hW, rA, bel⟩ := box1 w 29 #[.slice A n c]
 have k0 : W.cell? ⟨w.heap.size, 0, none⟩ = some (.slice A n c) := rA.cell 0
 rw [hW] at k0
 have HW := hid hW
 have L1 := hid (implSigOk A n c sg W ((h.below bel).more bel.size) hn)
 have L2 := hid (fun (w1 : World) (bb : Below w.heap.size w w1) (x : Int) => containsI A' m c' rk x w1 ((h'.below bb).more bb.size) hm)
 obtain ⟨bs, hbs⟩ : ∃ b, sigOkB sg = b := ⟨_, rfl⟩
 have HS := hid hbs
 clear hW h h' hbs
 go_enter Try.func36, Try.ntmps36
 go_wp2_with fail
 rw [← HW.out]
 refine L1.out.mono ?_
 rintro e w1 ⟨he, bb⟩
 rw [HS.out] at he
 subst he
 replace bel := next_trans bel bb
 replace rA := rA.next bb
 clear k0 L1 bb HW
 cases bs with
 | false =>
  have F := hid (show AnsRank w sg rk (.returned (.bool false)) w1 from ⟨by rw [prec_sig HS.out], bel⟩)
  clear bel rA
  go_wp2
  go_ret
  exact F.out
 | true =>
  have k0 : w1.cell? ⟨w.heap.size, 0, none⟩ = some (.slice A n c) := rA.cell 0
  by_cases hmn : m = n
  ·subst hmn
   have S0 := hid bel
   clear bel rA
   go_wp2_with fail
   go_loopw [19] (fun i wr => ∃ j : Nat, i = .int .i64 (j : Int) ∧ j ≤ m ∧ (∀ k : Nat, k < j → (k : Int) ∈ rk) ∧ Below w.heap.size w wr) (fun i _ => m - (intOf i).toNat)
   case atStart => exact ⟨0, rfl, Nat.zero_le _, (fun k hk => absurd hk (Nat.not_lt_zero _)), S0.out⟩
   case round =>
    clear S0 k0
    obtain ⟨j, rfl, hj, hall, bel⟩ := hrel
    have HA := hid hall
    clear hall
    by_cases hlt : j < m
    ·have LL := hid (L2.out wr bel (j : Int))
     have HB := hid bel
     have i0 : (0 : Int) ≤ (j : Int) := by omega
     have i1 : (j : Int) < (m : Int) := by omega
     clear bel
     by_cases hin : (j : Int) ∈ rk
     ·have S1 := hid (show ∀ k : Nat, k < j + 1 → (k : Int) ∈ rk from fun k hk => by
       by_cases e : k = j
       ·rw [e]; exact hin
       ·exact HA.out k (by omega))
      have e1 : decide ((j : Int) ∈ rk) = true := decide_eq_true hin
      rw [e1] at LL
      clear e1 hin
      go_wp2_with (first
       | (go_at_call 84; refine LL.out.mono ?_; rintro e w2 ⟨rfl, rfl⟩))
      go_wp2
      go_roundw
      case rel => exact ⟨j + 1, by simp, hlt, S1.out, HB.out⟩
      case measure => simp [intOf]; omega
     ·have F := hid (show AnsRank w sg rk (.returned (.bool false)) wr from ⟨by rw [prec_rank (rank_miss (k := j) (by rw [HL.out.2]; exact hlt) hin)], HB.out⟩)
      have e1 : decide ((j : Int) ∈ rk) = false := decide_eq_false hin
      rw [e1] at LL
      clear e1 hin
      go_wp2_with (first
       | (go_at_call 84; refine LL.out.mono ?_; rintro e w2 ⟨rfl, rfl⟩))
      go_wp2
      go_ret
      exact F.out
    ·have F := hid (show AnsRank w sg rk (.returned (.bool true)) wr from ⟨by rw [prec_yes HS.out (rank_yes (by rw [HL.out.1, HL.out.2]) fun k hk => HA.out k (by rw [HL.out.2] at hk; omega))], bel⟩)
     clear bel
     go_wp2
     go_ret
     exact F.out
  ·have F := hid (show AnsRank w sg rk (.returned (.bool false)) w1 from ⟨by rw [prec_rank (rank_len (by rw [HL.out.1, HL.out.2]; exact hmn))], bel⟩)
   have hne : ¬ (m : Int) = (n : Int) := by omega
   clear bel rA
   go_wp2
   go_ret
   exact F.out
end rankSpec
end
section
namespace wRankOk
open Go.RowKit base ints sig cursor marks app sym appAt segs segsHelp segsMark kinds rankSpec
set_option maxRecDepth 100000
set_option maxHeartbeats 8000000 in
theorem law (a0 : Option Addr) (n0 c0 : Nat) (xs0 : List Int) (a1 : Option Addr) (n1 c1 : Nat) (xs1 : List Int) (w : World) (s0 : Seg w w.heap.size a0 n0 xs0) (hN0 : n0 ≤ 9223372036854775807) (s1 : Seg w w.heap.size a1 n1 xs1) (hN1 : n1 ≤ 9223372036854775807) :
  Calls Try.prog 5 #[.agg #[.slice a0 n0 c0], .slice a1 n1 c1] w (Fine w) := by
 obtain ⟨W, hW⟩ : ∃ W, W = w.alloc (.cells #[.slice a0 n0 c0] 48) := ⟨_, rfl⟩
 have rA0 : Row W (w.heap.size) 48 #[.slice a0 n0 c0] := by rw [hW]; have := Row.new (w) 48 #[.slice a0 n0 c0]; simpa using this
 have bW : Below w.heap.size w W := by rw [hW]; exact (Below.refl w.heap.size w).alloc (by simp) (.cells #[.slice a0 n0 c0] 48)
 have zA0 := rA0.lt
 replace s0 := s0.next bW
 have Hl0 := Lib.hid s0.1
 replace s1 := s1.next bW
 have Hl1 := Lib.hid s1.1
 have HW := Lib.hid hW
 clear hW
 obtain ⟨v, hv⟩ : ∃ v, precB xs0 xs1 = v := ⟨_, rfl⟩
 have HV := Lib.hid hv
 clear hv
 have ev : (v != v) = false := by simp
 by_cases h1 : n1 ≤ 1048576
 case neg =>
  go_enter Try.func5, Try.ntmps5
  go_wp2_with fail
  rw [← HW.out]
  go_ret
  exact ⟨rfl, bW⟩
 go_enter Try.func5, Try.ntmps5
 go_wp2_with fail
 rw [← HW.out]
 clear HW
 have bel := Below.refl W.heap.size W
 have cA0 : W.cell? ⟨w.heap.size, 0, none⟩ = some (.slice a0 n0 c0) := (rA0.next bel).cell 0
 refine (szSig _ _ _ (1048576) _ hN0 (by omega) (by omega)).mono ?_
 rintro e w1 ⟨he, bb⟩
 replace bel := next_trans bel bb
 have zw1 := bb.size
 clear bb
 by_cases q0 : n0 ≤ 1048576
 case neg =>
  rw [if_pos (by omega)] at he
  subst he
  have F := Lib.hid (bW.trans (bel.mono bW.size))
  clear bel bW cA0
  go_wp2
  go_ret
  exact ⟨rfl, F.out⟩
 rw [if_neg (by omega)] at he
 subst he
 have h0 : n0 ≤ 1048576 := by omega
 clear cA0
 have cA0 : w1.cell? ⟨w.heap.size, 0, none⟩ = some (.slice a0 n0 c0) := (rA0.next bel).cell 0
 go_wp2_with fail
 refine (sigTo _ _ _ xs0 _ (s0.next bel) h0).mono ?_
 rintro e w2 ⟨gp0, rfl, op0, yp0, bb⟩
 replace bel := next_trans bel bb
 have zw2 := bb.size
 clear bb
 clear cA0
 have cA0 : w2.cell? ⟨w.heap.size, 0, none⟩ = some (.slice a0 n0 c0) := (rA0.next bel).cell 0
 go_wp2_with fail
 refine (intsTo _ _ _ xs1 _ (s1.next bel) h1).mono ?_
 rintro e w3 ⟨gp1, rfl, op1, yp1, bb⟩
 replace op0 := op0.next bb
 replace bel := next_trans bel bb
 have zw3 := bb.size
 clear bb
 clear cA0
 have cA0 : w3.cell? ⟨w.heap.size, 0, none⟩ = some (.slice a0 n0 c0) := (rA0.next bel).cell 0
 go_wp2_with fail
 refine (specRankOk _ _ _ _ _ _ xs0 xs1 _ op0.rd op1.rd h0 h1).mono ?_
 rintro e w4 ⟨he, bb⟩
 rw [HV.out] at he
 subst he
 replace op0 := op0.next bb
 replace op1 := op1.next bb
 replace bel := next_trans bel bb
 have zw4 := bb.size
 clear bb
 clear op0 op1
 clear cA0
 have cA0 : w4.cell? ⟨w.heap.size, 0, none⟩ = some (.slice a0 n0 c0) := (rA0.next bel).cell 0
 clear cA0
 have cA0 : w4.cell? ⟨w.heap.size, 0, none⟩ = some (.slice a0 n0 c0) := (rA0.next bel).cell 0
 go_wp2_with fail
 refine (sigTo _ _ _ xs0 _ (s0.next bel) h0).mono ?_
 rintro e w5 ⟨gx0, rfl, ox0, yx0, bb⟩
 replace bel := next_trans bel bb
 have zw5 := bb.size
 clear bb
 clear cA0
 have cA0 : w5.cell? ⟨w.heap.size, 0, none⟩ = some (.slice a0 n0 c0) := (rA0.next bel).cell 0
 have dA0 : (w5.alloc (.cells #[.slice (some ⟨gx0, 0, none⟩) n0 n0] 29)).cell? ⟨w.heap.size, 0, none⟩ = some (.slice a0 n0 c0) := ((rA0.next bel).alloc _).cell 0
 go_wp2_with fail
 obtain ⟨w6, hw⟩ : ∃ W, W = w5.alloc (.cells #[.slice (some ⟨gx0, 0, none⟩) n0 n0] 29) := ⟨_, rfl⟩
 rw [← hw]
 have rx0 : Row w6 w5.heap.size 29 #[.slice (some ⟨gx0, 0, none⟩) n0 n0] := by rw [hw]; exact Row.new _ _ _
 have bb : Below w5.heap.size w5 w6 := by rw [hw]; exact (Below.refl _ _).alloc (Nat.le_refl _) _
 have yrx0 : w5.heap.size < w6.heap.size := by rw [hw]; simp
 clear hw
 replace ox0 := ox0.next bb
 replace bel := next_trans bel bb
 have zw6 := bb.size
 clear bb
 clear dA0
 clear cA0
 have cA0 : w6.cell? ⟨w.heap.size, 0, none⟩ = some (.slice a0 n0 c0) := (rA0.next bel).cell 0
 have cx0 : w6.cell? ⟨w5.heap.size, 0, none⟩ = some (.slice (some ⟨gx0, 0, none⟩) n0 n0) := (rx0).cell 0
 refine (intsTo _ _ _ xs1 _ (s1.next bel) h1).mono ?_
 rintro e w7 ⟨gx1, rfl, ox1, yx1, bb⟩
 replace ox0 := ox0.next bb
 replace rx0 := rx0.next bb
 replace bel := next_trans bel bb
 have zw7 := bb.size
 clear bb
 clear cA0 cx0
 have cA0 : w7.cell? ⟨w.heap.size, 0, none⟩ = some (.slice a0 n0 c0) := (rA0.next bel).cell 0
 have cx0 : w7.cell? ⟨w5.heap.size, 0, none⟩ = some (.slice (some ⟨gx0, 0, none⟩) n0 n0) := (rx0).cell 0
 go_wp2_with fail
 refine (implRankOk _ _ _ _ _ _ xs0 xs1 _ ox0.rd ox1.rd h0 h1).mono ?_
 rintro e w8 ⟨he, bb⟩
 rw [HV.out] at he
 subst he
 replace ox0 := ox0.next bb
 replace rx0 := rx0.next bb
 replace ox1 := ox1.next bb
 replace bel := next_trans bel bb
 have zw8 := bb.size
 clear bb
 clear cA0 cx0
 have cA0 : w8.cell? ⟨w.heap.size, 0, none⟩ = some (.slice a0 n0 c0) := (rA0.next bel).cell 0
 have cx0 : w8.cell? ⟨w5.heap.size, 0, none⟩ = some (.slice (some ⟨gx0, 0, none⟩) n0 n0) := (rx0).cell 0
 go_wp2_with fail
 replace ox0 := ox0.drew
 replace rx0 := rx0.drew
 replace ox1 := ox1.drew
 replace bel := bel.drew
 have zdw8 := (drew_below w8).size
 go_region_held3 (fun w' => w'.cell? ⟨w5.heap.size, 0, none⟩ = some (.slice (some ⟨gx0, 0, none⟩) n0 n0) ∧ w'.cell? ⟨w.heap.size, 0, none⟩ = some (.slice a0 n0 c0))
  (go_keep)
  (first
   | (go_at_call 34; refine (sigTo _ _ _ xs0 _ (s0.next bel) h0).mono ?_; rintro e w9 ⟨gt0, rfl, ot, yt0, bb⟩; replace ox0 := ox0.next bb; replace rx0 := rx0.next bb; replace ox1 := ox1.next bb; replace bel := next_trans bel bb; have k0w9 : w9.cell? ⟨w.heap.size, 0, none⟩ = some (.slice a0 n0 c0) := (rA0.next bel).cell 0; have l0w9 : w9.cell? ⟨w5.heap.size, 0, none⟩ = some (.slice (some ⟨gx0, 0, none⟩) n0 n0) := rx0.cell 0; have zqw9 := bb.size; clear bb)
   | (go_at_call 37; refine (sigEq _ _ _ _ _ _ xs0 _ ox0.rd ot.rd h0).mono ?_; rintro e w10 ⟨rfl, bb⟩; replace ox0 := ox0.next bb; replace rx0 := rx0.next bb; replace ox1 := ox1.next bb; replace bel := next_trans bel bb; have k0w10 : w10.cell? ⟨w.heap.size, 0, none⟩ = some (.slice a0 n0 c0) := (rA0.next bel).cell 0; have l0w10 : w10.cell? ⟨w5.heap.size, 0, none⟩ = some (.slice (some ⟨gx0, 0, none⟩) n0 n0) := rx0.cell 0; have zqw10 := bb.size; clear bb ot))
 clear k0w9 l0w9 k0w10 l0w10
 clear ox0 rx0
 clear cA0 cx0
 have cA0 : w10.cell? ⟨w.heap.size, 0, none⟩ = some (.slice a0 n0 c0) := (rA0.next bel).cell 0
 go_wp2_with fail
 refine (intsTo _ _ _ xs1 _ (s1.next bel) h1).mono ?_
 rintro e w11 ⟨gt1, rfl, ot1, yt1, bb⟩
 replace ox1 := ox1.next bb
 replace bel := next_trans bel bb
 have zw11 := bb.size
 clear bb
 clear cA0
 have cA0 : w11.cell? ⟨w.heap.size, 0, none⟩ = some (.slice a0 n0 c0) := (rA0.next bel).cell 0
 go_wp2_with fail
 refine (intsEq _ _ _ _ _ _ xs1 _ ox1.rd ot1.rd h1).mono ?_
 rintro e w12 ⟨rfl, bb⟩
 replace ox1 := ox1.next bb
 replace ot1 := ot1.next bb
 replace bel := next_trans bel bb
 have zw12 := bb.size
 clear bb
 clear ot1 ox1
 clear cA0
 have cA0 : w12.cell? ⟨w.heap.size, 0, none⟩ = some (.slice a0 n0 c0) := (rA0.next bel).cell 0
 have F := Lib.hid (bW.trans (bel.mono bW.size))
 clear bel bW cA0
 go_wp2
 go_ret
 exact ⟨rfl, F.out⟩
end wRankOk
end
end Go.Proofs.Ytlmofkeemlfpgaa
