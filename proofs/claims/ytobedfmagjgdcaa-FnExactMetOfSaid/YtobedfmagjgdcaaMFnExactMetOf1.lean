/-
  MERGED: my texts Base, Open, Ints, Sig, Term, Arity, Cursor, Marks, Append, List, AppAt, Segs, SegsHelp, SegsMark, Kinds, End, TermOk, Term2, EndOf, Sym, Copy, CurO, Sub, Args, one behind the other, as they are. By an AI agent.
-/
import Derived.WalkKit
import Derived.Lib.Hide
import Derived.Deep.Draws
import Derived.ProofKit
import Derived.OpenShut
import Derived.Lib.SmallJoins
import Derived.Test.YtobedfmagjgdcaaRows
import Derived.Deep.QuietTactic
import Derived.BigQuiet
import Derived.Deep.RegionHeld3
import Derived.Deep.AppendLies
import Derived.Laws.AppendOwnNone
import Derived.Maps.AppendAt
import Derived.WalkSpells
namespace Go.Proofs.Ytobedfmagjgdcaa
section
namespace base
open Go.RowKit
def Seg (w : World) (B : Nat) (A : Option Addr) (n : Nat) (xs : List Int) : Prop :=
 xs.length = n ∧ (0 < n → ∃ b off, A = some ⟨b, off, none⟩ ∧ b < B ∧ ∀ j, j < n → w.cell? ⟨b, off + j, none⟩ = some (.int .i64 (xs.getD j 0)))
def Row (w : World) (g : Nat) (t : TypeId) (cs : Array Value) : Prop := w.heap[g]? = some (.cells cs t (0, 0))
section
variable {w w' : World} {B B' n : Nat} {A : Option Addr} {xs : List Int}
theorem Seg.empty : Seg w B A 0 [] := ⟨rfl, fun h => absurd h (by omega)⟩
theorem Seg.round (h : Seg w B A n xs) {k : Nat} (hk : k < n) : ∃ b off, A = some ⟨b, off, none⟩ ∧ b < B ∧ w.cell? ⟨b, off + k, none⟩ = some (.int .i64 (xs.getD k 0)) := by
 obtain ⟨b, off, e, hb, hc⟩ := h.2 (by omega)
 exact ⟨b, off, e, hb, hc k hk⟩
theorem Seg.spot (h : Seg w B A n xs) {k : Nat} (hk : k < n) : ∃ b off x, A = some ⟨b, off, none⟩ ∧ b < B ∧ w.cell? ⟨b, off + k, none⟩ = some (.int .i64 x) ∧ Hid (xs.getD k 0 = x) := by
 obtain ⟨b, off, e, hb, hc⟩ := h.2 (by omega)
 exact ⟨b, off, _, e, hb, hc k hk, Lib.hid rfl⟩
theorem Seg.of_row {a : Option Addr} {len cap : Nat} {zs : List Int}
  (h : (a = none ∧ len = 0 ∧ cap = 0 ∧ zs = []) ∨ ∃ x, a = some x ∧ len ≤ cap ∧ cap ≤ maxLen ∧ zs.length = cap ∧ (∀ i, i < zs.length → w.cell? (x.add i) = some (.int .i64 (zs.getD i 0))) ∧ ∀ n ∈ zs, (Lit.int .i64 n).wf = true) :
  Seg w w.heap.size a len (zs.take len) := by
 rcases h with ⟨rfl, rfl, rfl, rfl⟩ | ⟨x, rfl, hl, hm, hz, hc, hw⟩
 ·exact Seg.empty
 ·refine ⟨by simp; omega, fun hn => ?_⟩
  obtain ⟨b, off, spot⟩ := x
  have h0 := hc 0 (by omega)
  have hspot : spot = none := by simpa [Addr.add] using World.cell?_spot h0
  subst hspot
  refine ⟨b, off, rfl, ?_, fun j hj => ?_⟩
  ·have : w.cell? ⟨b, off, none⟩ = some (.int .i64 (zs.getD 0 0)) := by simpa [Addr.add] using h0
   unfold World.cell? at this
   split at this
   ·rename_i c t f he
    exact (Array.getElem?_eq_some_iff.1 he).1
   ·cases this
  ·have := hc j (by omega)
   rw [show (⟨b, off, none⟩ : Addr).add j = ⟨b, off + j, none⟩ by unfold Addr.add; split <;> simp_all] at this
   rw [this]
   simp [List.getD, List.getElem?_take, hj]
theorem Seg.keep (h : Seg w B A n xs) (hk : ∀ p : Addr, p.block < B → w'.cell? p = w.cell? p) : Seg w' B A n xs :=
 ⟨h.1, fun hn => by
  obtain ⟨b, off, e, hb, hc⟩ := h.2 hn
  exact ⟨b, off, e, hb, fun j hj => (hk ⟨b, off + j, none⟩ hb).trans (hc j hj)⟩⟩
theorem Seg.more (h : Seg w B A n xs) (hB : B ≤ B') : Seg w B' A n xs :=
 ⟨h.1, fun hn => by
  obtain ⟨b, off, e, hb, hc⟩ := h.2 hn
  exact ⟨b, off, e, by omega, hc⟩⟩
theorem Seg.below (h : Seg w B A n xs) (hb : Below B w w') : Seg w' B A n xs := h.keep fun _ hp => hb.cell hp
theorem Seg.next (h : Seg w w.heap.size A n xs) (hb : Below w.heap.size w w') : Seg w' w'.heap.size A n xs := (h.below hb).more hb.size
theorem Seg.drew (h : Seg w B A n xs) : Seg w.drew B A n xs := h
theorem Seg.drewN (h : Seg w B A n xs) (k : Nat) : Seg (w.drewN k) B A n xs := h
theorem Seg.alloc (h : Seg w B A n xs) (hB : B ≤ w.heap.size) (o : Obj) : Seg (w.alloc o) B A n xs := h.keep fun p hp => World.cell?_alloc_lt w o p (by omega)
theorem Seg.put (h : Seg w B A n xs) {p : Addr} (hB : B ≤ p.block) (u : Value) : Seg (w.setCell p u) B A n xs :=
 h.keep fun q hq => World.cell?_setCell_other w p q u (fun e => by subst e; omega)
theorem Row.lt {g : Nat} {t : TypeId} {cs : Array Value} (h : Row w g t cs) : g < w.heap.size := by
 unfold Row at h
 exact (Array.getElem?_eq_some_iff.1 h).1
theorem Row.cell {g : Nat} {t : TypeId} {cs : Array Value} (h : Row w g t cs) (i : Nat) : w.cell? ⟨g, i, none⟩ = cs[i]? := cell_of_row w g i cs t (0, 0) h
theorem Row.free {g : Nat} {t : TypeId} {cs : Array Value} (h : Row w g t cs) (i : Nat) : w.frozen? ⟨g, i, none⟩ = false := by
 unfold Row at h
 simp [World.frozen?, h]
theorem Row.new (w : World) (t : TypeId) (cs : Array Value) : Row (w.alloc (.cells cs t)) w.heap.size t cs := heap_alloc_new w _
theorem Row.put {g : Nat} {t : TypeId} {cs : Array Value} (h : Row w g t cs) (i : Nat) (u : Value) : Row (w.setCell ⟨g, i, none⟩ u) g t (cs.setIfInBounds i u) := by
 unfold Row at h ⊢
 simp [World.setCell, Array.getElem?_modify, h]
theorem Row.far {g : Nat} {t : TypeId} {cs : Array Value} (h : Row w g t cs) {p : Addr} (hp : g ≠ p.block) (u : Value) : Row (w.setCell p u) g t cs := (Below.heap_setCell w p u g hp).trans h
theorem Row.alloc {g : Nat} {t : TypeId} {cs : Array Value} (h : Row w g t cs) (o : Obj) : Row (w.alloc o) g t cs := (Below.heap_alloc w o g h.lt).trans h
theorem Row.drewN {g : Nat} {t : TypeId} {cs : Array Value} (h : Row w g t cs) (k : Nat) : Row (w.drewN k) g t cs := h
theorem Row.drew {g : Nat} {t : TypeId} {cs : Array Value} (h : Row w g t cs) : Row w.drew g t cs := h
theorem Row.below {g : Nat} {t : TypeId} {cs : Array Value} (h : Row w g t cs) (hb : Below B w w') (hg : g < B) : Row w' g t cs := (hb.block g hg).trans h
theorem Row.next {g : Nat} {t : TypeId} {cs : Array Value} (h : Row w g t cs) (hb : Below w.heap.size w w') : Row w' g t cs := h.below hb h.lt
theorem Row.seg {g : Nat} {t : TypeId} {cs : Array Value} (h : Row w g t cs) (hl : xs.length = n) (hB : g < B) (hc : ∀ j, j < n → cs[j]? = some (.int .i64 (xs.getD j 0))) : Seg w B (some ⟨g, 0, none⟩) n xs :=
 ⟨hl, fun _ => ⟨g, 0, rfl, hB, fun j hj => by rw [Nat.zero_add, h.cell j]; exact hc j hj⟩⟩
theorem next_trans {a b c : World} (h : Below a.heap.size a b) (k : Below b.heap.size b c) : Below a.heap.size a c := h.trans (k.mono h.size)
theorem below_drewN {a : World} (h : Below B a w) (k : Nat) : Below B a (w.drewN k) := ⟨h.os, h.tape, h.output, h.size, h.block⟩
end
end base
end
section
namespace openArgs
open Go.ChangeShapes Go.WideShapes Go.ChangeAt Go.RowKit base
section
variable {H : Type} {enc : TypeId × Value → H} {P : Program} {w : World}
theorem ints_of_trod {t e : TypeId} {fuel : Nat} {a : Option Addr} {n c : Nat} {held : Bool} {x : DataW H × List MemPlace} (ht : P.underlying t = some (.slice e)) (he : P.underlying e = some (.int .i64)) (hc : P.cellsOf e = 1)
  (h : DataW.trod enc P w 0 (fun _ => true) held fuel t [.slice a n c] = some x) : ∃ xs, Seg w w.heap.size a n xs ∧ n ≤ 9223372036854775807 := by
 rcases open_ints ht he hc h with ⟨hcs, _⟩ | ⟨y, l, cap, zs, hcs, _, hl, hm, hz, _, hcell, hwz⟩
 ·simp at hcs
  obtain ⟨rfl, rfl, rfl⟩ := hcs
  exact ⟨[], Seg.empty, by omega⟩
 ·simp at hcs
  obtain ⟨rfl, rfl, rfl⟩ := hcs
  exact ⟨zs.take n, Seg.of_row (.inr ⟨_, rfl, hl, hm, by simpa using hz, hcell, hwz⟩), by unfold maxLen at hm; omega⟩
theorem open_seg {t e : TypeId} {r : Reach} {b0 : Nat} {v : Value} {d : DataW H} {p : List MemPlace} {held : Bool} (ht : P.underlying t = some (.slice e)) (he : P.underlying e = some (.int .i64)) (hc : P.cellsOf e = 1)
  (hv : Value.okWide P w r b0 t v) (h : DataW.Trod enc P w 0 (fun _ => true) held t v d p) : ∃ a n c xs, v = .slice a n c ∧ Seg w w.heap.size a n xs ∧ n ≤ 9223372036854775807 := by
 obtain ⟨a, n, c, rfl⟩ := okWide_slice ht hv
 obtain ⟨fuel, hf⟩ := h
 obtain ⟨xs, hs, hn⟩ := ints_of_trod ht he hc (by simpa [Value.cells] using hf)
 exact ⟨a, n, c, xs, rfl, hs, hn⟩
theorem array1 {T : Array Value} (h : T.size = 1) : ∃ v, T = #[v] := by
 obtain ⟨l⟩ := T
 match l, h with
 | [v], _ => exact ⟨v, rfl⟩
theorem open_sig {s t e : TypeId} {f0 : Field} {r : Reach} {b0 : Nat} {v : Value} {d : DataW H} {p : List MemPlace} {held : Bool} (hs : P.underlying s = some (.struct #[f0])) (hone : Go.Deep.oneCellFields P #[f0] = true) (hC : P.cellsOf s = 1)
  (hf : f0.type = t) (ht : P.underlying t = some (.slice e)) (he : P.underlying e = some (.int .i64)) (hc : P.cellsOf e = 1)
  (hv : Value.okWide P w r b0 s v) (h : DataW.Trod enc P w 0 (fun _ => true) held s v d p) : ∃ a n c xs, v = .agg #[.slice a n c] ∧ Seg w w.heap.size a n xs ∧ n ≤ 9223372036854775807 := by
 subst hf
 obtain ⟨cs, rfl, hsz⟩ := okWide_struct hs hv
 obtain ⟨c0, rfl⟩ := array1 (hsz.trans hC)
 obtain ⟨fuel, hfu⟩ := h
 obtain ⟨y0, n, _, _, h0⟩ := trod_struct1 hs hfu
 obtain ⟨o0, k0⟩ := Go.Deep.hone_of hone 0 f0 rfl
 have h0' : DataW.trod enc P w 0 (fun _ => true) held n f0.type [c0] = some y0 := by simpa [Value.cells, o0, k0] using h0
 obtain ⟨a, l, c, hcs⟩ := Go.Joins.slice_form ht h0'
 simp at hcs
 subst hcs
 obtain ⟨xs, hseg, hn⟩ := ints_of_trod ht he hc h0'
 exact ⟨a, l, c, xs, rfl, hseg, hn⟩
end
end openArgs
end
section
namespace ints
open Go.RowKit base
theorem info_i64 : (Try.prog.info? 2).map (fun i => (i.zero, i.size, i.bytes)) = some (some (.int .i64 0), 1, 8) := by kernel_rfl
theorem run_make_i64 (n : Nat) (hn : n ≤ 1048576) (W : World) : (Instr.makeSlice 22 (.int .i64 (n : Int)) (.int .i64 (n : Int))).run Try.prog W =
  .ok (.slice (some ⟨W.heap.size, 0, none⟩) n n) (W.alloc (.cells (madeCells #[.int .i64 0] n) 2)) := by
 obtain ⟨i0, hi, hz0, hz1, hz2⟩ := info_parts info_i64
 have hr := run_make (P := Try.prog) W 22 2 i0 _ Try.underlying22 hi hz0 .i64 .i64 n n (by omega) (by omega) (by rw [hz2]; omega) (by omega)
 simpa [hz1, Value.cells] using hr
def Copied (w : World) (n : Nat) (xs : List Int) (i : Value) (wr : World) : Prop :=
 ∃ (k : Nat) (cs : Array Value), k ≤ n ∧ i = .int .i64 k ∧ Row wr w.heap.size 2 cs ∧ cs.size = n ∧ (∀ j, j < k → cs[j]? = some (.int .i64 (xs.getD j 0))) ∧ wr.heap.size = w.heap.size + 1 ∧ Below w.heap.size w wr
theorem copied_start (w : World) (n : Nat) (xs : List Int) : Copied w n xs (.int .i64 0) (w.alloc (.cells (madeCells #[.int .i64 0] n) 2)) :=
 ⟨0, _, Nat.zero_le _, rfl, Row.new _ _ _, size_madeCells _ _, fun j h => absurd h (Nat.not_lt_zero _), by simp, (Below.refl _ _).alloc (Nat.le_refl _) _⟩
theorem copied_step {w wr : World} {n k : Nat} {xs : List Int} {cs : Array Value} (hk : k < n) (hr : Row wr w.heap.size 2 cs) (hs : cs.size = n) (hc : ∀ j, j < k → cs[j]? = some (.int .i64 (xs.getD j 0)))
  (hz : wr.heap.size = w.heap.size + 1) (hb : Below w.heap.size w wr) : Copied w n xs (.int .i64 ((k : Int) + 1)) (wr.setCell ⟨w.heap.size, k, none⟩ (.int .i64 (xs.getD k 0))) := by
 refine ⟨k + 1, _, hk, by simp, hr.put k _, by simp [hs], fun j hj => ?_, by simpa using hz, hb.setCell (Nat.le_refl _) _⟩
 rw [Array.getElem?_setIfInBounds]
 by_cases e : k = j
 ·subst e; simp [hs, hk]
 ·simp [e]; exact hc j (by omega)
set_option maxHeartbeats 400000 in
theorem toInts (A : Option Addr) (n c : Nat) (xs : List Int) (w : World) (h : Seg w w.heap.size A n xs) (hn : n ≤ 1048576) :
  Calls Try.prog 23 #[.slice A n c] w fun e w' => ∃ cs, e = .returned (.slice (some ⟨w.heap.size, 0, none⟩) n n) ∧ Row w' w.heap.size 2 cs ∧ cs.size = n ∧
   (∀ j, j < n → cs[j]? = some (.int .i64 (xs.getD j 0))) ∧ w'.heap.size = w.heap.size + 1 ∧ Below w.heap.size w w' := by
 have hmk := run_make_i64 n hn
 go_enter Try.func23, Try.ntmps23
 go_wp2
 clear hmk
 go_loopw [4] (fun i wr => Copied w n xs i wr) (fun i _ => n - (intOf i).toNat)
 case atStart => exact copied_start w n xs
 case round =>
  obtain ⟨k, cs, hk, rfl, hr, hs, hc, hz, hb⟩ := hrel
  by_cases hlt : k < n
  ·obtain ⟨b, off, rfl, hbB, hx⟩ := h.round hlt
   have hx' : wr.cell? ⟨b, off + k, none⟩ = some (.int .i64 (xs.getD k 0)) := (hb.cell (p := ⟨b, off + k, none⟩) hbB).trans hx
   obtain ⟨u, hu⟩ : ∃ u, wr.cell? ⟨w.heap.size, k, none⟩ = some u := ⟨_, (hr.cell k).trans (Array.getElem?_eq_getElem (by omega))⟩
   have hf : wr.frozen? ⟨w.heap.size, k, none⟩ = false := hr.free k
   have S := Lib.hid (copied_step hlt hr hs hc hz hb)
   clear hx hr hs hc hz hb h
   go_wp2
   go_roundw
   case rel => exact S.out
   case measure => simp [intOf]; omega
  ·go_wp2
   go_ret
   have : k = n := by omega
   subst this
   exact ⟨cs, rfl, hr, hs, hc, hz, hb⟩
theorem lists_eq {xs ys : List Int} {n : Nat} (hx : xs.length = n) (hy : ys.length = n) (h : ∀ j, j < n → xs.getD j 0 = ys.getD j 0) : xs = ys := by
 subst hx
 refine List.ext_getElem hy.symm fun j h1 h2 => ?_
 have := h j h1
 simpa [List.getD, h1, h2] using this
def HeadSame (w : World) (n : Nat) (xs ys : List Int) (i : Value) (wr : World) : Prop :=
 ∃ (k d : Nat), k ≤ n ∧ i = .int .i64 k ∧ wr = w.drewN d ∧ ∀ j, j < k → xs.getD j 0 = ys.getD j 0
theorem alike_step {w : World} {n k : Nat} {xs ys : List Int} {x : Int} (hk : k < n) (h : ∀ j, j < k → xs.getD j 0 = ys.getD j 0) (hx : Hid (xs.getD k 0 = x)) (hy : Hid (ys.getD k 0 = x)) (d : Nat) :
  HeadSame w n xs ys (.int .i64 ((k : Int) + 1)) (w.drewN d) :=
 ⟨k + 1, d, hk, by simp, rfl, fun j hj => by
  by_cases e : j = k
  ·subst e; rw [hx.out, hy.out]
  ·exact h j (by omega)⟩
def AnsSame (w : World) (xs ys : List Int) (e : Ending) (w' : World) : Prop := e = .returned (.bool (decide (xs = ys))) ∧ ∃ d, w' = w.drewN d
theorem same_not {w : World} {xs ys : List Int} {k : Nat} {x y : Int} (hx : Hid (xs.getD k 0 = x)) (hy : Hid (ys.getD k 0 = y)) (h : ¬ x = y) (d : Nat) : AnsSame w xs ys (.returned (.bool false)) (w.drewN d) :=
 ⟨by rw [decide_eq_false (fun e => h (by rw [← hx.out, ← hy.out, e]))], d, rfl⟩
theorem same_yes {w : World} {xs ys : List Int} {n k : Nat} (hx : xs.length = n) (hy : ys.length = n) (hn : ¬ k < n) (h : ∀ j, j < k → xs.getD j 0 = ys.getD j 0) (d : Nat) : AnsSame w xs ys (.returned (.bool true)) (w.drewN d) :=
 ⟨by rw [decide_eq_true (lists_eq hx hy (fun j hj => h j (by omega)))], d, rfl⟩
theorem same_len {w : World} {xs ys : List Int} {n m : Nat} (hx : xs.length = n) (hy : ys.length = m) (h : ¬ n = m) : AnsSame w xs ys (.returned (.bool false)) w :=
 ⟨by rw [decide_eq_false (fun e => h (by rw [← hx, ← hy, e]))], 0, rfl⟩
set_option maxHeartbeats 400000 in
theorem eqInts (A A' : Option Addr) (n m c c' : Nat) (xs ys : List Int) (w : World) (h : Seg w w.heap.size A n xs) (h' : Seg w w.heap.size A' m ys) (hn : n ≤ 1048576) (hm : m ≤ 1048576) :
  Calls Try.prog 15 #[.slice A n c, .slice A' m c'] w (AnsSame w xs ys) := by
 by_cases hnm : n = m
 ·subst hnm
  go_enter Try.func15, Try.ntmps15
  go_wp2
  go_loopw [5] (fun i wr => HeadSame w n xs ys i wr) (fun i _ => n - (intOf i).toNat)
  case atStart => exact ⟨0, 0, Nat.zero_le _, rfl, rfl, fun j h => absurd h (Nat.not_lt_zero _)⟩
  case round =>
   obtain ⟨k, d, hk, rfl, rfl, hc⟩ := hrel
   by_cases hlt : k < n
   ·obtain ⟨b, off, x, rfl, -, hx, ex⟩ := h.spot hlt
    obtain ⟨b', off', y, rfl, -, hx', ey⟩ := h'.spot hlt
    by_cases he : x = y
    ·subst he
     have S := Lib.hid (alike_step (w := w) hlt hc ex ey)
     clear hc h h' ex ey
     go_wp2
     go_quiet (fail)
     go_wp2
     go_roundw
     case rel => exact S.out _
     case measure => simp [intOf]; omega
    ·have S := Lib.hid (same_not (w := w) ex ey he)
     have hne : (x != y) = true := by simp [he]
     clear hc h h' ex ey he
     go_wp2
     go_quiet (fail)
     go_wp2
     go_ret
     rw [World.drewN_drewN]
     exact S.out _
   ·have S := Lib.hid (same_yes (w := w) h.1 h'.1 hlt hc)
    clear hc h h'
    go_wp2
    go_ret
    exact S.out _
 ·have S := Lib.hid (same_len (w := w) h.1 h'.1 hnm)
  have hne : ((n : Int) != (m : Int)) = true := by simp; omega
  clear h h'
  go_enter Try.func15, Try.ntmps15
  go_wp2
  go_ret
  exact S.out
theorem eqYes (A A' : Option Addr) (n c c' : Nat) (xs : List Int) (w : World) (h : Seg w w.heap.size A n xs) (h' : Seg w w.heap.size A' n xs) (hn : n ≤ 1048576) :
  Calls Try.prog 15 #[.slice A n c, .slice A' n c'] w fun e w' => e = .returned (.bool true) ∧ ∃ d, w' = w.drewN d :=
 (eqInts A A' n n c c' xs xs w h h' hn hn).mono fun _ _ ⟨he, hd⟩ => ⟨by rw [he]; simp, hd⟩
def Fine (w : World) (e : Ending) (w' : World) : Prop := e = .returned (.bool true) ∧ Below w.heap.size w w'
end ints
end
section
open Go.Lib (hid)
namespace sig
open Go.RowKit base ints
theorem szInts (A : Option Addr) (n c : Nat) (left : Int) (w : World) (hn : n ≤ 9223372036854775807) (h0 : 0 ≤ left) (h1 : left ≤ 1048576) :
  Calls Try.prog 44 #[.slice A n c, .int .i64 left] w fun e w' => w = w' ∧ e = .returned (.int .i64 (if left - n < 0 then -1 else left - n)) := by
 by_cases h : left - n < 0
 ·rw [if_pos h]
  go_enter Try.func44, Try.ntmps44
  go_wp2
  go_ret
  exact ⟨rfl, rfl⟩
 ·rw [if_neg h]
  go_enter Try.func44, Try.ntmps44
  go_wp2
  go_ret
  exact ⟨rfl, rfl⟩
theorem szSig (A : Option Addr) (n c : Nat) (left : Int) (w : World) (hn : n ≤ 9223372036854775807) (h0 : 0 ≤ left) (h1 : left ≤ 1048576) :
  Calls Try.prog 9 #[.agg #[.slice A n c], .int .i64 left] w fun e w' => e = .returned (.int .i64 (if left - n < 0 then -1 else left - n)) ∧ Below w.heap.size w w' := by
 have L := fun W => hid (szInts A n c left W hn h0 h1)
 have hb : Below w.heap.size w (w.alloc (.cells #[.slice A n c] 24)) := (Below.refl _ _).alloc (Nat.le_refl _) _
 by_cases h : left - n < 0
 ·rw [if_pos h] at L ⊢
  go_enter Try.func9, Try.ntmps9
  go_wp2_with fail
  refine (L _).out.mono ?_
  rintro e w' ⟨rfl, rfl⟩
  go_wp2
  go_ret
  exact ⟨rfl, hb⟩
 ·rw [if_neg h] at L ⊢
  go_enter Try.func9, Try.ntmps9
  go_wp2_with fail
  refine (L _).out.mono ?_
  rintro e w' ⟨rfl, rfl⟩
  go_wp2
  go_ret
  exact ⟨rfl, hb⟩
def CopySig (w : World) (n : Nat) (xs : List Int) (e : Ending) (w' : World) : Prop :=
 ∃ g cs, e = .returned (.agg #[.slice (some ⟨g, 0, none⟩) n n]) ∧ w.heap.size ≤ g ∧ Row w' g 2 cs ∧ cs.size = n ∧ (∀ j, j < n → cs[j]? = some (.int .i64 (xs.getD j 0))) ∧ Below w.heap.size w w'
set_option maxHeartbeats 400000 in
theorem toSig (A : Option Addr) (n c : Nat) (xs : List Int) (w : World) (h : Seg w w.heap.size A n xs) (hn : n ≤ 1048576) :
  Calls Try.prog 12 #[.agg #[.slice A n c]] w (CopySig w n xs) := by
 obtain ⟨W, hW⟩ : ∃ W, W = ((w.alloc (.cells #[.slice A n c] 24)).alloc (.cells #[.slice none 0 0] 29)).alloc (.cells #[.slice none 0 0] 29) := ⟨_, rfl⟩
 have hz : W.heap.size = w.heap.size + 1 + 1 + 1 := by rw [hW]; simp
 have r1 : Row W (w.heap.size + 1) 29 #[.slice none 0 0] := by
  rw [hW]; have := (Row.new (w.alloc (.cells #[.slice A n c] 24)) 29 #[.slice none 0 0]).alloc (.cells #[.slice none 0 0] 29); simpa using this
 have r2 : Row W (w.heap.size + 1 + 1) 29 #[.slice none 0 0] := by
  rw [hW]; have := Row.new ((w.alloc (.cells #[.slice A n c] 24)).alloc (.cells #[.slice none 0 0] 29)) 29 #[.slice none 0 0]; simpa using this
 have s : Seg W W.heap.size A n xs := by
  have : Seg W w.heap.size A n xs := by rw [hW]; exact ((h.alloc (Nat.le_refl _) _).alloc (by simp) _).alloc (by simp; omega) _
  exact this.more (by omega)
 have b : Below w.heap.size w W := by rw [hW]; exact (((Below.refl _ _).alloc (Nat.le_refl _) _).alloc (by simp) _).alloc (by simp; omega) _
 have L := hid (toInts A n c xs W s hn)
 have HW := hid hW
 clear hW s h
 go_enter Try.func12, Try.ntmps12
 go_wp2_with fail
 rw [← HW.out]
 refine L.out.mono ?_
 rintro e w' ⟨cs, rfl, hr, hs, hc, hz', hb⟩
 replace r1 := r1.next hb
 replace r2 := r2.next hb
 have c1 : w'.cell? ⟨w.heap.size + 1, 0, none⟩ = some (.slice none 0 0) := r1.cell 0
 have c2 : w'.cell? ⟨w.heap.size + 1 + 1, 0, none⟩ = some (.slice none 0 0) := r2.cell 0
 have f1 : w'.frozen? ⟨w.heap.size + 1, 0, none⟩ = false := r1.free 0
 have f2 : w'.frozen? ⟨w.heap.size + 1 + 1, 0, none⟩ = false := r2.free 0
 rw [hz] at hr ⊢
 have B : Below w.heap.size w w' := b.trans (hb.mono (by omega))
 have S : CopySig w n xs (.returned (.agg #[.slice (some ⟨w.heap.size + 1 + 1 + 1, 0, none⟩) n n]))
   ((w'.setCell ⟨w.heap.size + 1 + 1, 0, none⟩ (.slice (some ⟨w.heap.size + 1 + 1 + 1, 0, none⟩) n n)).setCell ⟨w.heap.size + 1, 0, none⟩ (.slice (some ⟨w.heap.size + 1 + 1 + 1, 0, none⟩) n n)) :=
  ⟨_, cs, rfl, by omega, (hr.far (by simp) _).far (by simp; omega) _, hs, hc, (B.setCell (by simp; omega) _).setCell (by simp) _⟩
 have HS := hid S
 clear S hc hr hs hz hz' hb b B r1 r2
 go_wp2
 exact bodyPost_ret (v := .agg #[.slice (some ⟨w.heap.size + 1 + 1 + 1, 0, none⟩) n n]) (by simp [results, Try.results12, go_sem, c1]) rfl HS.out
theorem eqSigYes (A A' : Option Addr) (n c c' : Nat) (xs : List Int) (w : World) (h : Seg w w.heap.size A n xs) (h' : Seg w w.heap.size A' n xs) (hn : n ≤ 1048576) :
  Calls Try.prog 16 #[.agg #[.slice A n c], .agg #[.slice A' n c']] w fun e w' => e = .returned (.bool true) ∧ Below w.heap.size w w' := by
 obtain ⟨W, hW⟩ : ∃ W, W = (w.alloc (.cells #[.slice A n c] 29)).alloc (.cells #[.slice A' n c'] 29) := ⟨_, rfl⟩
 have s : Seg W W.heap.size A n xs := by
  have : Seg W w.heap.size A n xs := by rw [hW]; exact (h.alloc (Nat.le_refl _) _).alloc (by simp) _
  exact this.more (by rw [hW]; simp; omega)
 have s' : Seg W W.heap.size A' n xs := by
  have : Seg W w.heap.size A' n xs := by rw [hW]; exact (h'.alloc (Nat.le_refl _) _).alloc (by simp) _
  exact this.more (by rw [hW]; simp; omega)
 have b : Below w.heap.size w W := by rw [hW]; exact ((Below.refl _ _).alloc (Nat.le_refl _) _).alloc (by simp) _
 have L := hid (eqYes A A' n c c' xs W s s' hn)
 have HW := hid hW
 clear hW s s' h h'
 go_enter Try.func16, Try.ntmps16
 go_wp2_with fail
 rw [← HW.out]
 refine L.out.mono ?_
 rintro e w' ⟨rfl, d, rfl⟩
 replace b := below_drewN b d
 go_wp2
 go_ret
 exact ⟨rfl, b⟩
def arityOk (a : Int) : Bool := decide (0 ≤ a ∧ a ≤ 3)
def sigOkB (xs : List Int) : Bool := decide (1 ≤ xs.length ∧ xs.length ≤ 8) && xs.all arityOk
theorem inYes (x lo hi : Int) (w : World) (h : lo ≤ x ∧ x ≤ hi) : Calls Try.prog 87 #[.int .i64 x, .int .i64 lo, .int .i64 hi] w fun e w' => w = w' ∧ e = .returned (.bool true) := by
 obtain ⟨h1, h2⟩ := h
 go_enter Try.func87, Try.ntmps87
 go_wp2
 go_ret
 exact ⟨rfl, rfl⟩
theorem inNo (x lo hi : Int) (w : World) (h : ¬ (lo ≤ x ∧ x ≤ hi)) : Calls Try.prog 87 #[.int .i64 x, .int .i64 lo, .int .i64 hi] w fun e w' => w = w' ∧ e = .returned (.bool false) := by
 by_cases h1 : lo ≤ x
 ·have h2 : decide (x ≤ hi) = false := by simp; omega
  go_enter Try.func87, Try.ntmps87
  go_wp2
  go_ret
  exact ⟨rfl, rfl⟩
 ·go_enter Try.func87, Try.ntmps87
  go_wp2
  go_ret
  exact ⟨rfl, rfl⟩
def AnsSig (w : World) (xs : List Int) (e : Ending) (w' : World) : Prop := e = .returned (.bool (sigOkB xs)) ∧ Below w.heap.size w w'
theorem sig_len {w w' : World} {xs : List Int} {n : Nat} (hx : xs.length = n) (h : ¬ (1 ≤ n ∧ n ≤ 8)) (hb : Below w.heap.size w w') : AnsSig w xs (.returned (.bool false)) w' :=
 ⟨by unfold sigOkB; rw [decide_eq_false (by omega), Bool.false_and], hb⟩
theorem sig_bad {w w' : World} {xs : List Int} {n k : Nat} {x : Int} (hx : xs.length = n) (hk : k < n) (ex : Hid (xs.getD k 0 = x)) (h : ¬ (0 ≤ x ∧ x ≤ 3)) (hb : Below w.heap.size w w') : AnsSig w xs (.returned (.bool false)) w' := by
 refine ⟨?_, hb⟩
 have hm : x ∈ xs := by
  have := ex.out
  subst hx
  rw [← this]
  simp [List.getD, hk]
 have : xs.all arityOk = false := by
  rw [List.all_eq_false]
  exact ⟨x, hm, by simp [arityOk]; omega⟩
 unfold sigOkB
 rw [this, Bool.and_false]
theorem sig_good {w w' : World} {xs : List Int} {n k : Nat} (hx : xs.length = n) (h : 1 ≤ n ∧ n ≤ 8) (hn : ¬ k < n) (hc : ∀ j, j < k → 0 ≤ xs.getD j 0 ∧ xs.getD j 0 ≤ 3) (hb : Below w.heap.size w w') : AnsSig w xs (.returned (.bool true)) w' := by
 refine ⟨?_, hb⟩
 have : xs.all arityOk = true := by
  rw [List.all_eq_true]
  intro x hxm
  obtain ⟨j, hj, rfl⟩ := List.getElem_of_mem hxm
  have := hc j (by omega)
  simp [List.getD, hj] at this
  simp [arityOk, this]
 unfold sigOkB
 rw [this, Bool.and_true, decide_eq_true (by omega)]
def HeadSig (n : Nat) (xs : List Int) (i : Value) : Prop := ∃ k : Nat, k ≤ n ∧ i = .int .i64 k ∧ ∀ j, j < k → 0 ≤ xs.getD j 0 ∧ xs.getD j 0 ≤ 3
theorem headSig_step {n k : Nat} {xs : List Int} {x : Int} (hk : k < n) (h : ∀ j, j < k → 0 ≤ xs.getD j 0 ∧ xs.getD j 0 ≤ 3) (hx : Hid (xs.getD k 0 = x)) (h0 : 0 ≤ x ∧ x ≤ 3) : HeadSig n xs (.int .i64 ((k : Int) + 1)) :=
 ⟨k + 1, hk, by simp, fun j hj => by
  by_cases e : j = k
  ·subst e; rw [hx.out]; exact h0
  ·exact h j (by omega)⟩
set_option maxHeartbeats 400000 in
theorem specSigOk (A : Option Addr) (n c : Nat) (xs : List Int) (w : World) (h : Seg w w.heap.size A n xs) (hn : n ≤ 1048576) :
  Calls Try.prog 83 #[.agg #[.slice A n c]] w (AnsSig w xs) := by
 have b : Below w.heap.size w (w.alloc (.cells #[.slice A n c] 29)) := (Below.refl _ _).alloc (Nat.le_refl _) _
 by_cases hl : 1 ≤ n ∧ n ≤ 8
 ·go_enter Try.func83, Try.ntmps83
  go_wp2_with fail
  refine (inYes _ _ _ _ (by omega)).mono ?_
  rintro e w' ⟨rfl, rfl⟩
  go_wp2_with fail
  go_loop [3] (fun i => HeadSig n xs i) (fun i => n - (intOf i).toNat)
  case atStart => exact ⟨0, Nat.zero_le _, rfl, fun j h => absurd h (Nat.not_lt_zero _)⟩
  case round =>
   obtain ⟨k, hk, rfl, hc⟩ := hrel
   by_cases hlt : k < n
   ·obtain ⟨g, off, x, rfl, hg, hx, ex⟩ := h.spot hlt
    by_cases hin : 0 ≤ x ∧ x ≤ 3
    ·have S := hid (headSig_step (n := n) hlt hc ex hin)
     have L := hid (fun W => inYes x 0 3 W hin)
     clear hc h ex hin
     go_wp2_with fail
     refine (L.out _).mono ?_
     rintro e w' ⟨rfl, rfl⟩
     go_wp2
     go_round
     case rel => exact S.out
     case measure => simp [intOf]; omega
    ·have S := hid (sig_bad h.1 hlt ex hin b)
     have L := hid (fun W => inNo x 0 3 W hin)
     clear hc h ex hin b
     go_wp2_with fail
     refine (L.out _).mono ?_
     rintro e w' ⟨rfl, rfl⟩
     go_wp2
     go_ret
     exact S.out
   ·have S := hid (sig_good h.1 hl hlt hc b)
    clear hc h b
    go_wp2
    go_ret
    exact S.out
 ·have S := hid (sig_len h.1 hl b)
  clear h b
  go_enter Try.func83, Try.ntmps83
  go_wp2_with fail
  refine (inNo _ _ _ _ (by omega)).mono ?_
  rintro e w' ⟨rfl, rfl⟩
  go_wp2
  go_ret
  exact S.out
set_option maxHeartbeats 400000 in
theorem implSigOk (A : Option Addr) (n c : Nat) (xs : List Int) (w : World) (h : Seg w w.heap.size A n xs) (hn : n ≤ 1048576) :
  Calls Try.prog 92 #[.agg #[.slice A n c]] w (AnsSig w xs) := by
 have b : Below w.heap.size w (w.alloc (.cells #[.slice A n c] 29)) := (Below.refl _ _).alloc (Nat.le_refl _) _
 by_cases hl : 1 ≤ n ∧ n ≤ 8
 ·obtain ⟨hl1, hl2⟩ := hl
  go_enter Try.func92, Try.ntmps92
  go_wp2_with fail
  go_loop [18] (fun i => HeadSig n xs i) (fun i => n - (intOf i).toNat)
  case atStart => exact ⟨0, Nat.zero_le _, rfl, fun j h => absurd h (Nat.not_lt_zero _)⟩
  case round =>
   obtain ⟨k, hk, rfl, hc⟩ := hrel
   by_cases hlt : k < n
   ·obtain ⟨g, off, x, rfl, hg, hx, ex⟩ := h.spot hlt
    by_cases hin : 0 ≤ x ∧ x ≤ 3
    ·have S := hid (headSig_step (n := n) hlt hc ex hin)
     obtain ⟨hin1, hin2⟩ := hin
     clear hc h ex
     go_wp2
     go_round
     case rel => exact S.out
     case measure => simp [intOf]; omega
    ·have S := hid (sig_bad h.1 hlt ex hin b)
     clear hc h ex b
     by_cases hx0 : x < 0
     ·go_wp2
      go_ret
      exact S.out
     ·have hx3 : 3 < x := by omega
      go_wp2
      go_ret
      exact S.out
   ·have S := hid (sig_good h.1 ⟨hl1, hl2⟩ hlt hc b)
    clear hc h b
    go_wp2
    go_ret
    exact S.out
 ·have S := hid (sig_len h.1 hl b)
  clear h b
  by_cases hl1 : n < 1
  ·go_enter Try.func92, Try.ntmps92
   go_wp2
   go_ret
   exact S.out
  ·have hl2 : 8 < n := by omega
   go_enter Try.func92, Try.ntmps92
   go_wp2
   go_ret
   exact S.out
end sig
end
section
namespace term
def ar (sg : List Int) (x : Int) : Int := if -24 ≤ x ∧ x ≤ -1 then 0 else if 0 ≤ x ∧ x < sg.length then sg.getD x.toNat 0 else -1
def Arities (sg : List Int) : Prop := ∀ j, j < sg.length → 0 ≤ sg.getD j 0 ∧ sg.getD j 0 ≤ 3
theorem ar_var {sg : List Int} {x : Int} (h : -24 ≤ x ∧ x ≤ -1) : ar sg x = 0 := by unfold ar; rw [if_pos h]
theorem ar_sym {sg : List Int} {x : Int} (h : 0 ≤ x) (h' : x < sg.length) : ar sg x = sg.getD x.toNat 0 := by unfold ar; rw [if_neg (by omega), if_pos ⟨h, h'⟩]
theorem ar_no {sg : List Int} {x : Int} (h : ¬ (-24 ≤ x ∧ x ≤ -1)) (h' : ¬ (0 ≤ x ∧ x < sg.length)) : ar sg x = -1 := by unfold ar; rw [if_neg h, if_neg h']
theorem ar_bd {sg : List Int} (hs : Arities sg) (x : Int) : -1 ≤ ar sg x ∧ ar sg x ≤ 3 := by
 unfold ar
 split
 ·omega
 ·split
  ·have := hs x.toNat (by omega); omega
  ·omega
def scan (sg : List Int) : Nat → List Int → Option Nat
 | 0, _ => some 0
 | _ + 1, [] => none
 | m + 1, x :: r => if ar sg x < 0 then none else (scan sg (m + (ar sg x).toNat) r).map (· + 1)
theorem scan_zero (sg l : List Int) : scan sg 0 l = some 0 := by cases l <;> rfl
theorem scan_nil (sg : List Int) (m : Nat) : scan sg (m + 1) [] = none := rfl
theorem scan_bad {sg : List Int} {m : Nat} {x : Int} {r : List Int} (h : ar sg x < 0) : scan sg (m + 1) (x :: r) = none := by rw [scan, if_pos h]
theorem scan_step {sg : List Int} {m : Nat} {x : Int} {r : List Int} (h : ¬ ar sg x < 0) : scan sg (m + 1) (x :: r) = (scan sg (m + (ar sg x).toNat) r).map (· + 1) := by rw [scan, if_neg h]
theorem drop_cons {xs : List Int} {k : Nat} (hk : k < xs.length) : xs.drop k = xs.getD k 0 :: xs.drop (k + 1) := by
 rw [List.drop_eq_getElem_cons hk]
 simp [List.getD, hk]
def Scn (sg t : List Int) (at_ k m : Nat) : Prop := at_ ≤ k ∧ k ≤ t.length ∧ scan sg 1 (t.drop at_) = (scan sg m (t.drop k)).map (· + (k - at_))
theorem Scn.start {sg t : List Int} {at_ : Nat} (h : at_ ≤ t.length) : Scn sg t at_ at_ 1 := by
 refine ⟨Nat.le_refl _, h, ?_⟩
 rw [Nat.sub_self]
 cases scan sg 1 (t.drop at_) <;> rfl
theorem Scn.step {sg t : List Int} {at_ k m : Nat} {x : Int} (h : Scn sg t at_ k (m + 1)) (hk : k < t.length) (hx : t.getD k 0 = x) (ha : ¬ ar sg x < 0) : Scn sg t at_ (k + 1) (m + (ar sg x).toNat) := by
 obtain ⟨h1, h2, h3⟩ := h
 refine ⟨by omega, hk, ?_⟩
 rw [h3, drop_cons hk, hx, scan_step ha, Option.map_map]
 congr 1
 funext z
 simp only [Function.comp]
 omega
theorem Scn.bad {sg t : List Int} {at_ k m : Nat} {x : Int} (h : Scn sg t at_ k (m + 1)) (hk : k < t.length) (hx : t.getD k 0 = x) (ha : ar sg x < 0) : scan sg 1 (t.drop at_) = none := by
 rw [h.2.2, drop_cons hk, hx, scan_bad ha]
 rfl
theorem Scn.out {sg t : List Int} {at_ k m : Nat} (h : Scn sg t at_ k (m + 1)) (hk : ¬ k < t.length) : scan sg 1 (t.drop at_) = none := by
 rw [h.2.2, List.drop_eq_nil_of_le (by omega), scan_nil]
 rfl
theorem Scn.done {sg t : List Int} {at_ k : Nat} (h : Scn sg t at_ k 0) : scan sg 1 (t.drop at_) = some (k - at_) := by
 rw [h.2.2, scan_zero]
 simp
def endI (sg t : List Int) (at_ : Nat) : Int := match scan sg 1 (t.drop at_) with
 | some j => (at_ : Int) + j
 | none => -1
theorem endI_some {sg t : List Int} {at_ j : Nat} (h : scan sg 1 (t.drop at_) = some j) : endI sg t at_ = (at_ : Int) + j := by unfold endI; rw [h]
theorem endI_none {sg t : List Int} {at_ : Nat} (h : scan sg 1 (t.drop at_) = none) : endI sg t at_ = -1 := by unfold endI; rw [h]
theorem Scn.endI {sg t : List Int} {at_ k : Nat} (h : Scn sg t at_ k 0) : endI sg t at_ = (k : Int) := by
 rw [endI_some h.done]; have := h.1; omega
def termB (sg t : List Int) : Bool := decide (t.length ≤ 60) && decide (scan sg 1 t = some t.length)
end term
end
section
namespace arity
open Go.RowKit base ints sig term
def AnsAr (w : World) (sg : List Int) (x : Int) (e : Ending) (w' : World) : Prop := e = .returned (.int .i64 (ar sg x)) ∧ Below w.heap.size w w'
set_option maxHeartbeats 400000 in
theorem specArity (A : Option Addr) (n c : Nat) (sg : List Int) (x : Int) (w : World) (h : Seg w w.heap.size A n sg) (hn : n ≤ 1048576) :
  Calls Try.prog 115 #[.agg #[.slice A n c], .int .i64 x] w (AnsAr w sg x) := by
 have b : Below w.heap.size w (w.alloc (.cells #[.slice A n c] 29)) := (Below.refl _ _).alloc (Nat.le_refl _) _
 by_cases hv : -24 ≤ x ∧ x ≤ -1
 ·have S : AnsAr w sg x (.returned (.int .i64 0)) (w.alloc (.cells #[.slice A n c] 29)) := ⟨by rw [ar_var hv], b⟩
  have HS := Lib.hid S
  clear S h
  go_enter Try.func115, Try.ntmps115
  go_wp2_with fail
  refine (inYes _ _ _ _ hv).mono ?_
  rintro e w' ⟨rfl, rfl⟩
  go_wp2
  go_ret
  exact HS.out
 ·by_cases hs : 0 ≤ x ∧ x ≤ (n : Int) - 1
  ·obtain ⟨k, hk⟩ : ∃ k : Nat, x = k := ⟨x.toNat, by omega⟩
   subst hk
   have hlt : k < n := by omega
   obtain ⟨g, off, y, rfl, hg, hy, ey⟩ := h.spot hlt
   have S : AnsAr w sg (k : Int) (.returned (.int .i64 y)) (w.alloc (.cells #[.slice (some ⟨g, off, none⟩) n c] 29)) := ⟨by rw [ar_sym (by omega) (by have := h.1; omega), Int.toNat_natCast, ey.out], b⟩
   have HS := Lib.hid S
   clear S h ey
   go_enter Try.func115, Try.ntmps115
   go_wp2_with fail
   refine (inNo _ _ _ _ hv).mono ?_
   rintro e w' ⟨rfl, rfl⟩
   go_wp2_with fail
   refine (inYes _ _ _ _ hs).mono ?_
   rintro e w' ⟨rfl, rfl⟩
   go_wp2
   go_ret
   exact HS.out
  ·have S : AnsAr w sg x (.returned (.int .i64 (-1))) (w.alloc (.cells #[.slice A n c] 29)) := ⟨by rw [ar_no hv (by have := h.1; omega)], b⟩
   have HS := Lib.hid S
   clear S h
   go_enter Try.func115, Try.ntmps115
   go_wp2_with fail
   refine (inNo _ _ _ _ hv).mono ?_
   rintro e w' ⟨rfl, rfl⟩
   go_wp2_with fail
   refine (inNo _ _ _ _ hs).mono ?_
   rintro e w' ⟨rfl, rfl⟩
   go_wp2
   go_ret
   exact HS.out
set_option maxHeartbeats 400000 in
theorem implArity (A : Option Addr) (n c : Nat) (sg : List Int) (x : Int) (w : World) (h : Seg w w.heap.size A n sg) (hn : n ≤ 1048576) :
  Calls Try.prog 130 #[.agg #[.slice A n c], .int .i64 x] w (AnsAr w sg x) := by
 have b : Below w.heap.size w (w.alloc (.cells #[.slice A n c] 29)) := (Below.refl _ _).alloc (Nat.le_refl _) _
 by_cases hx0 : 0 ≤ x
 ·by_cases hxn : x < (n : Int)
  ·obtain ⟨k, hk⟩ : ∃ k : Nat, x = k := ⟨x.toNat, by omega⟩
   subst hk
   have hlt : k < n := by omega
   obtain ⟨g, off, y, rfl, hg, hy, ey⟩ := h.spot hlt
   have S : AnsAr w sg (k : Int) (.returned (.int .i64 y)) (w.alloc (.cells #[.slice (some ⟨g, off, none⟩) n c] 29)) := ⟨by rw [ar_sym (by omega) (by have := h.1; omega), Int.toNat_natCast, ey.out], b⟩
   have HS := Lib.hid S
   clear S h ey
   go_enter Try.func130, Try.ntmps130
   go_wp2
   go_ret
   exact HS.out
  ·have S : AnsAr w sg x (.returned (.int .i64 (-1))) (w.alloc (.cells #[.slice A n c] 29)) := ⟨by rw [ar_no (by omega) (by have := h.1; omega)], b⟩
   have HS := Lib.hid S
   have d1 : decide (x < (n : Int)) = false := by simp; omega
   have d2 : decide (x < 0) = false := by simp; omega
   clear S h
   go_enter Try.func130, Try.ntmps130
   go_wp2
   go_ret
   exact HS.out
 ·by_cases hxv : -24 ≤ x
  ·have S : AnsAr w sg x (.returned (.int .i64 0)) (w.alloc (.cells #[.slice A n c] 29)) := ⟨by rw [ar_var (by omega)], b⟩
   have HS := Lib.hid S
   clear S h
   go_enter Try.func130, Try.ntmps130
   go_wp2
   go_ret
   exact HS.out
  ·have S : AnsAr w sg x (.returned (.int .i64 (-1))) (w.alloc (.cells #[.slice A n c] 29)) := ⟨by rw [ar_no (by omega) (by omega)], b⟩
   have HS := Lib.hid S
   have d1 : decide (-24 ≤ x) = false := by simp; omega
   clear S h
   go_enter Try.func130, Try.ntmps130
   go_wp2
   go_ret
   exact HS.out
end arity
end
section
open Go.Lib (hid)
namespace cursor
open Go.RowKit base ints sig term arity
structure Cur (w : World) (p : Nat) (A : Option Addr) (n c : Nat) (A' : Option Addr) (m c' : Nat) (sg t : List Int) (k : Nat) : Prop where
 row : Row w p 92 #[.slice A n c, .slice A' m c', .int .i64 k]
 s : Seg w p A n sg
 s' : Seg w p A' m t
 le : k ≤ m
 hn : n ≤ 1048576
 hm : m ≤ 1048576
 ars : Arities sg
theorem grown_trans {a b c : World} {r : Option Nat} (h : a.grownBy b r) (k : b.grownBy c r) : a.grownBy c r :=
 ⟨k.os.trans h.os, k.tape.trans h.tape, k.output.trans h.output, Nat.le_trans h.size k.size, fun i hi hn => (k.block i (Nat.lt_of_lt_of_le hi h.size) hn).trans (h.block i hi hn)⟩
theorem grown_below {a b : World} (h : Below a.heap.size a b) (r : Option Nat) : a.grownBy b r := ⟨h.os, h.tape, h.output, h.size, fun i hi _ => h.block i hi⟩
theorem grown_drewN {a b : World} {r : Option Nat} (h : a.grownBy b r) (d : Nat) : a.grownBy (b.drewN d) r := ⟨h.os, h.tape, h.output, h.size, h.block⟩
theorem grown_put {a b : World} {p : Nat} (h : a.grownBy b (some p)) (i : Nat) (u : Value) : a.grownBy (b.setCell ⟨p, i, none⟩ u) (some p) :=
 ⟨h.os, h.tape, h.output, by simpa [World.setCell] using h.size, fun k hk hn => (Below.heap_setCell _ _ _ _ (by intro e; exact hn (by rw [e]))).trans (h.block k hk hn)⟩
def AnsNext (w : World) (p : Nat) (A : Option Addr) (n c : Nat) (A' : Option Addr) (m c' : Nat) (sg t : List Int) (k : Nat) (e : Ending) (w' : World) : Prop :=
 w.grownBy w' (some p) ∧ ((k < m ∧ e = .returned (.int .i64 (ar sg (t.getD k 0))) ∧ Cur w' p A n c A' m c' sg t (k + 1)) ∨ (k = m ∧ e = .returned (.int .i64 (-1)) ∧ Cur w' p A n c A' m c' sg t k))
theorem Cur.below {w w' : World} {p : Nat} {A : Option Addr} {n c : Nat} {A' : Option Addr} {m c' : Nat} {sg t : List Int} {k : Nat} (h : Cur w p A n c A' m c' sg t k) (hb : Below w.heap.size w w') : Cur w' p A n c A' m c' sg t k :=
 have hp := h.row.lt
 ⟨h.row.next hb, h.s.below (hb.mono (Nat.le_of_lt hp)), h.s'.below (hb.mono (Nat.le_of_lt hp)), h.le, h.hn, h.hm, h.ars⟩
theorem Cur.drewN {w : World} {p : Nat} {A : Option Addr} {n c : Nat} {A' : Option Addr} {m c' : Nat} {sg t : List Int} {k : Nat} (h : Cur w p A n c A' m c' sg t k) (d : Nat) : Cur (w.drewN d) p A n c A' m c' sg t k :=
 ⟨h.row, h.s, h.s', h.le, h.hn, h.hm, h.ars⟩
theorem Cur.step {w : World} {p : Nat} {A : Option Addr} {n c : Nat} {A' : Option Addr} {m c' : Nat} {sg t : List Int} {k : Nat} (h : Cur w p A n c A' m c' sg t k) (hk : k < m) (d : Nat) :
  Cur ((w.drewN d).setCell ⟨p, 2, none⟩ (.int .i64 ((k : Int) + 1))) p A n c A' m c' sg t (k + 1) := by
 have r := (h.row.drewN d).put 2 (.int .i64 ((k : Int) + 1))
 refine ⟨?_, (h.s.drewN d).put (p := ⟨p, 2, none⟩) (Nat.le_refl _) _, (h.s'.drewN d).put (p := ⟨p, 2, none⟩) (Nat.le_refl _) _, hk, h.hn, h.hm, h.ars⟩
 have e : (.int .i64 ((k : Int) + 1) : Value) = .int .i64 ((k + 1 : Nat) : Int) := by simp
 rw [← e]
 exact r
set_option maxHeartbeats 1000000 in
theorem next (p : Nat) (A : Option Addr) (n c : Nat) (A' : Option Addr) (m c' : Nat) (sg t : List Int) (k : Nat) (w : World) (h : Cur w p A n c A' m c' sg t k) :
  Calls Try.prog 116 #[.pointer (some ⟨p, 0, none⟩)] w (AnsNext w p A n c A' m c' sg t k) := by
 have hr := h.row
 have hk := h.le
 have hm := h.hm
 have hp : p < w.heap.size := hr.lt
 have c0 : w.cell? ⟨p, 0, none⟩ = some (.slice A n c) := hr.cell 0
 have c1 : w.cell? ⟨p, 1, none⟩ = some (.slice A' m c') := hr.cell 1
 have c2 : w.cell? ⟨p, 2, none⟩ = some (.int .i64 k) := hr.cell 2
 have f2 : w.frozen? ⟨p, 2, none⟩ = false := hr.free 2
 by_cases hlt : k < m
 ·obtain ⟨b, off, x, rfl, hbb, hx, ex⟩ := h.s'.spot hlt
  have i0 : (0 : Int) ≤ (k : Int) := by omega
  have i1 : (k : Int) < (m : Int) := by omega
  have HS := hid (fun d => h.step hlt d)
  have HG := hid (fun d => grown_put (grown_drewN (World.grownBy.refl w (some p)) d) 2 (.int .i64 ((k : Int) + 1)))
  clear hr h
  go_enter Try.func116, Try.ntmps116
  go_wp2
  go_quiet (fail)
  go_wp2
  go_quiet (fail)
  go_wp2_with fail
  refine (implArity A n c sg x _ ((HS.out _).s.more (Nat.le_of_lt (HS.out _).row.lt)) (HS.out 0).hn).mono ?_
  rintro e w' ⟨rfl, bb⟩
  have F : AnsNext w p A n c (some ⟨b, off, none⟩) m c' sg t k (.returned (.int .i64 (ar sg x))) w' :=
   ⟨grown_trans (HG.out _) (grown_below bb _), .inl ⟨hlt, by rw [ex.out], (HS.out _).below bb⟩⟩
  have HF := hid F
  clear F HG HS bb ex
  go_wp2
  go_ret
  exact HF.out
 ·have e : k = m := by omega
  have HS := hid (fun d => h.drewN d)
  have HE := hid e
  have i2 : decide (m ≤ k) = true := by simp; omega
  clear e hr h
  go_enter Try.func116, Try.ntmps116
  go_wp2
  go_quiet (fail)
  go_wp2
  go_ret
  exact ⟨grown_drewN (World.grownBy.refl w (some p)) _, .inr ⟨HE.out, rfl, HS.out _⟩⟩
def AnsPass (w : World) (p : Nat) (A : Option Addr) (n c : Nat) (A' : Option Addr) (m c' : Nat) (sg t : List Int) (k : Nat) (e : Ending) (w' : World) : Prop :=
 w.grownBy w' (some p) ∧ ((∃ j, scan sg 1 (t.drop k) = some j ∧ e = .returned (.bool true) ∧ Cur w' p A n c A' m c' sg t (k + j)) ∨ (scan sg 1 (t.drop k) = none ∧ e = .returned (.bool false) ∧ ∃ k', Cur w' p A n c A' m c' sg t k'))
def HeadPass (w : World) (p : Nat) (A : Option Addr) (n c : Nat) (A' : Option Addr) (m c' : Nat) (sg t : List Int) (a : Nat) (q : Value) (wr : World) : Prop :=
 ∃ k q' : Nat, q = .int .i64 q' ∧ q' ≤ 3 * k + 1 ∧ Scn sg t a k q' ∧ Cur wr p A n c A' m c' sg t k ∧ w.grownBy wr (some p)
def placeOf (p : Nat) (wr : World) : Nat := (intOf ((wr.cell? ⟨p, 2, none⟩).getD undef)).toNat
theorem placeOf_cur {w : World} {p : Nat} {A : Option Addr} {n c : Nat} {A' : Option Addr} {m c' : Nat} {sg t : List Int} {k : Nat} (h : Cur w p A n c A' m c' sg t k) : placeOf p w = k := by
 have c2 : w.cell? ⟨p, 2, none⟩ = some (.int .i64 k) := h.row.cell 2
 unfold placeOf
 rw [c2]
 simp [intOf]
set_option maxHeartbeats 1000000 in
theorem pass (p : Nat) (A : Option Addr) (n c : Nat) (A' : Option Addr) (m c' : Nat) (sg t : List Int) (a : Nat) (w : World) (h : Cur w p A n c A' m c' sg t a) :
  Calls Try.prog 93 #[.pointer (some ⟨p, 0, none⟩)] w (AnsPass w p A n c A' m c' sg t a) := by
 have hm := h.hm
 have HL := hid h.s'.1
 have hs := h.ars
 have H0 : HeadPass w p A n c A' m c' sg t a (.int .i64 1) w := ⟨a, 1, rfl, by omega, Scn.start (by rw [HL.out]; exact h.le), h, World.grownBy.refl _ _⟩
 have HH := hid H0
 clear H0 h
 go_enter Try.func93, Try.ntmps93
 go_wp2_with fail
 go_loopw [3, 4] (fun q _ wr => HeadPass w p A n c A' m c' sg t a q wr) (fun _ _ wr => m - placeOf p wr)
 case atStart => exact HH.out
 case round =>
  obtain ⟨k, q, rfl, hq, hl, hc, hg⟩ := hrel
  clear HH
  have hk := hc.le
  by_cases h0 : q = 0
  ·subst h0
   have S : AnsPass w p A n c A' m c' sg t a (.returned (.bool true)) wr := ⟨hg, .inl ⟨k - a, hl.done, rfl, by rw [show a + (k - a) = k by have := hl.1; omega]; exact hc⟩⟩
   have HS := hid S
   clear S hl hc hg
   go_wp2
   go_ret
   exact HS.out
  ·obtain ⟨q1, rfl⟩ : ∃ q1, q = q1 + 1 := ⟨q - 1, by omega⟩
   have hq0 : (0 : Int) < ((q1 + 1 : Nat) : Int) := by omega
   go_wp2_with fail
   refine (next p A n c A' m c' sg t k wr hc).mono ?_
   rintro e w2 ⟨g2, ⟨hlt, rfl, hc2⟩ | ⟨hk', rfl, hc2⟩⟩
   ·obtain ⟨z, hz⟩ : ∃ z, ar sg (t.getD k 0) = z := ⟨_, rfl⟩
    have hzb := ar_bd hs (t.getD k 0)
    rw [hz] at hzb ⊢
    by_cases hneg : z < 0
    ·have S : AnsPass w p A n c A' m c' sg t a (.returned (.bool false)) w2 := ⟨grown_trans hg g2, .inr ⟨hl.bad (by rw [HL.out]; exact hlt) rfl (by rw [hz]; exact hneg), rfl, _, hc2⟩⟩
     have HS := hid S
     clear S hl hc hg hc2 g2 hz
     go_wp2
     go_ret
     exact HS.out
    ·have hl' := hl.step (by rw [HL.out]; exact hlt) rfl (by rw [hz]; exact hneg)
     rw [hz] at hl'
     have S : HeadPass w p A n c A' m c' sg t a (.int .i64 ((q1 : Int) + z)) w2 := ⟨k + 1, q1 + z.toNat, by congr 1; omega, by omega, hl', hc2, grown_trans hg g2⟩
     have HS := hid S
     have M := hid (show m - placeOf p w2 < m - placeOf p wr by rw [placeOf_cur hc, placeOf_cur hc2]; omega)
     have hz1 := hzb.1
     have hz2 := hzb.2
     have hq2 : (q1 : Int) ≤ 3145728 := by omega
     clear S hl hc hg hc2 g2 hz hl' hzb
     go_wp2
     go_roundw
     case rel => rw [show (q1 : Int) + 1 + z - 1 = (q1 : Int) + z by omega]; exact HS.out
     case measure => exact M.out
   ·have S : AnsPass w p A n c A' m c' sg t a (.returned (.bool false)) w2 := ⟨grown_trans hg g2, .inr ⟨hl.out (by rw [HL.out]; omega), rfl, _, hc2⟩⟩
    have HS := hid S
    clear S hl hc hg hc2 g2
    go_wp2
    go_ret
    exact HS.out
end cursor
end
section
namespace marks
open Go.RowKit base ints sig cursor
def Own (w : World) (base : Nat) (v : Value) (xs : List Int) : Prop := w.ownsRow base 2 1 v xs.length (xs.map (Value.int .i64))
theorem Own.nil (w : World) (base : Nat) : Own w base (.slice none 0 0) [] := World.ownsRow_nil w base 2 1
theorem Own.form {w : World} {base : Nat} {v : Value} {xs : List Int} (h : Own w base v xs) : (v = .slice none 0 0 ∧ xs = []) ∨
  ∃ g c cur, v = .slice (some ⟨g, 0, none⟩) xs.length c ∧ base ≤ g ∧ Row w g 2 cur ∧ xs.length ≤ cur.size ∧ ∀ j, j < xs.length → cur[j]? = some (.int .i64 (xs.getD j 0)) := by
 obtain ⟨h1, h2⟩ := h
 rcases h2 with ⟨rfl, h0⟩ | ⟨g, cap, cur, rfl, hb, hg, hn, _, hs, ht⟩
 ·exact .inl ⟨rfl, List.eq_nil_of_length_eq_zero h0⟩
 ·refine .inr ⟨g, cap, cur, rfl, hb, hg, by omega, fun j hj => ?_⟩
  have h3 : (cur.toList.take (xs.length * 1))[j]? = (xs.map (Value.int .i64))[j]? := by rw [ht]
  rw [List.getElem?_take, if_pos (by omega)] at h3
  simpa [List.getD, hj] using h3
theorem Own.slice {w : World} {base : Nat} {v : Value} {xs : List Int} (h : Own w base v xs) : ∃ A c, v = .slice A xs.length c := by
 rcases h.form with ⟨rfl, rfl⟩ | ⟨g, c, _, rfl, _⟩
 ·exact ⟨none, 0, rfl⟩
 ·exact ⟨_, c, rfl⟩
theorem Own.seg {w : World} {base : Nat} {A : Option Addr} {n c : Nat} {xs : List Int} (h : Own w base (.slice A n c) xs) : Seg w w.heap.size A n xs := by
 rcases h.form with ⟨e, rfl⟩ | ⟨g, c', cur, e, hb, hr, hs, hc⟩
 ·injection e with e1 e2 e3
  subst e1 e2
  exact Seg.empty
 ·injection e with e1 e2 e3
  subst e1 e2
  exact hr.seg rfl hr.lt hc
theorem Own.next {w w' : World} {base : Nat} {v : Value} {xs : List Int} (h : Own w base v xs) (hb : Below w.heap.size w w') : Own w' base v xs :=
 World.ownsRow.kept h ⟨hb.os, hb.tape, hb.output, hb.size, fun k hk _ => hb.block k hk⟩ (row := none) (by cases v.ownBlock <;> simp)
theorem Own.of_row {w : World} {base g n c : Nat} {cs : Array Value} {xs : List Int} (hr : Row w g 2 cs) (hl : xs.length = n) (hs : cs.size = c) (hn : n ≤ c) (hm : c ≤ 9223372036854775807) (hb : base ≤ g) (hc : ∀ j, j < n → cs[j]? = some (.int .i64 (xs.getD j 0))) : Own w base (.slice (some ⟨g, 0, none⟩) n c) xs := by
 subst hl
 refine ⟨by simp, .inr ⟨g, c, cs, rfl, hb, hr, hn, by unfold maxLen; omega, by omega, ?_⟩⟩
 refine List.ext_getElem? fun j => ?_
 rw [List.getElem?_take]
 by_cases hj : j < xs.length
 ·rw [if_pos (by omega)]
  have := hc j hj
  simp [List.getD, hj] at this ⊢
  exact this
 ·rw [if_neg (by omega)]
  have : (xs.map (Value.int .i64))[j]? = none := List.getElem?_eq_none (by simp; omega)
  rw [this]
def blk (A : Option Addr) : Option Nat := A.map (·.block)
theorem Seg.far {w w' : World} {B n : Nat} {A : Option Addr} {xs : List Int} {r : Option Nat} (h : Seg w B A n xs) (hg : w.grownBy w' r) (hB : B ≤ w.heap.size) (hr : ∀ k, r = some k → B ≤ k) : Seg w' B A n xs :=
 h.keep fun q hq => World.cell?_of_block (hg.block q.block (by omega) (fun e => by have := hr _ e.symm; omega))
theorem Own.far {w w' : World} {base : Nat} {v : Value} {xs : List Int} {r : Option Nat} (h : Own w base v xs) (hg : w.grownBy w' r) (hr : ∀ k, r = some k → k < base) : Own w' base v xs := by
 refine World.ownsRow.kept h hg ?_
 cases hv : v.ownBlock with
 | none => exact .inl rfl
 | some g =>
  right
  intro e
  have h1 := World.ownsRow.lt h g hv
  have h2 := hr g e.symm
  omega
theorem Row.away {w w' : World} {g : Nat} {t : TypeId} {cs : Array Value} {r : Option Nat} (h : Row w g t cs) (hg : w.grownBy w' r) (hr : r ≠ some g) : Row w' g t cs := (hg.block g h.lt (fun e => hr e.symm)).trans h
theorem Own.ge {w : World} {base : Nat} {A : Option Addr} {n c : Nat} {xs : List Int} (h : Own w base (.slice A n c) xs) : ∀ k, blk A = some k → base ≤ k := fun k hk => by
 refine (World.ownsRow.lt h k ?_).1
 cases A with
 | none => cases hk
 | some a => exact hk
theorem Own.drew {w : World} {base : Nat} {v : Value} {xs : List Int} (h : Own w base v xs) : Own w.drew base v xs := h
def marks (k : Int) (n : Nat) : List Int := (List.range n).map fun (j : Nat) => k + (j : Int)
theorem marks_len (k : Int) (n : Nat) : (marks k n).length = n := by simp [marks]
theorem marks_get {k : Int} {n j : Nat} (h : j < n) : (marks k n).getD j 0 = k + (j : Int) := by simp [marks, List.getD, h]
def HeadMark (w : World) (g n : Nat) (k : Int) (z : Nat) (kk i : Value) (wr : World) : Prop :=
 ∃ (j : Nat) (cs : Array Value), j ≤ n ∧ i = .int .i64 j ∧ kk = .int .i64 (k + (j : Int)) ∧ Row wr g 2 cs ∧ cs.size = z ∧ (∀ q, q < j → cs[q]? = some (.int .i64 (k + (q : Int)))) ∧ w.grownBy wr (some g)
theorem headMark_step {w wr : World} {g n : Nat} {k : Int} {z j : Nat} {cs : Array Value} (hj : j < n) (hz : n ≤ z) (hr : Row wr g 2 cs) (hs : cs.size = z) (hc : ∀ q, q < j → cs[q]? = some (.int .i64 (k + (q : Int)))) (hg : w.grownBy wr (some g)) :
  HeadMark w g n k z (.int .i64 (k + (j : Int) + 1)) (.int .i64 ((j : Int) + 1)) (wr.setCell ⟨g, j, none⟩ (.int .i64 (k + (j : Int)))) := by
 refine ⟨j + 1, _, hj, by simp, congrArg (Value.int .i64) (by omega), hr.put j _, by simp [hs], fun q hq => ?_, grown_put hg _ _⟩
 rw [Array.getElem?_setIfInBounds]
 by_cases e : j = q
 ·subst e; simp [hs]; try omega
 ·simp [e]; exact hc q (by omega)
theorem heldInts (A : Option Addr) (n c : Nat) (k : Int) (w : World) (h : Seg w w.heap.size A n (marks k n)) (hn : n ≤ 1048576) (hk0 : 0 ≤ k) (hk : k ≤ 1099511627776) :
  Calls Try.prog 21 #[.slice A n c, .int .i64 k] w fun e w' => w = w' ∧ e = .returned (.int .i64 (k + (n : Int))) := by
 go_enter Try.func21, Try.ntmps21
 go_wp2
 go_loop [1, 5] (fun kk i => ∃ j : Nat, j ≤ n ∧ i = .int .i64 j ∧ kk = .int .i64 (k + (j : Int))) (fun _ i => n - (intOf i).toNat)
 case atStart => exact ⟨0, Nat.zero_le _, rfl, by simp⟩
 case round =>
  obtain ⟨j, hj, rfl, rfl⟩ := hrel
  by_cases hlt : j < n
  ·obtain ⟨b, off, x, rfl, -, hx, ex⟩ := h.spot hlt
   have e1 : x = k + (j : Int) := by rw [← ex.out, marks_get hlt]
   subst e1
   have e2 : (k + (j : Int) != k + (j : Int)) = false := by simp
   clear h ex
   go_wp2
   go_round
   case rel => exact ⟨j + 1, hlt, by go_num, congrArg (Value.int .i64) (by omega)⟩
   case measure => simp [intOf]; omega
  ·have e : j = n := by omega
   subst e
   clear h
   go_wp2
   go_ret
   exact ⟨rfl, rfl⟩
end marks
end
section
namespace app
open Go.RowKit base ints marks
theorem Own.blk_ge {w : World} {base : Nat} {A : Option Addr} {n c : Nat} {xs : List Int} (h : Own w base (.slice A n c) xs) : ∀ k, (Value.slice A n c).ownBlock = some k → base ≤ k := fun k hk => (World.ownsRow.lt h k hk).1
theorem own_of {w : World} {base : Nat} {v : Value} {n : Nat} {xs : List Int} (h : w.ownsRow base 2 1 v n (xs.map (Value.int .i64))) : ∃ A c, v = .slice A n c ∧ Own w base (.slice A n c) xs := by
 have hl : n = xs.length := by have := h.1; simpa using this.symm
 subst hl
 obtain ⟨A, c, rfl⟩ := Own.slice (w := w) (base := base) (v := v) (xs := xs) h
 exact ⟨A, c, rfl, h⟩
theorem below_grown {w w' : World} {base : Nat} {A : Option Addr} {n c : Nat} {xs : List Int} (h : Own w base (.slice A n c) xs) (hg : w.grownBy w' (Value.slice A n c).ownBlock) (hb : base ≤ w.heap.size) : Below base w w' :=
 (Below.refl base w).grown hg hb (Own.blk_ge h)
set_option maxRecDepth 100000 in
theorem app1 {w : World} {ops : Array Oper} {rest : List Oper} {o : Oper} {a : Act} {Q : Exit → Act → World → Prop} (hgd : o.guard = none) (s x : Operand)
  (ho : o.op = .call { callee := .builtin .append, args := #[s, x], argTypes := #[22, 22] })
  (base : Nat) (A : Option Addr) (n c : Nat) (xs : List Int) (hs : a.eval s = .slice A n c) (hown : Own w base (.slice A n c) xs)
  (g c2 : Nat) (y : Int) (hx : a.eval x = .slice (some ⟨g, 0, none⟩) 1 c2) (hy : w.cell? ⟨g, 0, none⟩ = some (.int .i64 y)) (hn : n ≤ 2097152) (hbase : base ≤ w.heap.size)
  (h : ∀ A' c' w', Own w' base (.slice A' (n + 1) c') (xs ++ [y]) → Below base w w' → wpList Try.prog ops Q rest (a.put o.dst (.slice A' (n + 1) c')) w') : wpList Try.prog ops Q (o :: rest) a w := by
 obtain ⟨i0, hi, hz0, hz1, hz2⟩ := info_parts info_i64
 have hl : xs.length = n := by
  obtain ⟨A', c', e⟩ := hown.slice
  injection e with _ e _
  exact e.symm
 refine wpList_append_own w hgd s x 22 ho base 2 i0 (.int .i64 0) 1 8 Try.underlying22 hi hz0 hz1 hz2 rfl (by decide) (.slice A n c) n (xs.map (Value.int .i64)) hs (by rw [← hl]; rw [← hl] at hown; exact hown)
  ⟨g, 0, none⟩ 1 c2 [.int .i64 y] hx rfl (fun j u hj => ?_) (fun u hu => ?_) (by unfold maxLen; omega) (by omega) hbase ?_
 ·match j, hj with
  | 0, hj => simp at hj; subst hj; simpa [Addr.add] using hy
 ·simp at hu; subst hu; rfl
 ·intro v' w' hown' hg _
  have : xs.map (Value.int .i64) ++ [.int .i64 y] = (xs ++ [y]).map (Value.int .i64) := by simp
  rw [this] at hown'
  obtain ⟨A', c', rfl, ho'⟩ := own_of hown'
  exact h A' c' w' ho' (below_grown hown hg hbase)
set_option maxRecDepth 100000 in
theorem appAll {w : World} {ops : Array Oper} {rest : List Oper} {o : Oper} {a : Act} {Q : Exit → Act → World → Prop} (hgd : o.guard = none) (s x : Operand)
  (ho : o.op = .call { callee := .builtin .append, args := #[s, x], argTypes := #[22, 22] })
  (base : Nat) (A : Option Addr) (n c : Nat) (xs : List Int) (hs : a.eval s = .slice A n c) (hown : Own w base (.slice A n c) xs)
  (S : Option Addr) (m c2 B : Nat) (ys : List Int) (hx : a.eval x = .slice S m c2) (hseg : Seg w B S m ys) (hnone : S = none → c2 = 0) (hn : n ≤ 2097152) (hm : m ≤ 2097152) (hbase : base ≤ w.heap.size)
  (h : ∀ A' c' w', Own w' base (.slice A' (n + m) c') (xs ++ ys) → Below base w w' → wpList Try.prog ops Q rest (a.put o.dst (.slice A' (n + m) c')) w') : wpList Try.prog ops Q (o :: rest) a w := by
 obtain ⟨i0, hi, hz0, hz1, hz2⟩ := info_parts info_i64
 have hl : xs.length = n := by
  obtain ⟨A', c', e⟩ := hown.slice
  injection e with _ e _
  exact e.symm
 have ho1 : w.ownsRow base 2 1 (.slice A n c) n (xs.map (Value.int .i64)) := by rw [← hl]; rw [← hl] at hown; exact hown
 cases S with
 | none =>
  have hc := hnone rfl
  subst hc
  have hm0 : m = 0 := by
   rcases Nat.eq_zero_or_pos m with h0 | h0
   ·exact h0
   ·obtain ⟨b, off, e, _⟩ := hseg.2 h0
    cases e
  subst hm0
  have hy : ys = [] := List.eq_nil_of_length_eq_zero hseg.1
  subst hy
  refine wpList_append_own_none hgd s x 22 ho base 2 i0 1 Try.underlying22 hi (.slice A n c) n (xs.map (Value.int .i64)) hs ho1 hx ?_
  exact h A c w (by rw [List.append_nil]; exact hown) (Below.refl _ _)
 | some ad =>
  refine wpList_append_own w hgd s x 22 ho base 2 i0 (.int .i64 0) 1 8 Try.underlying22 hi hz0 hz1 hz2 rfl (by decide) (.slice A n c) n (xs.map (Value.int .i64)) hs ho1
   ad m c2 (ys.map (Value.int .i64)) hx (by simp [hseg.1]) (fun j u hj => ?_) (fun u hu => ?_) (by unfold maxLen; omega) (by omega) hbase ?_
  ·have hjl : j < m := by
    have := (List.getElem?_eq_some_iff.1 hj).1
    simp at this
    have := hseg.1
    omega
   obtain ⟨b, off, e, _, hc⟩ := hseg.2 (by omega)
   injection e with e
   subst e
   have hcj := hc j hjl
   have e2 : (⟨b, off, none⟩ : Addr).add j = ⟨b, off + j, none⟩ := by unfold Addr.add; split <;> simp_all
   rw [e2, hcj, ← hj]
   have := hseg.1
   simp [List.getD, show j < ys.length by omega]
  ·obtain ⟨y, _, rfl⟩ := List.mem_map.1 hu
   rfl
  ·intro v' w' hown' hg _
   rw [← List.map_append] at hown'
   obtain ⟨A', c', rfl, ho'⟩ := own_of hown'
   exact h A' c' w' ho' (below_grown hown hg hbase)
end app
end
section
namespace sym
open Go.RowKit base ints marks app
def AnsList (w : World) (xs : List Int) (e : Ending) (w' : World) : Prop := ∃ A n c, e = .returned (.slice A n c) ∧ Own w' w.heap.size (.slice A n c) xs ∧ Below w.heap.size w w'
theorem Own.len {w : World} {base : Nat} {A : Option Addr} {n c : Nat} {xs : List Int} (h : Own w base (.slice A n c) xs) : n = xs.length := by
 obtain ⟨_, _, e⟩ := h.slice
 injection e
theorem Own.lower {w : World} {base base' : Nat} {v : Value} {xs : List Int} (h : Own w base v xs) (hb : base' ≤ base) : Own w base' v xs := by
 obtain ⟨h1, h2⟩ := h
 refine ⟨h1, ?_⟩
 rcases h2 with h2 | ⟨g, cap, cur, hv, hg, r⟩
 ·exact .inl h2
 ·exact .inr ⟨g, cap, cur, hv, Nat.le_trans hb hg, r⟩
theorem Own.alloc {w : World} {base : Nat} {v : Value} {xs : List Int} (h : Own w base v xs) (o : Obj) : Own (w.alloc o) base v xs := World.ownsRow.alloc h o
theorem own_empty (w : World) (base : Nat) (hb : base ≤ w.heap.size) : Own (w.alloc (.cells #[] 2)) base (.slice (some ⟨w.heap.size, 0, none⟩) 0 0) [] :=
 Own.of_row (Row.new _ _ _) rfl rfl (Nat.le_refl _) (by omega) hb (fun j hj => absurd hj (Nat.not_lt_zero _))
end sym
end
section
namespace appAt
open Go.RowKit base ints marks app
set_option maxRecDepth 100000
theorem blk_own (A : Option Addr) (n c : Nat) : (Value.slice A n c).ownBlock = blk A := by cases A <;> rfl
theorem appAllAt {w : World} {ops : Array Oper} {rest : List Oper} {o : Oper} {a : Act} {Q : Exit → Act → World → Prop} (hgd : o.guard = none) (s x : Operand)
  (ho : o.op = .call { callee := .builtin .append, args := #[s, x], argTypes := #[22, 22] })
  (base : Nat) (A : Option Addr) (n c : Nat) (xs : List Int) (hs : a.eval s = .slice A n c) (hown : Own w base (.slice A n c) xs)
  (S : Option Addr) (m c2 B : Nat) (ys : List Int) (hx : a.eval x = .slice S m c2) (hseg : Seg w B S m ys) (hm1 : 1 ≤ m) (hn : n ≤ 2097152) (hm : m ≤ 2097152) (hbase : base ≤ w.heap.size)
  (h : ∀ A' c' w', Own w' base (.slice A' (n + m) c') (xs ++ ys) → w.grownBy w' (blk A) → (blk A' = blk A ∨ blk A' = some w.heap.size) → wpList Try.prog ops Q rest (a.put o.dst (.slice A' (n + m) c')) w') : wpList Try.prog ops Q (o :: rest) a w := by
 obtain ⟨i0, hi, hz0, hz1, hz2⟩ := info_parts info_i64
 have hl : xs.length = n := by
  obtain ⟨A', c', e⟩ := hown.slice
  injection e with _ e _
  exact e.symm
 have ho1 : w.ownsRow base 2 1 (.slice A n c) n (xs.map (Value.int .i64)) := by rw [← hl]; rw [← hl] at hown; exact hown
 obtain ⟨b, off, e, _, hc⟩ := hseg.2 (by omega)
 subst e
 refine wpList_append_own_at w hgd s x 22 ho base 2 i0 (.int .i64 0) 1 8 Try.underlying22 hi hz0 hz1 hz2 rfl (by decide) (.slice A n c) n (xs.map (Value.int .i64)) hs ho1
  ⟨b, off, none⟩ m c2 (ys.map (Value.int .i64)) hx (by simp [hseg.1]) (fun j u hj => ?_) (fun u hu => ?_) (by unfold maxLen; omega) (by omega) hbase ?_
 ·have hjl : j < m := by
   have := (List.getElem?_eq_some_iff.1 hj).1
   simp at this
   have := hseg.1
   omega
  have hcj := hc j hjl
  have e2 : (⟨b, off, none⟩ : Addr).add j = ⟨b, off + j, none⟩ := by unfold Addr.add; split <;> simp_all
  rw [e2, hcj, ← hj]
  have := hseg.1
  simp [List.getD, show j < ys.length by omega]
 ·obtain ⟨y, _, rfl⟩ := List.mem_map.1 hu
  rfl
 ·intro v' w' hown' hg _ hat
  rw [← List.map_append] at hown'
  obtain ⟨A', c', rfl, ho'⟩ := own_of hown'
  rw [blk_own] at hg
  rw [blk_own, blk_own] at hat
  exact h A' c' w' ho' hg hat
theorem Own.kept {w w' : World} {base : Nat} {A : Option Addr} {n c : Nat} {xs : List Int} {r : Option Nat} (h : Own w base (.slice A n c) xs) (hg : w.grownBy w' r) (hne : blk A = none ∨ blk A ≠ r) : Own w' base (.slice A n c) xs :=
 World.ownsRow.kept h hg (by rw [blk_own]; exact hne)
end appAt
end
section
namespace segs
open Go.RowKit base ints marks app sym appAt
set_option maxRecDepth 100000
def Cap (A : Option Addr) (n c : Nat) : Prop := n ≤ c ∧ c ≤ 9223372036854775807 ∧ (A = none → c = 0)
def Segs (w : World) (B : Nat) (A : Option Addr) (n : Nat) (xss : List (List Int)) : Prop :=
 xss.length = n ∧ (0 < n → ∃ b off, A = some ⟨b, off, none⟩ ∧ b < B ∧ ∀ j, j < n → ∃ A' n' c', w.cell? ⟨b, off + j, none⟩ = some (.slice A' n' c') ∧ Seg w B A' n' (xss.getD j []) ∧ Cap A' n' c')
section
variable {w w' : World} {B B' n : Nat} {A : Option Addr} {xss : List (List Int)}
theorem Segs.spot (h : Segs w B A n xss) {k : Nat} (hk : k < n) : ∃ b off A' n' c', A = some ⟨b, off, none⟩ ∧ b < B ∧ w.cell? ⟨b, off + k, none⟩ = some (.slice A' n' c') ∧ Seg w B A' n' (xss.getD k []) ∧ Cap A' n' c' := by
 obtain ⟨b, off, e, hb, hc⟩ := h.2 (by omega)
 obtain ⟨A', n', c', h1, h2, h3⟩ := hc k hk
 exact ⟨b, off, A', n', c', e, hb, h1, h2, h3⟩
theorem Segs.keep (h : Segs w B A n xss) (hk : ∀ p : Addr, p.block < B → w'.cell? p = w.cell? p) : Segs w' B A n xss :=
 ⟨h.1, fun hn => by
  obtain ⟨b, off, e, hb, hc⟩ := h.2 hn
  refine ⟨b, off, e, hb, fun j hj => ?_⟩
  obtain ⟨A', n', c', h1, h2, h3⟩ := hc j hj
  exact ⟨A', n', c', (hk ⟨b, off + j, none⟩ hb).trans h1, h2.keep hk, h3⟩⟩
theorem Segs.more (h : Segs w B A n xss) (hB : B ≤ B') : Segs w B' A n xss :=
 ⟨h.1, fun hn => by
  obtain ⟨b, off, e, hb, hc⟩ := h.2 hn
  refine ⟨b, off, e, by omega, fun j hj => ?_⟩
  obtain ⟨A', n', c', h1, h2, h3⟩ := hc j hj
  exact ⟨A', n', c', h1, h2.more hB, h3⟩⟩
theorem Segs.below (h : Segs w B A n xss) (hb : Below B w w') : Segs w' B A n xss := h.keep fun _ hp => hb.cell hp
theorem Segs.next (h : Segs w w.heap.size A n xss) (hb : Below w.heap.size w w') : Segs w' w'.heap.size A n xss := (h.below hb).more hb.size
theorem Segs.drew (h : Segs w B A n xss) : Segs w.drew B A n xss := h
structure Btw (lo hi : Nat) (w w' : World) : Prop where
 os : w'.os = w.os
 tape : w'.tape = w.tape
 output : w'.output = w.output
 size : w.heap.size ≤ w'.heap.size
 block : ∀ k, k < w.heap.size → (k < lo ∨ hi ≤ k) → w'.heap[k]? = w.heap[k]?
theorem Btw.trans {lo hi : Nat} {a b c : World} (h : Btw lo hi a b) (k : Btw lo hi b c) : Btw lo hi a c :=
 ⟨k.os.trans h.os, k.tape.trans h.tape, k.output.trans h.output, Nat.le_trans h.size k.size, fun i hi' ho => (k.block i (Nat.lt_of_lt_of_le hi' h.size) ho).trans (h.block i hi' ho)⟩
theorem Btw.of_grown {lo hi : Nat} {r : Option Nat} (h : w.grownBy w' r) (hr : ∀ k, r = some k → lo ≤ k ∧ k < hi) : Btw lo hi w w' :=
 ⟨h.os, h.tape, h.output, h.size, fun k hk ho => h.block k hk (fun e => by have := hr k e.symm; omega)⟩
theorem Btw.of_below {lo hi : Nat} (h : Below w.heap.size w w') : Btw lo hi w w' := ⟨h.os, h.tape, h.output, h.size, fun k hk _ => h.block k hk⟩
theorem Btw.below {lo hi : Nat} (h : Btw lo hi w w') (hB : B ≤ lo) (hs : B ≤ w.heap.size) : Below B w w' := ⟨h.os, h.tape, h.output, h.size, fun k hk => h.block k (by omega) (.inl (by omega))⟩
theorem Below.btw {a : World} {lo hi : Nat} (h : Below B a w) (k : Btw lo hi w w') (hB : B ≤ lo) (hs : B ≤ w.heap.size) : Below B a w' := h.trans (k.below hB hs)
theorem Row.btw {g : Nat} {t : TypeId} {cs : Array Value} {lo hi : Nat} (h : Row w g t cs) (hb : Btw lo hi w w') (hg : g < lo ∨ hi ≤ g) : Row w' g t cs := (hb.block g h.lt hg).trans h
theorem Row.ne_ {g g' : Nat} {t t' : TypeId} {cs cs' : Array Value} (h : Row w g t cs) (h' : Row w g' t' cs') (hne : t ≠ t') : g ≠ g' := by
 rintro rfl
 unfold Row at h h'
 rw [h] at h'
 injection h' with h'
 injection h' with _ ht
 exact hne ht
end
def Inn (w : World) (lo hi : Nat) (v : Value) (xs : List Int) : Prop := ∃ A c, v = .slice A xs.length c ∧ Own w lo v xs ∧ ∀ k, blk A = some k → k < hi
def Apart (n : Nat) (vs : List Value) : Prop := ∀ i j k, i < j → j < n → (vs.getD i undef).ownBlock = some k → (vs.getD j undef).ownBlock ≠ some k
structure Owns (w : World) (lo hi : Nat) (A : Option Addr) (n c : Nat) (xss : List (List Int)) : Prop where
 len : xss.length = n
 row : ∃ vs : List Value, w.ownsRow lo 22 1 (.slice A n c) n vs ∧ (∀ j, j < n → Inn w lo hi (vs.getD j undef) (xss.getD j [])) ∧ Apart n vs
 top : ∀ k, blk A = some k → k < hi
section
variable {w w' : World} {lo hi n c : Nat} {A : Option Addr} {xss : List (List Int)}
theorem own_form {base n c : Nat} {A : Option Addr} {vs : List Value} {t : TypeId} (h : w.ownsRow base t 1 (.slice A n c) n vs) : (A = none ∧ n = 0 ∧ c = 0 ∧ vs = []) ∨
  ∃ g cur, A = some ⟨g, 0, none⟩ ∧ base ≤ g ∧ Row w g t cur ∧ n ≤ c ∧ cur.size = c ∧ c ≤ 9223372036854775807 ∧ vs.length = n ∧ ∀ j, j < n → cur[j]? = some (vs.getD j undef) := by
 have hl : vs.length = n := by have := h.1; omega
 obtain ⟨h1, h2⟩ := h
 rcases h2 with ⟨e, h0⟩ | ⟨g, cap, cur, e, hb, hg, hn, hm, hs, ht⟩
 ·have e1 := (Value.slice.inj e)
  obtain ⟨rfl, rfl, rfl⟩ := e1
  exact .inl ⟨rfl, rfl, rfl, List.eq_nil_of_length_eq_zero hl⟩
 ·have e1 := (Value.slice.inj e)
  obtain ⟨rfl, -, rfl⟩ := e1
  refine .inr ⟨g, cur, rfl, hb, hg, hn, by omega, by unfold maxLen at hm; omega, hl, fun j hj => ?_⟩
  have h3 : (cur.toList.take (n * 1))[j]? = vs[j]? := by rw [ht]
  rw [List.getElem?_take, if_pos (by omega)] at h3
  rw [← Array.getElem?_toList, h3]
  simp [List.getD, show j < vs.length by omega]
theorem Inn.blk {v : Value} {xs : List Int} (h : Inn w lo hi v xs) : ∀ k, v.ownBlock = some k → lo ≤ k ∧ k < hi ∧ k < w.heap.size := fun k hk => by
 obtain ⟨A, c, rfl, ho, ht⟩ := h
 have h1 := World.ownsRow.lt ho k hk
 rw [blk_own] at hk
 exact ⟨h1.1, ht k hk, h1.2⟩
theorem Inn.kept {v : Value} {xs : List Int} {r : Option Nat} (h : Inn w lo hi v xs) (hg : w.grownBy w' r) (hne : v.ownBlock = none ∨ v.ownBlock ≠ r) : Inn w' lo hi v xs := by
 obtain ⟨A, c, rfl, ho, ht⟩ := h
 exact ⟨A, c, rfl, World.ownsRow.kept ho hg hne, ht⟩
theorem Inn.next {v : Value} {xs : List Int} (h : Inn w lo hi v xs) (hb : Below w.heap.size w w') : Inn w' lo hi v xs := by
 obtain ⟨A, c, rfl, ho, ht⟩ := h
 exact ⟨A, c, rfl, ho.next hb, ht⟩
theorem Inn.cap {v : Value} {xs : List Int} (h : Inn w lo hi v xs) : ∃ A c, v = .slice A xs.length c ∧ Own w lo v xs ∧ Cap A xs.length c := by
 obtain ⟨A, c, rfl, ho, ht⟩ := h
 refine ⟨A, c, rfl, ho, ?_⟩
 rcases own_form (n := xs.length) (vs := xs.map (Value.int .i64)) ho with ⟨rfl, h1, rfl, _⟩ | ⟨g, cur, rfl, _, _, h1, h2, h3, _⟩
 ·exact ⟨by omega, by omega, fun _ => rfl⟩
 ·exact ⟨h1, h3, fun e => by cases e⟩
theorem Owns.segs (h : Owns w lo hi A n c xss) : Segs w w.heap.size A n xss := by
 obtain ⟨vs, hr, hi', _⟩ := h.row
 refine ⟨h.len, fun hn => ?_⟩
 rcases own_form hr with ⟨_, e, _⟩ | ⟨g, cur, rfl, _, hrow, _, _, _, _, hc⟩
 ·omega
 ·refine ⟨g, 0, rfl, hrow.lt, fun j hj => ?_⟩
  obtain ⟨A', c', e, ho, hcap⟩ := (hi' j hj).cap
  refine ⟨A', _, c', ?_, Own.seg (by rw [← e]; exact ho), hcap⟩
  rw [Nat.zero_add, hrow.cell j, hc j hj, e]
theorem Owns.cap (h : Owns w lo hi A n c xss) : Cap A n c := by
 obtain ⟨vs, hr, _⟩ := h.row
 rcases own_form hr with ⟨rfl, h1, rfl, _⟩ | ⟨g, cur, rfl, _, _, h1, h2, h3, _⟩
 ·exact ⟨by omega, by omega, fun _ => rfl⟩
 ·exact ⟨h1, h3, fun e => by cases e⟩
theorem Owns.next (h : Owns w lo hi A n c xss) (hb : Below w.heap.size w w') : Owns w' lo hi A n c xss := by
 obtain ⟨h1, ⟨vs, hr, hi', ha⟩, h3⟩ := h
 refine ⟨h1, ⟨vs, ?_, fun j hj => (hi' j hj).next hb, ha⟩, h3⟩
 exact World.ownsRow.kept hr ⟨hb.os, hb.tape, hb.output, hb.size, fun k hk _ => hb.block k hk⟩ (row := none) (by cases (Value.slice A n c).ownBlock <;> simp)
theorem Owns.wider {lo' hi' : Nat} (h : Owns w lo hi A n c xss) (h1 : lo' ≤ lo) (h2 : hi ≤ hi') : Owns w lo' hi' A n c xss := by
 obtain ⟨h3, ⟨vs, hr, hin, ha⟩, h5⟩ := h
 have low : ∀ {t : TypeId} {v : Value} {m : Nat} {us : List Value}, w.ownsRow lo t 1 v m us → w.ownsRow lo' t 1 v m us := fun {t v m us} ho => by
  obtain ⟨q1, q2⟩ := ho
  refine ⟨q1, ?_⟩
  rcases q2 with q2 | ⟨g, cap, cur, hv, hg, r⟩
  ·exact .inl q2
  ·exact .inr ⟨g, cap, cur, hv, Nat.le_trans h1 hg, r⟩
 refine ⟨h3, ⟨vs, low hr, fun j hj => ?_, ha⟩, fun k hk => Nat.lt_of_lt_of_le (h5 k hk) h2⟩
 obtain ⟨A', c', e, ho, ht⟩ := hin j hj
 exact ⟨A', c', e, low ho, fun k hk => Nat.lt_of_lt_of_le (ht k hk) h2⟩
theorem Owns.btw {lo' hi' : Nat} (h : Owns w lo hi A n c xss) (hb : Btw lo' hi' w w') (ho : hi ≤ lo' ∨ hi' ≤ lo) : Owns w' lo hi A n c xss := by
 obtain ⟨h1, ⟨vs, hr, hin, ha⟩, h3⟩ := h
 have key : ∀ {t : TypeId} {m : Nat} {v : Value} {us : List Value}, w.ownsRow lo t 1 v m us → (∀ k, v.ownBlock = some k → k < hi) → w'.ownsRow lo t 1 v m us := fun {t m v us} hr ht => by
  obtain ⟨q1, q2⟩ := hr
  refine ⟨q1, ?_⟩
  rcases q2 with q2 | ⟨g, cap, cur, hv, hg, hh, r⟩
  ·exact .inl q2
  ·have h5 := ht g (by rw [hv]; rfl)
   refine .inr ⟨g, cap, cur, hv, hg, ?_, r⟩
   have hlt : g < w.heap.size := (Array.getElem?_eq_some_iff.1 hh).1
   exact (hb.block g hlt (by omega)).trans hh
 refine ⟨h1, ⟨vs, key hr (fun k hk => h3 k (by rw [blk_own] at hk; exact hk)), fun j hj => ?_, ha⟩, h3⟩
 obtain ⟨A', c', e, ho', ht⟩ := hin j hj
 exact ⟨A', c', e, key ho' (fun k hk => ht k (by rw [e, blk_own] at hk; exact hk)), ht⟩
theorem Owns.nil (w : World) (lo hi : Nat) : Owns w lo hi none 0 0 [] :=
 ⟨rfl, ⟨[], World.ownsRow_nil w lo 22 1, fun j hj => absurd hj (Nat.not_lt_zero _), fun i j k _ hj => absurd hj (Nat.not_lt_zero _)⟩, fun k hk => by cases hk⟩
end
theorem Inn.ne {w : World} {lo hi g : Nat} {v : Value} {xs : List Int} {cs : Array Value} (h : Inn w lo hi v xs) (hr : Row w g 22 cs) : v.ownBlock ≠ some g := by
 obtain ⟨A, c, rfl, ho, _⟩ := h
 rcases own_form (n := xs.length) ho with ⟨rfl, _⟩ | ⟨g', cur', rfl, _, hrow', _⟩
 ·intro e; cases e
 ·intro e
  have e2 : g' = g := by simpa [Value.ownBlock] using e
  exact Row.ne_ hr hrow' (by decide) e2.symm
theorem Inn.wider {w : World} {lo hi lo' hi' : Nat} {v : Value} {xs : List Int} (h : Inn w lo hi v xs) (h1 : lo' ≤ lo) (h2 : hi ≤ hi') : Inn w lo' hi' v xs := by
 obtain ⟨A, c, rfl, ho, ht⟩ := h
 exact ⟨A, c, rfl, Own.lower ho h1, fun k hk => Nat.lt_of_lt_of_le (ht k hk) h2⟩
theorem rowsOf {w : World} {base g n c : Nat} {t : TypeId} {cs : Array Value} (hr : Row w g t cs) (hs : cs.size = c) (hn : n ≤ c) (hm : c ≤ 9223372036854775807) (hb : base ≤ g) : w.ownsRow base t 1 (.slice (some ⟨g, 0, none⟩) n c) n (cs.toList.take n) :=
 ⟨by simp; omega, .inr ⟨g, c, cs, rfl, hb, hr, hn, by unfold maxLen; omega, by omega, by simp⟩⟩
end segs
end
section
namespace segsHelp
open Go.RowKit base ints sig cursor marks app sym appAt segs
set_option maxRecDepth 100000
theorem info_list : (Try.prog.info? 22).map (fun i => (i.zero, i.size, i.bytes)) = some (some (.slice none 0 0), 1, 24) := by kernel_rfl
theorem run_make_lists (n : Nat) (hn : n ≤ 1048576) (W : World) : (Instr.makeSlice 25 (.int .i64 (n : Int)) (.int .i64 (n : Int))).run Try.prog W =
  .ok (.slice (some ⟨W.heap.size, 0, none⟩) n n) (W.alloc (.cells (madeCells #[.slice none 0 0] n) 22)) := by
 obtain ⟨i0, hi, hz0, hz1, hz2⟩ := info_parts info_list
 have hr := run_make (P := Try.prog) W 25 22 i0 _ Try.underlying25 hi hz0 .i64 .i64 n n (by omega) (by omega) (by rw [hz2]; omega) (by omega)
 simpa [hz1, Value.cells] using hr
def sumL (xss : List (List Int)) (k : Nat) : Nat := ((xss.take k).map List.length).sum
def tot (xss : List (List Int)) : Nat := xss.length + sumL xss xss.length
theorem sumL_succ {xss : List (List Int)} {k : Nat} (h : k < xss.length) : sumL xss (k + 1) = sumL xss k + (xss.getD k []).length := by
 unfold sumL
 rw [List.take_succ_eq_append_getElem h, List.map_append, List.sum_append]
 simp [List.getD, h]
theorem sumL_mono {xss : List (List Int)} : ∀ {k m : Nat}, k ≤ m → m ≤ xss.length → sumL xss k ≤ sumL xss m
 | k, 0, h, _ => by rw [show k = 0 by omega]; exact Nat.le_refl _
 | k, m + 1, h, hm => by
  by_cases e : k = m + 1
  ·rw [e]; exact Nat.le_refl _
  ·have := sumL_mono (xss := xss) (show k ≤ m by omega) (by omega)
   rw [sumL_succ (by omega)]
   omega
theorem tot_each {xss : List (List Int)} {L : Nat} (h : tot xss ≤ L) : ∀ j, (xss.getD j []).length ≤ L := fun j => by
 by_cases hj : j < xss.length
 ·have h1 := sumL_succ hj
  have h2 := sumL_mono (xss := xss) (show j + 1 ≤ xss.length by omega) (Nat.le_refl _)
  unfold tot at h
  omega
 ·rw [show xss.getD j [] = [] by simp [List.getD, hj]]
  simp
theorem tot_len {xss : List (List Int)} {L n : Nat} (hl : xss.length = n) (h : tot xss ≤ L) : n ≤ L := by unfold tot at h; omega
end segsHelp
end
section
namespace segsMark
open Go.RowKit base ints sig cursor marks app sym appAt segs segsHelp
set_option maxRecDepth 100000
def AnsMarkO (w : World) (base : Nat) (A : Option Addr) (n c : Nat) (k : Int) (e : Ending) (w' : World) : Prop :=
 e = .returned (.int .i64 (k + (n : Int))) ∧ w.grownBy w' (blk A) ∧ Own w' base (.slice A n c) (marks k n)
set_option maxHeartbeats 1000000 in
theorem markOwn (base : Nat) (A : Option Addr) (n c : Nat) (xs : List Int) (k : Int) (w : World) (h : Own w base (.slice A n c) xs) (hn : n ≤ 1048576) (hk0 : 0 ≤ k) (hk : k ≤ 1099511627776) :
  Calls Try.prog 20 #[.slice A n c, .int .i64 k] w (AnsMarkO w base A n c k) := by
 have hl := Own.len h
 by_cases h0 : n = 0
 ·subst h0
  have hx : xs = [] := List.eq_nil_of_length_eq_zero hl.symm
  subst hx
  have HO := Lib.hid h
  clear h hl
  go_enter Try.func20, Try.ntmps20
  go_wp2
  go_loop [1, 5] (fun kk i => kk = .int .i64 k ∧ i = .int .i64 0) (fun _ _ => 0)
  case atStart => exact ⟨rfl, rfl⟩
  case round =>
   obtain ⟨rfl, rfl⟩ := hrel
   go_wp2
   go_ret
   exact ⟨by simp, World.grownBy.refl _ _, by simpa [marks] using HO.out⟩
 ·rcases own_form (n := n) (vs := xs.map (Value.int .i64)) (by rw [hl]; rw [hl] at h; exact h) with ⟨_, e, _⟩ | ⟨g, cs0, rfl, hb, hr0, hnc, hz0, hmax, _, _⟩
  ·exact absurd e h0
  have S0 : HeadMark w g n k c (.int .i64 k) (.int .i64 0) w := ⟨0, cs0, Nat.zero_le _, rfl, by simp, hr0, hz0, fun q hq => absurd hq (Nat.not_lt_zero _), World.grownBy.refl _ _⟩
  have HS0 := Lib.hid S0
  clear S0 hz0 hr0 hl h
  go_enter Try.func20, Try.ntmps20
  go_wp2
  go_loopw [1, 5] (fun kk i wr => HeadMark w g n k c kk i wr) (fun _ i _ => n - (intOf i).toNat)
  case atStart => exact HS0.out
  case round =>
   obtain ⟨j, cs, hj, rfl, rfl, hr, hs, hc, hg⟩ := hrel
   clear HS0
   by_cases hlt : j < n
   ·have S := Lib.hid (headMark_step (k := k) hlt hnc hr hs hc hg)
    obtain ⟨u, hu⟩ : ∃ u, wr.cell? ⟨g, j, none⟩ = some u := ⟨_, (hr.cell j).trans (Array.getElem?_eq_getElem (by omega))⟩
    have hf : wr.frozen? ⟨g, j, none⟩ = false := hr.free j
    clear hr hs hc hg
    go_wp2
    go_roundw
    case rel => exact S.out
    case measure => simp [intOf]; omega
   ·have e : j = n := by omega
    subst e
    have F : AnsMarkO w base (some ⟨g, 0, none⟩) j c k (.returned (.int .i64 (k + (j : Int)))) wr :=
     ⟨rfl, hg, Own.of_row hr (marks_len _ _) hs hnc hmax hb (fun q hq => by rw [marks_get hq]; exact hc q hq)⟩
    have HF := Lib.hid F
    clear F hr hs hc hg
    go_wp2
    go_ret
    exact HF.out
end segsMark
end
section
namespace kinds
open Go.RowKit base ints sig cursor marks app sym appAt segs segsHelp segsMark
set_option maxRecDepth 100000
def Ownd (w : World) (lo hi : Nat) (A : Option Addr) (n c : Nat) (xs : List Int) : Prop := Own w lo (.slice A n c) xs ∧ ∀ k, blk A = some k → k < hi
section
variable {w w' : World} {lo hi n c : Nat} {A : Option Addr} {xs : List Int}
theorem Ownd.rd (h : Ownd w lo hi A n c xs) : Seg w w.heap.size A n xs := Own.seg h.1
theorem Ownd.next (h : Ownd w lo hi A n c xs) (hb : Below w.heap.size w w') : Ownd w' lo hi A n c xs := ⟨h.1.next hb, h.2⟩
theorem Ownd.drew (h : Ownd w lo hi A n c xs) : Ownd w.drew lo hi A n c xs := h
theorem Ownd.btw {lo' hi' : Nat} (h : Ownd w lo hi A n c xs) (hb : Btw lo' hi' w w') (ho : hi ≤ lo' ∨ hi' ≤ lo) : Ownd w' lo hi A n c xs := by
 obtain ⟨⟨q1, q2⟩, ht⟩ := h
 refine ⟨⟨q1, ?_⟩, ht⟩
 rcases q2 with q2 | ⟨g, cap, cur, hv, hg, hh, r⟩
 ·exact .inl q2
 ·have h5 := ht g (by rw [← blk_own A n c, hv]; rfl)
  refine .inr ⟨g, cap, cur, hv, hg, ?_, r⟩
  have hlt : g < w.heap.size := (Array.getElem?_eq_some_iff.1 hh).1
  exact (hb.block g hlt (by omega)).trans hh
theorem Ownd.of_own (h : Own w lo (.slice A n c) xs) : Ownd w lo w.heap.size A n c xs := ⟨h, fun k hk => (World.ownsRow.lt h k (by rw [blk_own]; exact hk)).2⟩
theorem Ownd.cap (h : Ownd w lo hi A n c xs) : Cap A n c := by
 have hl := Own.len h.1
 rcases own_form (n := n) (vs := xs.map (Value.int .i64)) (by rw [hl]; have := h.1; rw [hl] at this; exact this) with ⟨rfl, h1, rfl, _⟩ | ⟨g, cur, rfl, _, _, h1, h2, h3, _⟩
 ·exact ⟨by omega, by omega, fun _ => rfl⟩
 ·exact ⟨h1, h3, fun e => by cases e⟩
theorem drew_below (w : World) : Below w.heap.size w w.drew := ⟨rfl, rfl, rfl, Nat.le_refl _, fun _ _ => rfl⟩
theorem drewN_below (w : World) (d : Nat) : Below w.heap.size w (w.drewN d) := ⟨rfl, rfl, rfl, Nat.le_refl _, fun _ _ => rfl⟩
end
def CopyInts (w : World) (n : Nat) (xs : List Int) (e : Ending) (w' : World) : Prop := ∃ g, e = .returned (.slice (some ⟨g, 0, none⟩) n n) ∧ Ownd w' w.heap.size w'.heap.size (some ⟨g, 0, none⟩) n n xs ∧ w.heap.size < w'.heap.size ∧ Below w.heap.size w w'
theorem intsTo (A : Option Addr) (n c : Nat) (xs : List Int) (w : World) (h : Seg w w.heap.size A n xs) (hn : n ≤ 1048576) :
  Calls Try.prog 23 #[.slice A n c] w (CopyInts w n xs) :=
 (toInts A n c xs w h hn).mono fun _ _ ⟨cs, he, hr, hs, hc, hz, hb⟩ => ⟨w.heap.size, he, Ownd.of_own (Own.of_row hr h.1 hs (Nat.le_refl _) (by omega) (Nat.le_refl _) hc), by omega, hb⟩
theorem intsEq (A A' : Option Addr) (n n' c c' : Nat) (xs : List Int) (w : World) (h : Seg w w.heap.size A n xs) (h' : Seg w w.heap.size A' n' xs) (hn : n ≤ 1048576) :
  Calls Try.prog 15 #[.slice A n c, .slice A' n' c'] w fun e w' => e = .returned (.bool true) ∧ Below w.heap.size w w' := by
 obtain rfl : n = n' := by rw [← h.1, ← h'.1]
 exact (eqYes A A' n c c' xs w h h' hn).mono fun _ _ ⟨he, d, hd⟩ => ⟨he, by rw [hd]; exact drewN_below _ _⟩
def AnsMarkI (w : World) (lo hi : Nat) (A : Option Addr) (n c : Nat) (k : Int) (e : Ending) (w' : World) : Prop := e = .returned (.int .i64 (k + (n : Int))) ∧ Ownd w' lo hi A n c (marks k n) ∧ Btw lo hi w w'
theorem intsMark (lo hi : Nat) (A : Option Addr) (n c : Nat) (xs : List Int) (k : Int) (w : World) (h : Ownd w lo hi A n c xs) (hn : n ≤ 1048576) (hk0 : 0 ≤ k) (hk : k ≤ 8388608) :
  Calls Try.prog 20 #[.slice A n c, .int .i64 k] w (AnsMarkI w lo hi A n c k) :=
 (markOwn lo A n c xs k w h.1 hn hk0 (by omega)).mono fun _ _ ⟨he, hg, ho⟩ => ⟨he, ⟨ho, h.2⟩, Btw.of_grown hg (fun q hq => ⟨Own.ge h.1 q hq, h.2 q hq⟩)⟩
theorem intsHeld (A : Option Addr) (n c : Nat) (k : Int) (w : World) (h : Seg w w.heap.size A n (marks k n)) (hn : n ≤ 1048576) (hk0 : 0 ≤ k) (hk : k ≤ 8388608) :
  Calls Try.prog 21 #[.slice A n c, .int .i64 k] w fun e w' => e = .returned (.int .i64 (k + (n : Int))) ∧ Below w.heap.size w w' :=
 (heldInts A n c k w h hn hk0 (by omega)).mono fun _ _ ⟨hw, he⟩ => ⟨he, by rw [← hw]; exact Below.refl _ _⟩
def CopySigK (w : World) (n : Nat) (xs : List Int) (e : Ending) (w' : World) : Prop := ∃ g, e = .returned (.agg #[.slice (some ⟨g, 0, none⟩) n n]) ∧ Ownd w' w.heap.size w'.heap.size (some ⟨g, 0, none⟩) n n xs ∧ w.heap.size < w'.heap.size ∧ Below w.heap.size w w'
theorem sigTo (A : Option Addr) (n c : Nat) (xs : List Int) (w : World) (h : Seg w w.heap.size A n xs) (hn : n ≤ 1048576) :
  Calls Try.prog 12 #[.agg #[.slice A n c]] w (CopySigK w n xs) :=
 (toSig A n c xs w h hn).mono fun _ _ ⟨g, cs, he, hg, hr, hs, hc, hb⟩ => ⟨g, he, Ownd.of_own (Own.of_row hr h.1 hs (Nat.le_refl _) (by omega) hg hc), Nat.lt_of_le_of_lt hg hr.lt, hb⟩
theorem sigEq (A A' : Option Addr) (n n' c c' : Nat) (xs : List Int) (w : World) (h : Seg w w.heap.size A n xs) (h' : Seg w w.heap.size A' n' xs) (hn : n ≤ 1048576) :
  Calls Try.prog 16 #[.agg #[.slice A n c], .agg #[.slice A' n' c']] w fun e w' => e = .returned (.bool true) ∧ Below w.heap.size w w' := by
 obtain rfl : n = n' := by rw [← h.1, ← h'.1]
 exact eqSigYes A A' n c c' xs w h h' hn
set_option maxHeartbeats 1000000 in
theorem sigMark (lo hi : Nat) (A : Option Addr) (n c : Nat) (xs : List Int) (k : Int) (w : World) (h : Ownd w lo hi A n c xs) (hn : n ≤ 1048576) (hk0 : 0 ≤ k) (hk : k ≤ 8388608) :
  Calls Try.prog 18 #[.agg #[.slice A n c], .int .i64 k] w (AnsMarkI w lo hi A n c k) := by
 have b : Below w.heap.size w (w.alloc (.cells #[.slice A n c] 29)) := (Below.refl _ _).alloc (Nat.le_refl _) _
 have L := Lib.hid (intsMark lo hi A n c xs k _ (h.next b) hn hk0 hk)
 clear h
 go_enter Try.func18, Try.ntmps18
 go_wp2_with fail
 refine L.out.mono ?_
 rintro e w' ⟨rfl, ho, hb⟩
 have F : AnsMarkI w lo hi A n c k (.returned (.int .i64 (k + (n : Int)))) w' := ⟨rfl, ho, (Btw.of_below b).trans hb⟩
 have HF := Lib.hid F
 clear F ho hb b L
 go_wp2
 go_ret
 exact HF.out
theorem owns_put {w : World} {lo hi n c b : Nat} {A : Option Addr} {xss : List (List Int)} {t : TypeId} {cs : Array Value} (h : Owns w lo hi A n c xss) (hr : Row w b t cs) (hb : b < lo) (i : Nat) (u : Value) : Owns (w.setCell ⟨b, i, none⟩ u) lo hi A n c xss :=
 h.btw (lo' := b) (hi' := b + 1) (Btw.of_grown (grown_put (World.grownBy.refl _ _) _ _) (fun k hk => by injection hk; omega)) (.inr (by omega))
end kinds
end
section
open Go.Lib (hid)
namespace endOf
open Go.RowKit base ints sig term arity
def AnsEnd (w : World) (sg t : List Int) (a : Nat) (e : Ending) (w' : World) : Prop := e = .returned (.int .i64 (endI sg t a)) ∧ Below w.heap.size w w'
theorem end_bad {w w' : World} {sg t : List Int} {a : Nat} (h : scan sg 1 (t.drop a) = none) (hb : Below w.heap.size w w') : AnsEnd w sg t a (.returned (.int .i64 (-1))) w' := ⟨by rw [endI_none h], hb⟩
theorem end_good {w w' : World} {sg t : List Int} {a k : Nat} (h : Scn sg t a (k + 1) 0) (hb : Below w.heap.size w w') : AnsEnd w sg t a (.returned (.int .i64 ((k : Int) + 1))) w' := ⟨by rw [h.endI]; simp, hb⟩
def HeadEnd (w : World) (A : Option Addr) (n c m : Nat) (sg t : List Int) (a : Nat) (need i : Value) (wr : World) : Prop :=
 ∃ k q : Nat, need = .int .i64 ((q : Int) + 1) ∧ i = .int .i64 k ∧ q ≤ 3 * k ∧ k ≤ m ∧ Scn sg t a k (q + 1) ∧ Row wr w.heap.size 29 #[.slice A n c] ∧ Below w.heap.size w wr
theorem headEnd_step {w wr : World} {A : Option Addr} {n c m k q q' : Nat} {sg t : List Int} {a : Nat} {z : Int} (hl : Scn sg t a (k + 1) (q + z.toNat)) (hz : 0 ≤ z ∧ z ≤ 3) (hq : q ≤ 3 * k) (hk : k < m) (hq' : q + z.toNat = q' + 1)
  (hr : Row wr w.heap.size 29 #[.slice A n c]) (hb : Below w.heap.size w wr) : HeadEnd w A n c m sg t a (.int .i64 ((q : Int) + z)) (.int .i64 ((k : Int) + 1)) wr :=
 ⟨k + 1, q', by congr 1; omega, by simp, by omega, by omega, by rw [← hq']; exact hl, hr, hb⟩
set_option maxHeartbeats 1000000 in
theorem specEnd (A A' : Option Addr) (n c m c' : Nat) (sg t : List Int) (at_ : Int) (w : World) (h : Seg w w.heap.size A n sg) (h' : Seg w w.heap.size A' m t) (hn : n ≤ 1048576) (hm : m ≤ 1048576) (hs : Arities sg) (ha : 0 ≤ at_) (ha' : at_ ≤ m) :
  Calls Try.prog 88 #[.agg #[.slice A n c], .slice A' m c', .int .i64 at_] w (AnsEnd w sg t at_.toNat) := by
 obtain ⟨a, rfl⟩ := Int.eq_ofNat_of_zero_le ha
 rw [Int.toNat_natCast]
 have hlen := h'.1
 have HL := hid hlen
 go_enter Try.func88, Try.ntmps88
 go_wp2_with fail
 go_loopw [7, 8, 9] (fun need i _ wr => HeadEnd w A n c m sg t a need i wr) (fun _ i _ _ => m - (intOf i).toNat)
 case atStart => exact ⟨a, 0, rfl, rfl, by omega, by omega, Scn.start (by rw [HL.out]; omega), Row.new _ _ _, (Below.refl _ _).alloc (Nat.le_refl _) _⟩
 case round =>
  obtain ⟨k, q, rfl, rfl, hq, hk, hl, hr, hb⟩ := hrel
  by_cases hlt : k < m
  ·obtain ⟨b, off, x, rfl, hbb, hx, ex⟩ := h'.spot hlt
   have hx' : wr.cell? ⟨b, off + k, none⟩ = some (.int .i64 x) := (hb.cell (p := ⟨b, off + k, none⟩) hbb).trans hx
   have cA : wr.cell? ⟨w.heap.size, 0, none⟩ = some (.slice A n c) := hr.cell 0
   have s : Seg wr.drew wr.heap.size A n sg := ((h.below hb).more hb.size).drew
   obtain ⟨z, hz⟩ : ∃ z, ar sg x = z := ⟨_, rfl⟩
   have hzb := ar_bd hs x
   rw [hz] at hzb
   have i0 : (0 : Int) ≤ (k : Int) := by omega
   have i1 : (k : Int) < (m : Int) := by omega
   have i2 : (q : Int) ≤ 3145728 := by omega
   have HZ := hid hz
   clear hx hz h h'
   replace hr := hr.drew
   replace hb := hb.drew
   by_cases hneg : z < 0
   ·have S := hid (fun (w' : World) (b' : Below w.heap.size w w') => end_bad (hl.bad (by rw [HL.out]; exact hlt) ex.out (by rw [HZ.out]; exact hneg)) b')
    clear hl ex hs hlen
    go_wp2_with fail
    go_region_held3 (fun w' => w'.cell? ⟨w.heap.size, 0, none⟩ = some (.slice A n c) ∧ w'.cell? ⟨b, off + k, none⟩ = some (.int .i64 x))
     (go_keep)
     (first
      | (go_at_call 115; refine (specArity _ _ _ sg x _ s hn).mono ?_; rintro e w2 ⟨he, bb⟩; rw [HZ.out] at he; subst he; have cA' : w2.cell? ⟨w.heap.size, 0, none⟩ = some (.slice A n c) := (hr.next bb).cell 0; have cx' : w2.cell? ⟨b, off + k, none⟩ = some (.int .i64 x) := (bb.cell (p := ⟨b, off + k, none⟩) (Nat.lt_trans hbb hr.lt)).trans hx'; have b2 := hb.trans (bb.mono (Nat.le_of_lt hr.lt))))
    have F := hid (S.out _ b2)
    go_wp2
    go_ret
    exact F.out
   ·have hl' := hl.step (by rw [HL.out]; exact hlt) ex.out (by rw [HZ.out]; exact hneg)
    rw [HZ.out] at hl'
    clear hl ex hs hlen
    by_cases hend : q + z.toNat = 0
    ·rw [hend] at hl'
     have S := hid (fun (w' : World) (b' : Below w.heap.size w w') => end_good hl' b')
     have e1 : ((q : Int) + z == 0) = true := by simp; omega
     clear hl'
     go_wp2_with fail
     go_region_held3 (fun w' => w'.cell? ⟨w.heap.size, 0, none⟩ = some (.slice A n c) ∧ w'.cell? ⟨b, off + k, none⟩ = some (.int .i64 x))
      (go_keep)
      (first
       | (go_at_call 115; refine (specArity _ _ _ sg x _ s hn).mono ?_; rintro e w2 ⟨he, bb⟩; rw [HZ.out] at he; subst he; have cA' : w2.cell? ⟨w.heap.size, 0, none⟩ = some (.slice A n c) := (hr.next bb).cell 0; have cx' : w2.cell? ⟨b, off + k, none⟩ = some (.int .i64 x) := (bb.cell (p := ⟨b, off + k, none⟩) (Nat.lt_trans hbb hr.lt)).trans hx'; have b2 := hb.trans (bb.mono (Nat.le_of_lt hr.lt))))
     have F := hid (S.out _ b2)
     go_wp2
     go_ret
     exact F.out
    ·obtain ⟨q', hq'⟩ : ∃ q', q + z.toNat = q' + 1 := ⟨q + z.toNat - 1, by omega⟩
     have S := hid (fun (w' : World) (r' : Row w' w.heap.size 29 #[.slice A n c]) (b' : Below w.heap.size w w') => headEnd_step hl' ⟨by omega, hzb.2⟩ hq hlt hq' r' b')
     have e1 : ((q : Int) + z == 0) = false := by simp; omega
     clear hl' hq'
     go_wp2_with fail
     go_region_held3 (fun w' => w'.cell? ⟨w.heap.size, 0, none⟩ = some (.slice A n c) ∧ w'.cell? ⟨b, off + k, none⟩ = some (.int .i64 x))
      (go_keep)
      (first
       | (go_at_call 115; refine (specArity _ _ _ sg x _ s hn).mono ?_; rintro e w2 ⟨he, bb⟩; rw [HZ.out] at he; subst he; have r2 := hr.next bb; have cA' : w2.cell? ⟨w.heap.size, 0, none⟩ = some (.slice A n c) := r2.cell 0; have cx' : w2.cell? ⟨b, off + k, none⟩ = some (.int .i64 x) := (bb.cell (p := ⟨b, off + k, none⟩) (Nat.lt_trans hbb hr.lt)).trans hx'; have b2 := hb.trans (bb.mono (Nat.le_of_lt hr.lt))))
     have F := hid (S.out _ r2 b2)
     clear r2 b2 cA' cx' cA hx' s hr hb bb
     go_wp2
     go_roundw
     case rel => rw [show (q : Int) + 1 + z - 1 = (q : Int) + z by omega]; exact F.out
     case measure => simp [intOf]; omega
  ·have S := hid (end_bad (hl.out (by rw [HL.out]; exact hlt)) hb)
   clear hl hr hb h h' hs hlen
   go_wp2
   go_ret
   exact S.out
end endOf
end
section
open Go.Lib (hid)
namespace termOk
open Go.RowKit base ints sig term arity endOf cursor
def termOkB (sg t : List Int) : Bool := sigOkB sg && termB sg t
theorem sig_arities {sg : List Int} (h : sigOkB sg = true) : Arities sg ∧ 1 ≤ sg.length ∧ sg.length ≤ 8 := by
 unfold sigOkB at h
 rw [Bool.and_eq_true, decide_eq_true_eq, List.all_eq_true] at h
 refine ⟨fun j hj => ?_, h.1⟩
 have := h.2 (sg[j]) (List.getElem_mem hj)
 simp [arityOk] at this
 simp [List.getD, hj]
 omega
theorem endI_len {sg t : List Int} : (endI sg t 0 == (t.length : Int)) = decide (scan sg 1 t = some t.length) := by
 cases h : scan sg 1 t with
 | none =>
  rw [endI_none (by simpa using h)]
  simp
 | some j =>
  rw [endI_some (j := j) (by simpa using h)]
  simp
  by_cases e : j = t.length
  ·subst e; simp
  ·simp [e]; omega
def AnsTerm (w : World) (sg t : List Int) (e : Ending) (w' : World) : Prop := e = .returned (.bool (termOkB sg t)) ∧ Below w.heap.size w w'
theorem term_sig {w w' : World} {sg t : List Int} (h : sigOkB sg = false) (hb : Below w.heap.size w w') : AnsTerm w sg t (.returned (.bool false)) w' := ⟨by unfold termOkB; rw [h, Bool.false_and], hb⟩
theorem term_long {w w' : World} {sg t : List Int} {m : Nat} (hm : t.length = m) (h : 60 < m) (hb : Below w.heap.size w w') : AnsTerm w sg t (.returned (.bool false)) w' :=
 ⟨by unfold termOkB termB; rw [decide_eq_false (p := t.length ≤ 60) (by omega), Bool.false_and, Bool.and_false], hb⟩
theorem term_empty {w w' : World} {sg t : List Int} {m : Nat} (hm : t.length = m) (h : ¬ 1 ≤ m) (hb : Below w.heap.size w w') : AnsTerm w sg t (.returned (.bool false)) w' := by
 refine ⟨?_, hb⟩
 have : t = [] := List.eq_nil_of_length_eq_zero (by omega)
 subst this
 unfold termOkB termB
 simp [scan]
theorem term_end {w w' : World} {sg t : List Int} {m : Nat} (hm : t.length = m) (h : sigOkB sg = true) (h' : m ≤ 60) (hb : Below w.heap.size w w') : AnsTerm w sg t (.returned (.bool (endI sg t 0 == (m : Int)))) w' :=
 ⟨by unfold termOkB termB; rw [h, Bool.true_and, decide_eq_true (p := t.length ≤ 60) (by omega), Bool.true_and, ← endI_len, hm], hb⟩
set_option maxHeartbeats 1000000 in
theorem specTermOk (A A' : Option Addr) (n c m c' : Nat) (sg t : List Int) (w : World) (h : Seg w w.heap.size A n sg) (h' : Seg w w.heap.size A' m t) (hn : n ≤ 1048576) (hm : m ≤ 1048576) :
  Calls Try.prog 54 #[.agg #[.slice A n c], .slice A' m c'] w (AnsTerm w sg t) := by
 obtain ⟨W, hW⟩ : ∃ W, W = w.alloc (.cells #[.slice A n c] 29) := ⟨_, rfl⟩
 have rA : Row W w.heap.size 29 #[.slice A n c] := by rw [hW]; exact Row.new _ _ _
 have bel : Below w.heap.size w W := by rw [hW]; exact (Below.refl _ _).alloc (Nat.le_refl _) _
 replace h := (h.below bel).more bel.size
 replace h' := (h'.below bel).more bel.size
 have HW := hid hW
 have HL := hid h'.1
 clear hW
 have L := hid (specSigOk A n c sg W h hn)
 cases hsig : sigOkB sg with
 | false =>
  have HS := hid hsig
  clear hsig h h'
  go_enter Try.func54, Try.ntmps54
  go_wp2_with fail
  rw [← HW.out]
  refine L.out.mono ?_
  rintro e w1 ⟨he, bb⟩
  rw [HS.out] at he
  subst he
  have F := hid (term_sig (t := t) HS.out (bel.trans (bb.mono (Nat.le_of_lt rA.lt))))
  clear bb bel rA
  go_wp2
  go_ret
  exact F.out
 | true =>
  have HS := hid hsig
  have hars := (sig_arities hsig).1
  clear hsig
  by_cases hin : 1 ≤ (m : Int) ∧ (m : Int) ≤ 60
  ·go_enter Try.func54, Try.ntmps54
   go_wp2_with fail
   rw [← HW.out]
   refine L.out.mono ?_
   rintro e w1 ⟨he, bb⟩
   rw [HS.out] at he
   subst he
   replace h := h.next bb
   replace h' := h'.next bb
   have hlt := rA.lt
   replace rA := rA.next bb
   replace bel := bel.trans (bb.mono (Nat.le_of_lt hlt))
   have cA : w1.cell? ⟨w.heap.size, 0, none⟩ = some (.slice A n c) := rA.cell 0
   clear bb hlt
   go_wp2_with fail
   refine (inYes _ _ _ _ hin).mono ?_
   rintro e w2 ⟨rfl, rfl⟩
   go_wp2_with fail
   refine (specEnd A A' n c m c' sg t 0 _ h h' hn hm hars (by omega) (by omega)).mono ?_
   rintro e w2 ⟨rfl, bb⟩
   have F := hid (term_end HL.out HS.out (by omega) (bel.trans (bb.mono (Nat.le_of_lt rA.lt))))
   clear bb bel rA cA h h' hars
   rw [show (0 : Int).toNat = 0 from rfl]
   generalize endI sg t 0 = z at *
   go_wp2
   go_ret
   exact F.out
  ·go_enter Try.func54, Try.ntmps54
   go_wp2_with fail
   rw [← HW.out]
   refine L.out.mono ?_
   rintro e w1 ⟨he, bb⟩
   rw [HS.out] at he
   subst he
   have F : AnsTerm w sg t (.returned (.bool false)) w1 := by
    have b := bel.trans (bb.mono (Nat.le_of_lt rA.lt))
    by_cases h1 : 1 ≤ m
    ·exact term_long HL.out (by omega) b
    ·exact term_empty HL.out h1 b
   have HF := hid F
   clear F bb bel rA h h' hars
   go_wp2_with fail
   refine (inNo _ _ _ _ hin).mono ?_
   rintro e w2 ⟨rfl, rfl⟩
   go_wp2
   go_ret
   exact HF.out
theorem term_scan {w w' : World} {sg t : List Int} {m : Nat} {b : Bool} (hm : t.length = m) (h : sigOkB sg = true) (h' : m ≤ 60) (hs : decide (scan sg 1 t = some m) = b) (hb : Below w.heap.size w w') : AnsTerm w sg t (.returned (.bool b)) w' :=
 ⟨by unfold termOkB termB; rw [h, Bool.true_and, decide_eq_true (p := t.length ≤ 60) (by omega), Bool.true_and, hm, hs], hb⟩
theorem cur_new {w : World} {A A' : Option Addr} {n c m c' : Nat} {sg t : List Int} (h : Seg w w.heap.size A n sg) (h' : Seg w w.heap.size A' m t) (hn : n ≤ 1048576) (hm : m ≤ 1048576) (ha : Arities sg) (k : Nat) (hk : k ≤ m) :
  Cur (w.alloc (.cells #[.slice A n c, .slice A' m c', .int .i64 k] 92)) w.heap.size A n c A' m c' sg t k :=
 ⟨Row.new _ _ _, h.alloc (Nat.le_refl _) _, h'.alloc (Nat.le_refl _) _, hk, hn, hm, ha⟩
theorem grown_new {w w' : World} {o : Obj} (hg : (w.alloc o).grownBy w' (some w.heap.size)) : Below w.heap.size w w' :=
 ⟨hg.os, hg.tape, hg.output, by have := hg.size; simp at this; omega, fun i hi => by
  rw [hg.block i (by simp; omega) (by simp; omega)]
  exact Below.heap_alloc _ _ _ hi⟩
set_option maxHeartbeats 1000000 in
theorem implTermOk (A A' : Option Addr) (n c m c' : Nat) (sg t : List Int) (w : World) (h : Seg w w.heap.size A n sg) (h' : Seg w w.heap.size A' m t) (hn : n ≤ 1048576) (hm : m ≤ 1048576) :
  Calls Try.prog 57 #[.agg #[.slice A n c], .slice A' m c'] w (AnsTerm w sg t) := by
 obtain ⟨W, hW⟩ : ∃ W, W = w.alloc (.cells #[.slice A n c] 29) := ⟨_, rfl⟩
 have rA : Row W w.heap.size 29 #[.slice A n c] := by rw [hW]; exact Row.new _ _ _
 have bel : Below w.heap.size w W := by rw [hW]; exact (Below.refl _ _).alloc (Nat.le_refl _) _
 replace h := (h.below bel).more bel.size
 replace h' := (h'.below bel).more bel.size
 have HW := hid hW
 have HL := hid h'.1
 clear hW
 have L := hid (implSigOk A n c sg W h hn)
 cases hsig : sigOkB sg with
 | false =>
  have HS := hid hsig
  clear hsig h h'
  go_enter Try.func57, Try.ntmps57
  go_wp2_with fail
  rw [← HW.out]
  refine L.out.mono ?_
  rintro e w1 ⟨he, bb⟩
  rw [HS.out] at he
  subst he
  have F := hid (term_sig (t := t) HS.out (bel.trans (bb.mono (Nat.le_of_lt rA.lt))))
  clear bb bel rA
  go_wp2
  go_ret
  exact F.out
 | true =>
  have HS := hid hsig
  have hars := (sig_arities hsig).1
  clear hsig
  by_cases h60 : m ≤ 60
  ·go_enter Try.func57, Try.ntmps57
   go_wp2_with fail
   rw [← HW.out]
   refine L.out.mono ?_
   rintro e w1 ⟨he, bb⟩
   rw [HS.out] at he
   subst he
   replace h := h.next bb
   replace h' := h'.next bb
   have hlt := rA.lt
   replace rA := rA.next bb
   replace bel := bel.trans (bb.mono (Nat.le_of_lt hlt))
   have cA : w1.cell? ⟨w.heap.size, 0, none⟩ = some (.slice A n c) := rA.cell 0
   clear bb hlt
   have CN := hid (cur_new (c := c) (c' := c') h h' hn hm hars 0 (Nat.zero_le _))
   go_wp2_with fail
   refine (pass w1.heap.size A n c A' m c' sg t 0 _ CN.out).mono ?_
   rintro e w2 ⟨hg, ⟨j, hj, rfl, hc⟩ | ⟨hj, rfl, -⟩⟩
   ·have b2 := bel.trans ((grown_new hg).mono (Nat.le_of_lt rA.lt))
    have c2 : w2.cell? ⟨w1.heap.size, 2, none⟩ = some (.int .i64 ((0 + j : Nat) : Int)) := hc.row.cell 2
    rw [Nat.zero_add] at c2
    have F := hid (fun (b : Bool) (hb : decide (j = m) = b) => term_scan (b := b) HL.out HS.out h60 (by rw [show t.drop 0 = t from rfl] at hj; rw [hj, ← hb]; simp) b2)
    clear hj hc hg b2 bel rA cA h h' hars CN
    by_cases e : j = m
    ·have F' := hid (F.out true (by simp [e]))
     have e1 : ((j : Int) == (m : Int)) = true := by simp [e]
     clear F e
     go_wp2
     go_ret
     exact F'.out
    ·have F' := hid (F.out false (by simp [e]))
     have e1 : ((j : Int) == (m : Int)) = false := by simp; omega
     clear F e
     go_wp2
     go_ret
     exact F'.out
   ·have F := hid (term_scan (b := false) HL.out HS.out h60 (by rw [show t.drop 0 = t from rfl] at hj; rw [hj]; simp) (bel.trans ((grown_new hg).mono (Nat.le_of_lt rA.lt))))
    clear hj hg bel rA cA h h' hars CN
    go_wp2
    go_ret
    exact F.out
  ·have i1 : (60 : Int) < (m : Int) := by omega
   go_enter Try.func57, Try.ntmps57
   go_wp2_with fail
   rw [← HW.out]
   refine L.out.mono ?_
   rintro e w1 ⟨he, bb⟩
   rw [HS.out] at he
   subst he
   have F := hid (term_long HL.out (by omega) (bel.trans (bb.mono (Nat.le_of_lt rA.lt))) : AnsTerm w sg t _ _)
   clear bb bel rA h h' hars
   go_wp2
   go_ret
   exact F.out
end termOk
end
section
namespace term
theorem scan_split {sg : List Int} : ∀ {l : List Int} {p q j : Nat}, scan sg (p + q) l = some j → ∃ i, i ≤ j ∧ scan sg p l = some i ∧ scan sg q (l.drop i) = some (j - i) := by
 intro l
 induction l with
 | nil =>
  intro p q j h
  cases p with
  | zero => exact ⟨0, Nat.zero_le _, rfl, by simpa using h⟩
  | succ p => rw [show p + 1 + q = (p + q) + 1 by omega, scan_nil] at h; cases h
 | cons x r ih =>
  intro p q j h
  cases p with
  | zero => exact ⟨0, Nat.zero_le _, rfl, by simpa using h⟩
  | succ p =>
   rw [show p + 1 + q = (p + q) + 1 by omega] at h
   by_cases ha : ar sg x < 0
   ·rw [scan_bad ha] at h; cases h
   ·rw [scan_step ha] at h
    obtain ⟨j', hj', rfl⟩ := Option.map_eq_some_iff.1 h
    rw [show p + q + (ar sg x).toNat = (p + (ar sg x).toNat) + q by omega] at hj'
    obtain ⟨i, h1, h2, h3⟩ := ih hj'
    refine ⟨i + 1, by omega, by rw [scan_step ha, h2]; rfl, ?_⟩
    rw [List.drop_succ_cons, h3]
    congr 1
    omega
theorem scan_tail {sg : List Int} : ∀ {l : List Int} {q j a : Nat}, scan sg q l = some j → a < j → ∃ q', scan sg (q' + 1) (l.drop a) = some (j - a) := by
 intro l
 induction l with
 | nil =>
  intro q j a h ha
  cases q with
  | zero => rw [scan_zero] at h; injection h; omega
  | succ q => rw [scan_nil] at h; cases h
 | cons x r ih =>
  intro q j a h ha
  cases q with
  | zero => rw [scan_zero] at h; injection h; omega
  | succ q =>
   cases a with
   | zero => exact ⟨q, h⟩
   | succ a =>
    by_cases hx : ar sg x < 0
    ·rw [scan_bad hx] at h; cases h
    ·rw [scan_step hx] at h
     obtain ⟨j', hj', rfl⟩ := Option.map_eq_some_iff.1 h
     obtain ⟨q', h'⟩ := ih (a := a) hj' (by omega)
     exact ⟨q', by rw [List.drop_succ_cons, h']; congr 1; omega⟩
theorem scan_pos {sg : List Int} {l : List Int} {q j : Nat} (h : scan sg (q + 1) l = some j) : 1 ≤ j := by
 cases l with
 | nil => rw [scan_nil] at h; cases h
 | cons x r =>
  by_cases hx : ar sg x < 0
  ·rw [scan_bad hx] at h; cases h
  ·rw [scan_step hx] at h
   obtain ⟨j', _, rfl⟩ := Option.map_eq_some_iff.1 h
   omega
theorem scan_le {sg : List Int} : ∀ {l : List Int} {q j : Nat}, scan sg q l = some j → j ≤ l.length := by
 intro l
 induction l with
 | nil =>
  intro q j h
  cases q with
  | zero => rw [scan_zero] at h; injection h; omega
  | succ q => rw [scan_nil] at h; cases h
 | cons x r ih =>
  intro q j h
  cases q with
  | zero => rw [scan_zero] at h; injection h; omega
  | succ q =>
   by_cases hx : ar sg x < 0
   ·rw [scan_bad hx] at h; cases h
   ·rw [scan_step hx] at h
    obtain ⟨j', hj', rfl⟩ := Option.map_eq_some_iff.1 h
    have := ih hj'
    simp
    omega
theorem scan_at {sg t : List Int} (h : scan sg 1 t = some t.length) {a : Nat} (ha : a < t.length) : ∃ j, scan sg 1 (t.drop a) = some j ∧ 1 ≤ j ∧ a + j ≤ t.length := by
 obtain ⟨q', h'⟩ := scan_tail h ha
 rw [Nat.add_comm] at h'
 obtain ⟨i, h1, h2, _⟩ := scan_split h'
 have h3 := scan_pos (q := 0) h2
 exact ⟨i, h2, h3, by omega⟩
theorem scan_args {sg t : List Int} {a j : Nat} (h : scan sg 1 (t.drop a) = some j) : ∃ i, j = i + 1 ∧ a < t.length ∧ ¬ ar sg (t.getD a 0) < 0 ∧ scan sg (ar sg (t.getD a 0)).toNat (t.drop (a + 1)) = some i := by
 by_cases ha : a < t.length
 ·rw [drop_cons ha] at h
  by_cases hx : ar sg (t.getD a 0) < 0
  ·rw [scan_bad hx] at h; cases h
  ·rw [scan_step hx, Nat.zero_add] at h
   obtain ⟨i, hi, rfl⟩ := Option.map_eq_some_iff.1 h
   exact ⟨i, rfl, ha, hx, hi⟩
 ·rw [List.drop_eq_nil_of_le (by omega), scan_nil] at h; cases h
theorem scan_first {sg t : List Int} {q a i : Nat} (h : scan sg (q + 1) (t.drop a) = some i) : ∃ j, scan sg 1 (t.drop a) = some j ∧ 1 ≤ j ∧ j ≤ i ∧ scan sg q (t.drop (a + j)) = some (i - j) := by
 rw [Nat.add_comm] at h
 obtain ⟨j, h1, h2, h3⟩ := scan_split h
 rw [List.drop_drop] at h3
 exact ⟨j, h2, scan_pos (q := 0) h2, h1, h3⟩
def len1 (sg t : List Int) (a : Nat) : Nat := (scan sg 1 (t.drop a)).getD 0
theorem len1_eq {sg t : List Int} {a j : Nat} (h : scan sg 1 (t.drop a) = some j) : len1 sg t a = j := by unfold len1; rw [h]; rfl
def places (sg t : List Int) : Nat → Nat → List Int
 | 0, _ => []
 | k + 1, p => (p : Int) :: places sg t k (p + len1 sg t p)
def maxOver (sg t : List Int) (g : Nat → Int) : Nat → Nat → Int
 | 0, _ => 0
 | k + 1, p => max (g p) (maxOver sg t g k (p + len1 sg t p))
def dep (sg t : List Int) : Nat → Nat → Int
 | 0, _ => 0
 | f + 1, a => maxOver sg t (dep sg t f) (ar sg (t.getD a 0)).toNat (a + 1) + 1
theorem maxOver_bd {sg t : List Int} {g : Nat → Int} {B : Int} (hB : 0 ≤ B) (hg : ∀ p, 0 ≤ g p ∧ g p ≤ B) : ∀ k p, 0 ≤ maxOver sg t g k p ∧ maxOver sg t g k p ≤ B
 | 0, _ => by simp [maxOver, hB]
 | k + 1, p => by
  have h1 := hg p
  have h2 := maxOver_bd (sg := sg) (t := t) hB hg k (p + len1 sg t p)
  simp only [maxOver]
  omega
theorem dep_bd {sg t : List Int} : ∀ f a, 0 ≤ dep sg t f a ∧ dep sg t f a ≤ f
 | 0, _ => by simp [dep]
 | f + 1, a => by
  have := maxOver_bd (sg := sg) (t := t) (g := dep sg t f) (B := f) (by omega) (fun p => dep_bd (sg := sg) (t := t) f p) (ar sg (t.getD a 0)).toNat (a + 1)
  simp only [dep]
  omega
end term
end
section
open Go.Lib (hid)
namespace endAt
open Go.RowKit base ints sig term arity endOf cursor termOk
def inB (t : List Int) (x : Int) : Bool := decide (0 ≤ x ∧ x < t.length)
def thereB (sg t : List Int) (x : Int) : Bool := termOkB sg t && inB t x
theorem termOk_parts {sg t : List Int} (h : termOkB sg t = true) : sigOkB sg = true ∧ t.length ≤ 60 ∧ scan sg 1 t = some t.length := by
 unfold termOkB termB at h
 simp only [Bool.and_eq_true, decide_eq_true_eq] at h
 exact h
theorem there_parts {sg t : List Int} {x : Int} (h : thereB sg t x = true) : termOkB sg t = true ∧ 0 ≤ x ∧ x < t.length := by
 unfold thereB inB at h
 simp only [Bool.and_eq_true, decide_eq_true_eq] at h
 exact h
theorem there_no {sg t : List Int} {x : Int} (h : termOkB sg t = false ∨ x < 0 ∨ (t.length : Int) ≤ x) : thereB sg t x = false := by
 unfold thereB inB
 rcases h with h | h | h
 ·rw [h, Bool.false_and]
 ·rw [decide_eq_false (by omega), Bool.and_false]
 ·rw [decide_eq_false (by omega), Bool.and_false]
theorem there_yes {sg t : List Int} {x : Int} (h : termOkB sg t = true) (h0 : 0 ≤ x) (h1 : x < t.length) : thereB sg t x = true := by
 unfold thereB inB
 rw [h, decide_eq_true ⟨h0, h1⟩]
 rfl
theorem there (A : Option Addr) (m c : Nat) (x : Int) (b : Bool) (w : World) (hm : m ≤ 1048576) (hb : decide (0 ≤ x ∧ x < m) = b) :
  Calls Try.prog 136 #[.slice A m c, .int .i64 x] w fun e w' => w = w' ∧ e = .returned (.bool b) := by
 by_cases h : 0 ≤ x ∧ x ≤ (m : Int) - 1
 ·have hbt : b = true := by rw [← hb]; simp; omega
  subst hbt
  clear hb
  go_enter Try.func136, Try.ntmps136
  go_wp2_with fail
  refine (inYes _ _ _ _ h).mono ?_
  rintro e w' ⟨rfl, rfl⟩
  go_wp2
  go_ret
  exact ⟨rfl, rfl⟩
 ·have hbt : b = false := by rw [← hb]; simp; omega
  subst hbt
  clear hb
  go_enter Try.func136, Try.ntmps136
  go_wp2_with fail
  refine (inNo _ _ _ _ h).mono ?_
  rintro e w' ⟨rfl, rfl⟩
  go_wp2
  go_ret
  exact ⟨rfl, rfl⟩
def AnsAt (w : World) (A : Option Addr) (n c : Nat) (A' : Option Addr) (m c' : Nat) (sg t : List Int) (x : Int) (e : Ending) (w' : World) : Prop :=
 Below w.heap.size w w' ∧ ((thereB sg t x = true ∧ ∃ p, e = .returned (.pointer (some ⟨p, 0, none⟩)) ∧ w.heap.size ≤ p ∧ Cur w' p A n c A' m c' sg t x.toNat) ∨ (thereB sg t x = false ∧ e = .returned (.pointer none)))
theorem at_no {w w' : World} {A A' : Option Addr} {n c m c' : Nat} {sg t : List Int} {x : Int} (h : thereB sg t x = false) (hb : Below w.heap.size w w') : AnsAt w A n c A' m c' sg t x (.returned (.pointer none)) w' := ⟨hb, .inr ⟨h, rfl⟩⟩
set_option maxHeartbeats 1000000 in
theorem cursorAt (A A' : Option Addr) (n c m c' : Nat) (sg t : List Int) (x : Int) (w : World) (h : Seg w w.heap.size A n sg) (h' : Seg w w.heap.size A' m t) (hn : n ≤ 1048576) (hm : m ≤ 1048576) :
  Calls Try.prog 131 #[.agg #[.slice A n c], .slice A' m c', .int .i64 x] w (AnsAt w A n c A' m c' sg t x) := by
 obtain ⟨W, hW⟩ : ∃ W, W = w.alloc (.cells #[.slice A n c] 29) := ⟨_, rfl⟩
 have rA : Row W w.heap.size 29 #[.slice A n c] := by rw [hW]; exact Row.new _ _ _
 have bel : Below w.heap.size w W := by rw [hW]; exact (Below.refl _ _).alloc (Nat.le_refl _) _
 replace h := (h.below bel).more bel.size
 replace h' := (h'.below bel).more bel.size
 have HW := hid hW
 have HL := hid h'.1
 clear hW
 have L := hid (implTermOk A A' n c m c' sg t W h h' hn hm)
 cases hok : termOkB sg t with
 | false =>
  have HS := hid hok
  clear hok h h'
  go_enter Try.func131, Try.ntmps131
  go_wp2_with fail
  rw [← HW.out]
  refine L.out.mono ?_
  rintro e w1 ⟨he, bb⟩
  rw [HS.out] at he
  subst he
  have F := hid (fun A n c A' m c' => at_no (A := A) (n := n) (c := c) (A' := A') (m := m) (c' := c') (x := x) (there_no (.inl HS.out)) (next_trans bel bb))
  clear bb bel rA
  go_wp2
  go_ret
  exact F.out _ _ _ _ _ _
 | true =>
  have HS := hid hok
  clear hok
  by_cases hin : 0 ≤ x ∧ x < (m : Int)
  ·have hars := (sig_arities (termOk_parts HS.out).1).1
   have HT := hid (there_yes HS.out hin.1 (by rw [HL.out]; exact hin.2))
   obtain ⟨k, rfl⟩ := Int.eq_ofNat_of_zero_le hin.1
   obtain ⟨i0, i1⟩ := hin
   go_enter Try.func131, Try.ntmps131
   go_wp2_with fail
   rw [← HW.out]
   refine L.out.mono ?_
   rintro e w1 ⟨he, bb⟩
   rw [HS.out] at he
   subst he
   replace h := h.next bb
   replace h' := h'.next bb
   replace rA := rA.next bb
   replace bel := next_trans bel bb
   have cA : w1.cell? ⟨w.heap.size, 0, none⟩ = some (.slice A n c) := rA.cell 0
   have CN := cur_new (c := c) (c' := c') h h' hn hm hars k (by omega)
   have F : AnsAt w A n c A' m c' sg t (k : Int) (.returned (.pointer (some ⟨w1.heap.size, 0, none⟩))) (w1.alloc (.cells #[.slice A n c, .slice A' m c', .int .i64 k] 92)) :=
    ⟨bel.alloc (Nat.le_of_lt rA.lt) _, .inl ⟨HT.out, _, rfl, Nat.le_of_lt rA.lt, by rw [Int.toNat_natCast]; exact CN⟩⟩
   have HF := hid F
   clear F CN bb bel rA h h' hars HT
   go_wp2
   go_ret
   exact HF.out
  ·have HT := hid (there_no (sg := sg) (t := t) (x := x) (by rw [HL.out]; omega))
   by_cases hx0 : x < 0
   ·clear hin
    go_enter Try.func131, Try.ntmps131
    go_wp2_with fail
    rw [← HW.out]
    refine L.out.mono ?_
    rintro e w1 ⟨he, bb⟩
    rw [HS.out] at he
    subst he
    have F := hid (fun A n c A' m c' => at_no (A := A) (n := n) (c := c) (A' := A') (m := m) (c' := c') HT.out (next_trans bel bb))
    clear bb bel rA h h'
    go_wp2
    go_ret
    exact F.out _ _ _ _ _ _
   ·have hx1 : (m : Int) ≤ x := by omega
    clear hin
    go_enter Try.func131, Try.ntmps131
    go_wp2_with fail
    rw [← HW.out]
    refine L.out.mono ?_
    rintro e w1 ⟨he, bb⟩
    rw [HS.out] at he
    subst he
    have F := hid (fun A n c A' m c' => at_no (A := A) (n := n) (c := c) (A' := A') (m := m) (c' := c') HT.out (next_trans bel bb))
    clear bb bel rA h h'
    go_wp2
    go_ret
    exact F.out _ _ _ _ _ _
end endAt
end
section
namespace sym
open Go.RowKit base ints sig term termOk marks app
end sym
end
section
namespace sub
open Go.RowKit base ints marks app sym
theorem Seg.cut {w : World} {B b off m a j : Nat} {t : List Int} (h : Seg w B (some ⟨b, off, none⟩) m t) (hj : a + j ≤ m) : Seg w B (some ⟨b, off + a, none⟩) j ((t.drop a).take j) := by
 refine ⟨by have := h.1; simp; omega, fun hn => ?_⟩
 obtain ⟨b', off', e, hb, hc⟩ := h.2 (by omega)
 injection e with e
 injection e with e1 e2
 subst e1 e2
 refine ⟨_, _, rfl, hb, fun q hq => ?_⟩
 rw [Nat.add_assoc, hc (a + q) (by omega)]
 simp [List.getD, List.getElem?_take, hq]
set_option maxHeartbeats 400000 in
theorem copyInts (S : Option Addr) (m c : Nat) (ys : List Int) (w : World) (h : Seg w w.heap.size S m ys) (hnone : S = none → c = 0) (hm : m ≤ 1048576) :
  Calls Try.prog 105 #[.slice S m c] w (AnsList w ys) := by
 have ho := own_empty w w.heap.size (Nat.le_refl _)
 have bb : Below w.heap.size w (w.alloc (.cells #[] 2)) := (Below.refl _ _).alloc (Nat.le_refl _) _
 have hs := h.alloc (Nat.le_refl _) (.cells #[] 2)
 have HN := Lib.hid hnone
 clear hnone h
 go_enter Try.func105, Try.ntmps105
 go_wp2_with (at_builtin; refine appAll rfl _ _ rfl w.heap.size (some ⟨w.heap.size, 0, none⟩) 0 0 [] rfl ho S m c w.heap.size ys rfl hs HN.out (by omega) (by omega) (by simp) ?_; intro A' c' w' ho' b')
 simp only [Nat.zero_add, List.nil_append] at ho'
 have F : AnsList w ys (.returned (.slice A' m c')) w' := ⟨A', m, c', rfl, ho', bb.trans b'⟩
 have HF := Lib.hid F
 clear F ho' b' bb hs ho
 go_wp2
 go_ret
 exact HF.out
set_option maxHeartbeats 400000 in
theorem cloneInts (b off m c : Nat) (ys : List Int) (w : World) (h : Seg w w.heap.size (some ⟨b, off, none⟩) m ys) (hm : m ≤ 1048576) :
  Calls Try.prog 95 #[.slice (some ⟨b, off, none⟩) m c] w (AnsList w ys) := by
 have ho := own_empty w w.heap.size (Nat.le_refl _)
 have bb : Below w.heap.size w (w.alloc (.cells #[] 2)) := (Below.refl _ _).alloc (Nat.le_refl _) _
 have hs := h.alloc (Nat.le_refl _) (.cells #[] 2)
 clear h
 have hnil : ∀ (w : World) (a : Option Addr) (n c n' c' : Nat), (binOp .eql 22 (.slice a n c) (.slice none n' c')).run Try.prog w = .ok (.bool a.isNone) w := fun w a n c n' c' => Lib.run_eql_slice_nil w _ _ a n c n' c' Try.underlying22
 go_enter Try.func95, Try.ntmps95
 go_wp2_with (at_builtin; refine appAll rfl _ _ rfl w.heap.size (some ⟨w.heap.size, 0, none⟩) 0 0 [] rfl ho (some ⟨b, off, none⟩) m c w.heap.size ys rfl hs (fun e => by cases e) (by omega) (by omega) (by simp) ?_; intro A' c' w' ho' b')
 simp only [Nat.zero_add, List.nil_append] at ho'
 have F : AnsList w ys (.returned (.slice A' m c')) w' := ⟨A', m, c', rfl, ho', bb.trans b'⟩
 have HF := Lib.hid F
 clear F ho' b' bb hs ho hnil
 go_wp2
 go_ret
 exact HF.out
end sub
end
section
open Go.Lib (hid)
namespace curO
open Go.RowKit base ints sig term arity cursor sub
set_option maxRecDepth 100000
structure CurO (w : World) (p o : Nat) (ty : TypeId) (cs : Array Value) (A : Option Addr) (n c : Nat) (A' : Option Addr) (m c' : Nat) (sg t : List Int) (k : Nat) : Prop where
 row : Row w p ty (cs.setIfInBounds (o + 2) (.int .i64 k))
 h0 : cs[o]? = some (.slice A n c)
 h1 : cs[o + 1]? = some (.slice A' m c')
 sz : o + 2 < cs.size
 s : Seg w p A n sg
 s' : Seg w p A' m t
 le : k ≤ m
 hn : n ≤ 1048576
 hm : m ≤ 1048576
 ars : Arities sg
section
variable {w w' : World} {p o : Nat} {ty : TypeId} {cs : Array Value} {A : Option Addr} {n c : Nat} {A' : Option Addr} {m c' : Nat} {sg t : List Int} {k : Nat}
theorem CurO.c0 (h : CurO w p o ty cs A n c A' m c' sg t k) : w.cell? ⟨p, o, none⟩ = some (.slice A n c) := by
 rw [h.row.cell o, Array.getElem?_setIfInBounds_ne (by omega)]; exact h.h0
theorem CurO.c1 (h : CurO w p o ty cs A n c A' m c' sg t k) : w.cell? ⟨p, o + 1, none⟩ = some (.slice A' m c') := by
 rw [h.row.cell (o + 1), Array.getElem?_setIfInBounds_ne (by omega)]; exact h.h1
theorem CurO.c2 (h : CurO w p o ty cs A n c A' m c' sg t k) : w.cell? ⟨p, o + 2, none⟩ = some (.int .i64 k) := by
 rw [h.row.cell (o + 2), Array.getElem?_setIfInBounds_self_of_lt h.sz]
theorem CurO.below (h : CurO w p o ty cs A n c A' m c' sg t k) (hb : Below w.heap.size w w') : CurO w' p o ty cs A n c A' m c' sg t k :=
 have hp := h.row.lt
 ⟨h.row.next hb, h.h0, h.h1, h.sz, h.s.below (hb.mono (Nat.le_of_lt hp)), h.s'.below (hb.mono (Nat.le_of_lt hp)), h.le, h.hn, h.hm, h.ars⟩
theorem CurO.drewN (h : CurO w p o ty cs A n c A' m c' sg t k) (d : Nat) : CurO (w.drewN d) p o ty cs A n c A' m c' sg t k :=
 ⟨h.row, h.h0, h.h1, h.sz, h.s, h.s', h.le, h.hn, h.hm, h.ars⟩
theorem CurO.step (h : CurO w p o ty cs A n c A' m c' sg t k) (hk : k < m) (d : Nat) :
  CurO ((w.drewN d).setCell ⟨p, o + 2, none⟩ (.int .i64 ((k : Int) + 1))) p o ty cs A n c A' m c' sg t (k + 1) := by
 have r := (h.row.drewN d).put (o + 2) (.int .i64 ((k : Int) + 1))
 rw [Array.setIfInBounds_setIfInBounds] at r
 refine ⟨?_, h.h0, h.h1, h.sz, (h.s.drewN d).put (p := ⟨p, o + 2, none⟩) (Nat.le_refl _) _, (h.s'.drewN d).put (p := ⟨p, o + 2, none⟩) (Nat.le_refl _) _, hk, h.hn, h.hm, h.ars⟩
 have e : (.int .i64 ((k : Int) + 1) : Value) = .int .i64 ((k + 1 : Nat) : Int) := by simp
 rw [← e]
 exact r
end
def NextO (w : World) (p o : Nat) (ty : TypeId) (cs : Array Value) (A : Option Addr) (n c : Nat) (A' : Option Addr) (m c' : Nat) (sg t : List Int) (k : Nat) (e : Ending) (w' : World) : Prop :=
 w.grownBy w' (some p) ∧ ((k < m ∧ e = .returned (.int .i64 (ar sg (t.getD k 0))) ∧ CurO w' p o ty cs A n c A' m c' sg t (k + 1)) ∨ (k = m ∧ e = .returned (.int .i64 (-1)) ∧ CurO w' p o ty cs A n c A' m c' sg t k))
set_option maxHeartbeats 1000000 in
theorem nextO (p o : Nat) (ty : TypeId) (cs : Array Value) (A : Option Addr) (n c : Nat) (A' : Option Addr) (m c' : Nat) (sg t : List Int) (k : Nat) (w : World) (h : CurO w p o ty cs A n c A' m c' sg t k) :
  Calls Try.prog 116 #[.pointer (some ⟨p, o, none⟩)] w (NextO w p o ty cs A n c A' m c' sg t k) := by
 have hk := h.le
 have hm := h.hm
 have c0 := h.c0
 have c1 := h.c1
 have c2 := h.c2
 have f2 : w.frozen? ⟨p, o + 2, none⟩ = false := h.row.free (o + 2)
 by_cases hlt : k < m
 ·obtain ⟨b, off, x, rfl, hbb, hx, ex⟩ := h.s'.spot hlt
  have i0 : (0 : Int) ≤ (k : Int) := by omega
  have i1 : (k : Int) < (m : Int) := by omega
  have HS := hid (fun d => h.step hlt d)
  have HG := hid (fun d => grown_put (grown_drewN (World.grownBy.refl w (some p)) d) (o + 2) (.int .i64 ((k : Int) + 1)))
  clear h
  go_enter Try.func116, Try.ntmps116
  go_wp2
  go_quiet (fail)
  go_wp2
  go_quiet (fail)
  go_wp2_with fail
  refine (implArity A n c sg x _ ((HS.out _).s.more (Nat.le_of_lt (HS.out _).row.lt)) (HS.out 0).hn).mono ?_
  rintro e w' ⟨rfl, bb⟩
  have F : NextO w p o ty cs A n c (some ⟨b, off, none⟩) m c' sg t k (.returned (.int .i64 (ar sg x))) w' :=
   ⟨grown_trans (HG.out _) (grown_below bb _), .inl ⟨hlt, by rw [ex.out], (HS.out _).below bb⟩⟩
  have HF := hid F
  clear F HG HS bb ex
  go_wp2
  go_ret
  exact HF.out
 ·have e : k = m := by omega
  have HS := hid (fun d => h.drewN d)
  have HE := hid e
  have i2 : decide (m ≤ k) = true := by simp; omega
  clear e h
  go_enter Try.func116, Try.ntmps116
  go_wp2
  go_quiet (fail)
  go_wp2
  go_ret
  exact ⟨grown_drewN (World.grownBy.refl w (some p)) _, .inr ⟨HE.out, rfl, HS.out _⟩⟩
def PassO (w : World) (p o : Nat) (ty : TypeId) (cs : Array Value) (A : Option Addr) (n c : Nat) (A' : Option Addr) (m c' : Nat) (sg t : List Int) (k : Nat) (e : Ending) (w' : World) : Prop :=
 w.grownBy w' (some p) ∧ ((∃ j, scan sg 1 (t.drop k) = some j ∧ e = .returned (.bool true) ∧ CurO w' p o ty cs A n c A' m c' sg t (k + j)) ∨ (scan sg 1 (t.drop k) = none ∧ e = .returned (.bool false) ∧ ∃ k', CurO w' p o ty cs A n c A' m c' sg t k'))
def HeadO (w : World) (p o : Nat) (ty : TypeId) (cs : Array Value) (A : Option Addr) (n c : Nat) (A' : Option Addr) (m c' : Nat) (sg t : List Int) (a : Nat) (q : Value) (wr : World) : Prop :=
 ∃ k q' : Nat, q = .int .i64 q' ∧ q' ≤ 3 * k + 1 ∧ Scn sg t a k q' ∧ CurO wr p o ty cs A n c A' m c' sg t k ∧ w.grownBy wr (some p)
def atO (p o : Nat) (wr : World) : Nat := (intOf ((wr.cell? ⟨p, o + 2, none⟩).getD undef)).toNat
theorem atO_cur {w : World} {p o : Nat} {ty : TypeId} {cs : Array Value} {A : Option Addr} {n c : Nat} {A' : Option Addr} {m c' : Nat} {sg t : List Int} {k : Nat} (h : CurO w p o ty cs A n c A' m c' sg t k) : atO p o w = k := by
 unfold atO
 rw [h.c2]
 simp [intOf]
set_option maxHeartbeats 1000000 in
theorem passO (p o : Nat) (ty : TypeId) (cs : Array Value) (A : Option Addr) (n c : Nat) (A' : Option Addr) (m c' : Nat) (sg t : List Int) (a : Nat) (w : World) (h : CurO w p o ty cs A n c A' m c' sg t a) :
  Calls Try.prog 93 #[.pointer (some ⟨p, o, none⟩)] w (PassO w p o ty cs A n c A' m c' sg t a) := by
 have hm := h.hm
 have HL := hid h.s'.1
 have hs := h.ars
 have H0 : HeadO w p o ty cs A n c A' m c' sg t a (.int .i64 1) w := ⟨a, 1, rfl, by omega, Scn.start (by rw [HL.out]; exact h.le), h, World.grownBy.refl _ _⟩
 have HH := hid H0
 clear H0 h
 go_enter Try.func93, Try.ntmps93
 go_wp2_with fail
 go_loopw [3, 4] (fun q _ wr => HeadO w p o ty cs A n c A' m c' sg t a q wr) (fun _ _ wr => m - atO p o wr)
 case atStart => exact HH.out
 case round =>
  obtain ⟨k, q, rfl, hq, hl, hc, hg⟩ := hrel
  clear HH
  have hk := hc.le
  by_cases h0 : q = 0
  ·subst h0
   have S : PassO w p o ty cs A n c A' m c' sg t a (.returned (.bool true)) wr := ⟨hg, .inl ⟨k - a, hl.done, rfl, by rw [show a + (k - a) = k by have := hl.1; omega]; exact hc⟩⟩
   have HS := hid S
   clear S hl hc hg
   go_wp2
   go_ret
   exact HS.out
  ·obtain ⟨q1, rfl⟩ : ∃ q1, q = q1 + 1 := ⟨q - 1, by omega⟩
   have hq0 : (0 : Int) < ((q1 + 1 : Nat) : Int) := by omega
   go_wp2_with fail
   refine (nextO p o ty cs A n c A' m c' sg t k wr hc).mono ?_
   rintro e w2 ⟨g2, ⟨hlt, rfl, hc2⟩ | ⟨hk', rfl, hc2⟩⟩
   ·obtain ⟨z, hz⟩ : ∃ z, ar sg (t.getD k 0) = z := ⟨_, rfl⟩
    have hzb := ar_bd hs (t.getD k 0)
    rw [hz] at hzb ⊢
    by_cases hneg : z < 0
    ·have S : PassO w p o ty cs A n c A' m c' sg t a (.returned (.bool false)) w2 := ⟨grown_trans hg g2, .inr ⟨hl.bad (by rw [HL.out]; exact hlt) rfl (by rw [hz]; exact hneg), rfl, _, hc2⟩⟩
     have HS := hid S
     clear S hl hc hg hc2 g2 hz
     go_wp2
     go_ret
     exact HS.out
    ·have hl' := hl.step (by rw [HL.out]; exact hlt) rfl (by rw [hz]; exact hneg)
     rw [hz] at hl'
     have S : HeadO w p o ty cs A n c A' m c' sg t a (.int .i64 ((q1 : Int) + z)) w2 := ⟨k + 1, q1 + z.toNat, by congr 1; omega, by omega, hl', hc2, grown_trans hg g2⟩
     have HS := hid S
     have M := hid (show m - atO p o w2 < m - atO p o wr by rw [atO_cur hc, atO_cur hc2]; omega)
     have hz1 := hzb.1
     have hz2 := hzb.2
     have hq2 : (q1 : Int) ≤ 3145728 := by omega
     clear S hl hc hg hc2 g2 hz hl' hzb
     go_wp2
     go_roundw
     case rel => rw [show (q1 : Int) + 1 + z - 1 = (q1 : Int) + z by omega]; exact HS.out
     case measure => exact M.out
   ·have S : PassO w p o ty cs A n c A' m c' sg t a (.returned (.bool false)) w2 := ⟨grown_trans hg g2, .inr ⟨hl.out (by rw [HL.out]; omega), rfl, _, hc2⟩⟩
    have HS := hid S
    clear S hl hc hg hc2 g2
    go_wp2
    go_ret
    exact HS.out
def PartO (w : World) (p o : Nat) (ty : TypeId) (cs : Array Value) (A : Option Addr) (n c : Nat) (b off m c' : Nat) (sg t : List Int) (k j : Nat) (e : Ending) (w' : World) : Prop :=
 e = .returned (.slice (some ⟨b, off + k, none⟩) j (c' - k)) ∧ w.grownBy w' (some p) ∧ CurO w' p o ty cs A n c (some ⟨b, off, none⟩) m c' sg t (k + j)
set_option maxHeartbeats 1000000 in
theorem partO (p o : Nat) (ty : TypeId) (cs : Array Value) (A : Option Addr) (n c b off m c' : Nat) (sg t : List Int) (k j : Nat) (w : World) (h : CurO w p o ty cs A n c (some ⟨b, off, none⟩) m c' sg t k) (hj : scan sg 1 (t.drop k) = some j) (hkj : k + j ≤ m) (h1 : 1 ≤ j) (hmc : m ≤ c') (hc : c' ≤ 9223372036854775807) :
  Calls Try.prog 132 #[.pointer (some ⟨p, o, none⟩)] w (PartO w p o ty cs A n c b off m c' sg t k j) := by
 have hm := h.hm
 have c2 := h.c2
 have L := hid (passO p o ty cs A n c (some ⟨b, off, none⟩) m c' sg t k w h)
 have HJ := hid hj
 have a1 : (k : Int) ≤ (k : Int) + (j : Int) := by omega
 have a2 : (k : Int) + (j : Int) ≤ (c' : Int) := by omega
 have a3 : ¬ c' = k := by omega
 have a4 : k + j ≤ c' := by omega
 have a5 : k + j - k = j := by omega
 clear hj h
 go_enter Try.func132, Try.ntmps132
 go_wp2_with fail
 refine L.out.mono ?_
 rintro e w1 ⟨hg, ⟨j', hj', rfl, hc1⟩ | ⟨hj', rfl, -⟩⟩
 ·obtain rfl : j = j' := by rw [HJ.out] at hj'; injection hj'
  have d1 := hc1.c1
  have d2 := hc1.c2
  have HF := hid (fun d => (show PartO w p o ty cs A n c b off m c' sg t k j (.returned (.slice (some ⟨b, off + k, none⟩) (k + j - k) (c' - k))) (w1.drewN d) from ⟨by rw [a5], grown_drewN hg d, hc1.drewN d⟩))
  clear hc1 hg hj' L
  go_wp2
  go_quiet (fail)
  go_wp2
  go_ret
  exact HF.out _
 ·rw [HJ.out] at hj'
  cases hj'
theorem ofCur {w : World} {p : Nat} {A : Option Addr} {n c : Nat} {A' : Option Addr} {m c' : Nat} {sg t : List Int} {k : Nat} (h : Cur w p A n c A' m c' sg t k) (u : Value) :
  CurO w p 0 92 #[.slice A n c, .slice A' m c', u] A n c A' m c' sg t k :=
 ⟨by have r := h.row; simpa using r, by simp, by simp, by simp, h.s, h.s', h.le, h.hn, h.hm, h.ars⟩
theorem toCur {w : World} {p : Nat} {A : Option Addr} {n c : Nat} {A' : Option Addr} {m c' : Nat} {sg t : List Int} {k : Nat} {u : Value} (h : CurO w p 0 92 #[.slice A n c, .slice A' m c', u] A n c A' m c' sg t k) :
  Cur w p A n c A' m c' sg t k :=
 ⟨by have r := h.row; simpa using r, h.s, h.s', h.le, h.hn, h.hm, h.ars⟩
theorem partC (p : Nat) (A : Option Addr) (n c b off m c' : Nat) (sg t : List Int) (k j : Nat) (w : World) (h : Cur w p A n c (some ⟨b, off, none⟩) m c' sg t k) (hj : scan sg 1 (t.drop k) = some j) (hkj : k + j ≤ m) (h1 : 1 ≤ j) (hmc : m ≤ c') (hc : c' ≤ 9223372036854775807) :
  Calls Try.prog 132 #[.pointer (some ⟨p, 0, none⟩)] w fun e w' => e = .returned (.slice (some ⟨b, off + k, none⟩) j (c' - k)) ∧ w.grownBy w' (some p) ∧ Cur w' p A n c (some ⟨b, off, none⟩) m c' sg t (k + j) :=
 (partO p 0 _ _ A n c b off m c' sg t k j w (ofCur h undef) hj hkj h1 hmc hc).mono fun _ _ ⟨e1, e2, e3⟩ => ⟨e1, e2, toCur e3⟩
end curO
end
section
open Go.Lib (hid)
namespace sub
open Go.RowKit base ints sig term arity endOf cursor termOk endAt marks app sym curO
def subL (sg t : List Int) (a : Nat) : List Int := (t.drop a).take (len1 sg t a)
def subI (sg t : List Int) (x : Int) : List Int := if thereB sg t x = true then subL sg t x.toNat else []
set_option maxHeartbeats 1000000 in
theorem l1Sub (A A' : Option Addr) (n c m c' : Nat) (sg t : List Int) (a j : Nat) (w : World) (h : Seg w w.heap.size A n sg) (h' : Seg w w.heap.size A' m t) (hn : n ≤ 1048576) (hm : m ≤ 1048576) (hc' : m ≤ c') (hc2 : c' ≤ 9223372036854775807)
  (hs : Arities sg) (ha : a < m) (hj : scan sg 1 (t.drop a) = some j) (hj1 : 1 ≤ j) (hj2 : a + j ≤ m) :
  Calls Try.prog 89 #[.agg #[.slice A n c], .slice A' m c', .int .i64 (a : Int)] w (AnsList w (subL sg t a)) := by
 obtain ⟨b, off, x, rfl, -, -, -⟩ := h'.spot ha
 obtain ⟨W, hW⟩ : ∃ W, W = w.alloc (.cells #[.slice A n c] 29) := ⟨_, rfl⟩
 have bel : Below w.heap.size w W := by rw [hW]; exact (Below.refl _ _).alloc (Nat.le_refl _) _
 have zW : w.heap.size < W.heap.size := by rw [hW]; simp
 replace h := (h.below bel).more bel.size
 replace h' := (h'.below bel).more bel.size
 have HW := hid hW
 clear hW
 have L := hid (specEnd A _ n c m c' sg t (a : Int) W h h' hn hm hs (by omega) (by omega))
 have HE := hid (endI_some hj)
 have HL := hid (len1_eq hj)
 have hcut := Seg.cut (a := a) (j := j) h' hj2
 clear h h' hj hs
 have i0 : (0 : Int) ≤ (a : Int) := by omega
 have i1 : (a : Int) ≤ (a : Int) + (j : Int) := by omega
 have i2 : (a : Int) + (j : Int) ≤ (c' : Int) := by omega
 have i3 : ¬ c' = a := by omega
 go_enter Try.func89, Try.ntmps89
 go_wp2_with fail
 rw [← HW.out]
 refine L.out.mono ?_
 rintro e w1 ⟨he, bb⟩
 rw [Int.toNat_natCast, HE.out] at he
 subst he
 replace hcut := hcut.next bb
 replace bel := next_trans bel bb
 clear bb L
 go_wp2_with fail
 refine (copyInts _ j _ _ w1 hcut (fun e => by cases e) (by omega)).mono ?_
 rintro e w2 ⟨A2, n2, c2, rfl, o2, bb⟩
 have F : AnsList w (subL sg t a) (.returned (.slice A2 n2 c2)) w2 := ⟨A2, n2, c2, rfl, by unfold subL; rw [HL.out]; exact Own.lower o2 bel.size, next_trans bel bb⟩
 have HF := hid F
 clear F o2 bb bel hcut
 go_wp2
 go_ret
 exact HF.out
theorem sub_no {w w' : World} {sg t : List Int} {x : Int} {A : Option Addr} {c : Nat} (h : thereB sg t x = false) (ho : Own w' w.heap.size (.slice A 0 c) []) (hb : Below w.heap.size w w') : AnsList w (subI sg t x) (.returned (.slice A 0 c)) w' :=
 ⟨A, 0, c, rfl, by unfold subI; rw [if_neg (by rw [h]; simp)]; exact ho, hb⟩
set_option maxHeartbeats 1000000 in
theorem implSubAt (A A' : Option Addr) (n c m c' : Nat) (sg t : List Int) (x : Int) (w : World) (h : Seg w w.heap.size A n sg) (h' : Seg w w.heap.size A' m t) (hn : n ≤ 1048576) (hm : m ≤ 1048576) (_ : -9223372036854775808 ≤ x) (_ : x ≤ 9223372036854775807) (hc' : m ≤ c') (hc2 : c' ≤ 9223372036854775807) :
  Calls Try.prog 117 #[.agg #[.slice A n c], .slice A' m c', .int .i64 x] w (AnsList w (subI sg t x)) := by
 obtain ⟨W, hW⟩ : ∃ W, W = w.alloc (.cells #[.slice A n c] 29) := ⟨_, rfl⟩
 have bel : Below w.heap.size w W := by rw [hW]; exact (Below.refl _ _).alloc (Nat.le_refl _) _
 have zW : w.heap.size < W.heap.size := by rw [hW]; simp
 replace h := (h.below bel).more bel.size
 replace h' := (h'.below bel).more bel.size
 have HW := hid hW
 have HL := hid h'.1
 clear hW
 have L := hid (cursorAt A A' n c m c' sg t x W h h' hn hm)
 clear h
 go_enter Try.func117, Try.ntmps117
 go_wp2_with fail
 rw [← HW.out]
 refine L.out.mono ?_
 rintro e w1 ⟨bb, ⟨ht, p, rfl, hp, hc⟩ | ⟨ht, rfl⟩⟩
 ·replace h' := h'.next bb
  replace bel := next_trans bel bb
  have HT := hid ht
  clear ht bb
  obtain ⟨hok, h0, h1⟩ := there_parts HT.out
  have ht := (termOk_parts hok).2.2
  obtain ⟨a, rfl⟩ := Int.eq_ofNat_of_zero_le h0
  rw [Int.toNat_natCast] at hc
  have ham : a < m := by rw [HL.out] at h1; omega
  obtain ⟨j, hj, hj1, hj2⟩ := scan_at ht (a := a) (by rw [HL.out]; exact ham)
  rw [HL.out] at hj2
  obtain ⟨b, off, y, rfl, -, -, -⟩ := h'.spot ham
  have hcut := Seg.cut (a := a) (j := j) h' hj2
  have HJ := hid hj
  have HLen := hid (len1_eq hj)
  clear hj ht hok h1
  have i0 : (0 : Int) ≤ (a : Int) := by omega
  have i1 : (a : Int) ≤ (a : Int) + (j : Int) := by omega
  have i2 : (a : Int) + (j : Int) ≤ (c' : Int) := by omega
  have i3 : ¬ c' = a := by omega
  have i4 : a + j ≤ c' := by omega
  go_wp2_with fail
  refine (partC p A n c b off m c' sg t a j _ hc HJ.out hj2 hj1 hc' hc2).mono ?_
  rintro e w2 ⟨rfl, hg, hc2'⟩
  have b2 : Below w.heap.size w w2 := bel.grown hg bel.size (fun k hk => by injection hk; omega)
  have hcut2 : Seg w2 w2.heap.size (some ⟨b, off + a, none⟩) j ((t.drop a).take j) := (Seg.cut (a := a) (j := j) hc2'.s' hj2).more (Nat.le_of_lt hc2'.row.lt)
  clear hc2' hg hcut hc h' bel L
  go_wp2_with fail
  refine (cloneInts b (off + a) j _ _ w2 hcut2 (by omega)).mono ?_
  rintro e w3 ⟨A2, n2, c2, rfl, o2, bb⟩
  have F : AnsList w (subI sg t (a : Int)) (.returned (.slice A2 n2 c2)) w3 := ⟨A2, n2, c2, rfl, by unfold subI; rw [if_pos HT.out, Int.toNat_natCast]; unfold subL; rw [HLen.out]; exact Own.lower o2 b2.size, next_trans b2 bb⟩
  have HF := hid F
  clear F o2 bb b2 hcut2
  go_wp2
  go_ret
  exact HF.out
 ·have F := hid (sub_no ht (Own.nil w1 w.heap.size) (next_trans bel bb))
  clear bb bel ht h' L
  go_wp2
  go_ret
  exact F.out
end sub
end
section
namespace args
open Go.RowKit base ints sig term arity endOf cursor termOk endAt marks app sym
def argsL (sg t : List Int) (a : Nat) : List Int := places sg t (ar sg (t.getD a 0)).toNat (a + 1)
def Coll (sg t : List Int) (m : Nat) (L ys : List Int) (q p : Nat) : Prop := ys ++ places sg t q p = L ∧ ∃ i, scan sg q (t.drop p) = some i ∧ p + i ≤ m
theorem Coll.first {sg t : List Int} {m : Nat} {L ys : List Int} {q p : Nat} (h : Coll sg t m L ys (q + 1) p) : ∃ j, scan sg 1 (t.drop p) = some j ∧ p + j ≤ m ∧ p < t.length ∧ Coll sg t m L (ys ++ [(p : Int)]) q (p + j) := by
 obtain ⟨h1, i, h2, h3⟩ := h
 obtain ⟨j, e1, e2, e3, e4⟩ := scan_first h2
 have e5 := scan_le h2
 refine ⟨j, e1, by omega, ?_, ?_, i - j, e4, by omega⟩
 ·simp only [List.length_drop] at e5; omega
 ·rw [← h1, List.append_assoc]
  congr 1
  simp only [places, len1_eq e1, List.singleton_append]
theorem Coll.len {sg t : List Int} {m : Nat} {L ys : List Int} {q p : Nat} (h : Coll sg t m L ys q p) : ys.length ≤ L.length := by
 rw [← h.1]; simp
end args
end
end Go.Proofs.Ytobedfmagjgdcaa
