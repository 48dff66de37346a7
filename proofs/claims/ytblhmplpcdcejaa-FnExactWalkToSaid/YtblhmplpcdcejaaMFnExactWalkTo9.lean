/-
  MERGED: my texts Iter, RangeGive, RangePre, RangeX, Marks9, NormImpl, StepsIter, SeqImpl, StepsIterX, After, IterQ, SeqImplB, ReachOfA, ReachOf, Longest, SearchIn, LongImpl, ReachImplB, one behind the other, as they are. By an AI agent.
-/
import Derived.Test.YtblhmplpcdcejaaMFnExactWalkTo8
import Derived.RangeFuncNested
import Derived.RangeFuncBound
import Derived.RangeFuncCalls
import Derived.RangeFuncLeaves
import Derived.Shelf.Abstract
import Derived.Shelf.RegionOpen
import Derived.WalkKit
import Derived.OwnWalkIn
import Derived.TacticsInMore
import Derived.LoopNIn
import Derived.LoopIn
import Derived.Maps.OwnIn
namespace Go.Proofs.Ytblhmplpcdcejaa
section
namespace iter
open Go.RowKit Go.Shelf base ints sig term termOk endAt endOf marks app sym sub segs segsHelp matchMath matchSpec whole extended termFacts shape kindsR ruleMath ruleSpec stepMath walkMath stepSpec stepImpl
set_option maxRecDepth 100000
attribute [local go_sem] Oper.semAt_some
def rowL (sg : List Int) (rs : List Rl) (t : List Int) (x k : Nat) : List (Nat × Nat) := (List.range k).filterMap fun r => if redB sg (rs.getD r ([], [])) t x = true then some (x, r) else none
def comeL (sg : List Int) (rs : List Rl) (t : List Int) (x : Nat) : List (Nat × Nat) := (List.range x).flatMap fun a => rowL sg rs t a rs.length
def redL (sg : List Int) (rs : List Rl) (t : List Int) : List (Nat × Nat) := comeL sg rs t t.length
section
variable {sg : List Int} {rs : List Rl} {t : List Int}
theorem row_yes {x k : Nat} (h : redB sg (rs.getD k ([], [])) t x = true) : rowL sg rs t x (k + 1) = rowL sg rs t x k ++ [(x, k)] := by unfold rowL; rw [List.range_succ, List.filterMap_append]; simp only [List.filterMap_cons, List.filterMap_nil, h, if_true]
theorem row_no {x k : Nat} (h : redB sg (rs.getD k ([], [])) t x = false) : rowL sg rs t x (k + 1) = rowL sg rs t x k := by unfold rowL; rw [List.range_succ, List.filterMap_append]; simp only [List.filterMap_cons, List.filterMap_nil, h, Bool.false_eq_true, if_false, List.append_nil]
theorem come_succ (x : Nat) : comeL sg rs t (x + 1) = comeL sg rs t x ++ rowL sg rs t x rs.length := by unfold comeL; rw [List.range_succ, List.flatMap_append]; simp
theorem come_pre {x y : Nat} (h : x ≤ y) : comeL sg rs t x <+: comeL sg rs t y := by
 induction y with
 | zero =>
  obtain rfl : x = 0 := by omega
  exact List.prefix_rfl
 | succ y ih =>
  by_cases e : x = y + 1
  ·subst e; exact List.prefix_rfl
  ·exact (ih (by omega)).trans (by rw [come_succ]; exact List.prefix_append _ _)
theorem row_pre {x k q : Nat} (h : k ≤ q) : rowL sg rs t x k <+: rowL sg rs t x q := by
 induction q with
 | zero =>
  obtain rfl : k = 0 := by omega
  exact List.prefix_rfl
 | succ q ih =>
  by_cases e : k = q + 1
  ·subst e; exact List.prefix_rfl
  ·refine (ih (by omega)).trans ?_
   cases hb : redB sg (rs.getD q ([], [])) t x with
   | false => rw [row_no hb]; exact List.prefix_rfl
   | true => rw [row_yes hb]; exact List.prefix_append _ _
theorem part_pre {x k : Nat} (hx : x < t.length) (hk : k ≤ rs.length) : comeL sg rs t x ++ rowL sg rs t x k <+: redL sg rs t := by
 refine List.IsPrefix.trans ?_ (come_pre (show x + 1 ≤ t.length by omega))
 rw [come_succ]
 exact (List.prefix_append_right_inj _).2 (row_pre hk)
end
section
variable {P : Program} {n : Nat} {ops : Array Oper} {rest : List Oper} {o : Oper} {a : Act} {w : World} {Q : Exit → Act → World → Prop}
theorem rowAllocIn (hgd : o.guard = none) (t : TypeId) (ho : o.op = .alloc t) (z : Array Value) (hz : ∀ w, (zeroValue t).run P w = .ok (.agg z) w)
  (h : wpListIn Fence.wide n P ops Q rest (a.put o.dst (.pointer (some ⟨w.heap.size, 0, none⟩))) (w.alloc (.cells z t))) : wpListIn Fence.wide n P ops Q (o :: rest) a w :=
 wpListIn_plain hgd fun _ hK => by
  refine ⟨fun _ _ => trivial, ?_⟩
  show Oper.uponIn _ _ _ _ _ _ _ ((Oper.semAt none a.eval o).run P w)
  rw [Oper.semAt_none]
  unfold execOp
  simp only [ho, Instr.alloc, Sem.run_bind, hz, Result.andThen_ok, newVar, Value.cells]
  exact hK _ _ h
theorem rowStoreIn (hgd : o.guard = none) (ty : TypeId) (x y : Operand) (ho : o.op = .store ty x y) (g : Nat) (cells old : Array Value) (t : TypeId) (hx : a.eval x = .pointer (some ⟨g, 0, none⟩)) (hy : a.eval y = .agg cells)
  (hg : w.heap[g]? = some (.cells old t (0, 0))) (hi : (P.info? ty).map (·.size) = some cells.size) (hs : old.size = cells.size) (h1 : cells.all (·.oneCell') = true)
  (h : wpListIn Fence.wide n P ops Q rest (a.put o.dst undef) (w.setRow g cells)) : wpListIn Fence.wide n P ops Q (o :: rest) a w :=
 wpListIn_plain hgd fun _ hK => by
  refine ⟨fun _ _ => trivial, ?_⟩
  show Oper.uponIn _ _ _ _ _ _ _ ((Oper.semAt none a.eval o).run P w)
  rw [Oper.semAt_none]
  unfold execOp
  simp only [ho, hx, hy, Instr.storeAt, Instr.sureAddr, Sem.run_bind, Sem.run_pure, Result.andThen_ok, run_storeVar_row w g t ty old cells hg hi hs h1]
  exact hK _ _ h
end
def SeqPre {α : Type} (n : Nat) (P : Program) (g : Nat) (lb : Array Value) (encs : α → Array Value) (Kp : World → World → Prop) (xs : List α) (w : World) : Prop :=
 ∀ (l : Nat) (J Jx : List α → World → Prop) (W : World), Below w.heap.size w W → AbidesFrom W.heap.size J → AbidesFrom W.heap.size Jx →
  (∀ pre x W1, J pre W1 → pre ++ [x] <+: xs → YieldAt Fence.wide (n - 1) P l (encs x) W1 fun e W' => (e = .returned (.bool true) ∧ J (pre ++ [x]) W' ∧ Kp W1 W') ∨ (e = .returned (.bool false) ∧ Jx (pre ++ [x]) W')) →
  J [] W → CallsIn Fence.wide n P g (#[.func (.yield l) #[] #[]] ++ lb) W fun e W' => (∃ v, e = .returned v) ∧ ((∃ ys, ys = xs ∧ J ys W') ∨ (∃ pre, (pre ≠ [] ∧ pre <+: xs) ∧ Jx pre W'))
end iter
end
section
namespace rangeGive
open Go.RowKit base segs shape
theorem below_turn {l : Nat} {V W : World} {o : Obj} (h : Below V.heap.size V W) (hl : l < V.heap.size) : Below (V.putObj l o).heap.size (V.putObj l o) (W.putObj l o) := by
 have hs := h.size
 refine ⟨h.os, h.tape, h.output, by simpa using hs, fun k hk => ?_⟩
 rw [World.putObj_size] at hk
 by_cases e : k = l
 ·subst e
  rw [World.putObj_heap_same hl, World.putObj_heap_same (by omega)]
 ·rw [World.putObj_heap_other e, World.putObj_heap_other e]
  exact h.block k hk
end rangeGive
end
section
namespace iter
open Go.RowKit base rangeGive
end iter
end
section
namespace iter
open Go.RowKit base segs shape rangeGive
theorem rangePreX {α : Type} {n : Nat} {P : Program} {g : Operand} {ps : Array Tmp} {assign body : Code} {Q : Exit → Act → World → Prop} {a : Act} {w w0 : World} {gf : Nat} {lb : Array Value} (hg : a.eval g = .func (.func gf) #[] lb)
  (eg : ∀ args w, (callFunc gf args).run P w = .ok (.enter gf args) w) {encs : α → Array Value} {Kp : World → World → Prop} {xs : List α} (hseq : SeqPre (n - 1) P gf lb encs Kp xs w0) (hb0 : Below w0.heap.size w0 w) (hps : ∀ x, (encs x).size = ps.size)
  (hKt : ∀ {A B C : World}, Kp A B → Kp B C → Kp A C) (hKb : ∀ (W : World) (o o' : Obj), W.heap[w.heap.size + 1]? = some o → Kp W (W.putObj (w.heap.size + 1) o'))
  (I Ix : List α → World → Prop) (hI : OwnFrom w.heap.size I) (hIx : OwnFrom w.heap.size Ix) (h0 : I [] w) (a₁ : α → Act)
  (hassign : ∀ (l : Nat) (x : α) (W : World) (K : Act → World → Prop), K (a₁ x) W → assign.wpIn (Fence.wide.inRound l) (n - 1 - 1) P (Exit.then K (fun _ _ _ => False)) { tmps := (ps.zip (encs x)).foldl (fun t (p, v) => t.setIfInBounds p v) a.tmps, defers := [] } W)
  (hbody : ∀ (l : Nat) (pre : List α) (x : α) (W : World), I pre W → w.heap.size + 2 ≤ W.heap.size → pre ++ [x] <+: xs → body.wpIn (Fence.wide.inRound l) (n - 1 - 1) P (fun e _ W' => (e = .normal ∧ KeepsFrom w.heap.size W W' ∧ Kp W W' ∧ I (pre ++ [x]) W') ∨ (e = .ret ∧ KeepsFrom w.heap.size W W' ∧ Ix (pre ++ [x]) W')) (a₁ x) W)
  (hdone : ∀ (D : Nat) (W : World), w.heap.size ≤ D → I xs W → W.heap[D]? = some (.deferred (some [])) → Q .normal { a with defers := { target := .collected D, args := #[] } :: a.defers } W)
  (hstop : ∀ (D : Nat) (pre : List α) (W : World), w.heap.size ≤ D → pre ≠ [] → pre <+: xs → Ix pre W → W.heap[D]? = some (.deferred (some [])) → Code.ret.wpIn Fence.wide n P Q { a with defers := { target := .collected D, args := #[] } :: a.defers } W) :
  (Code.rangeFunc g ps assign body).wpIn Fence.wide n P Q a w := by
 refine wpIn_rangeFunc ?_
 intro fn hfn
 obtain ⟨rec, hrec⟩ : ∃ rec : LoopState → Option Code → Loop, rec = fun st pe => { state := st, pending := pe, fn, tmps := a.tmps, params := ps, assign, body, defers := w.heap.size } := ⟨_, rfl⟩
 obtain ⟨W1, hW1⟩ : ∃ W1, (w.alloc (.deferred (some []))).alloc (.loop (rec .ready none)) = W1 := ⟨_, rfl⟩
 have hsz : W1.heap.size = w.heap.size + 2 := by rw [← hW1]; simp
 have rl : W1.heap[w.heap.size + 1]? = some (.loop (rec .ready none)) := by
  rw [← hW1]
  have := heap_alloc_new (w.alloc (.deferred (some []))) (.loop (rec .ready none))
  rwa [World.size_alloc] at this
 have rd : W1.heap[w.heap.size]? = some (.deferred (some [])) := by
  rw [← hW1]
  exact (Below.heap_alloc _ _ _ (by simp)).trans (heap_alloc_new w _)
 refine ⟨w.heap.size + 1, [{ target := .collected w.heap.size, args := #[] }], W1, { target := .fn (.func gf) lb, args := #[.func (.yield (w.heap.size + 1)) #[] #[]] }, W1, gf, #[.func (.yield (w.heap.size + 1)) #[] #[]] ++ lb, W1, ?_, ?_, fun _ _ => trivial, ?_, (fun h => by cases h), ?_⟩
 ·rw [← hW1, hrec]; exact run_enterLoop_outer _ _ _ _ _
 ·simp only [resolve, hg]
  simp [go_sem]
 ·simp [invoke, go_sem, eg]
 have key := hseq (w.heap.size + 1) (fun pre W => (I pre W ∧ W.heap[w.heap.size + 1]? = some (.loop (rec .ready none))) ∧ W.heap[w.heap.size]? = some (.deferred (some []))) (fun pre W => (Ix pre W ∧ W.heap[w.heap.size + 1]? = some (.loop (rec .done (some .ret)))) ∧ W.heap[w.heap.size]? = some (.deferred (some []))) W1
  (hb0.trans ((by rw [← hW1]; exact (((Below.refl _ w).alloc (Nat.le_refl _) _).alloc (by simp) _ : Below w.heap.size w _) : Below w.heap.size w W1).mono hb0.size))
  (fun s A B row hs hg' hr => ⟨⟨hI s A B row hs.1.1 hg' (fun r e => by obtain ⟨h1, o, ho, hw⟩ := hr r e; exact ⟨by omega, o, ho, Obj.not_cells_of_walk hw⟩), (hg'.block _ (Array.getElem?_eq_some_iff.1 hs.1.2).1 (fun e => by have := (hr _ e.symm).1; omega)).trans hs.1.2⟩, (hg'.block _ (Array.getElem?_eq_some_iff.1 hs.2).1 (fun e => by have := (hr _ e.symm).1; omega)).trans hs.2⟩)
  (fun s A B row hs hg' hr => ⟨⟨hIx s A B row hs.1.1 hg' (fun r e => by obtain ⟨h1, o, ho, hw⟩ := hr r e; exact ⟨by omega, o, ho, Obj.not_cells_of_walk hw⟩), (hg'.block _ (Array.getElem?_eq_some_iff.1 hs.1.2).1 (fun e => by have := (hr _ e.symm).1; omega)).trans hs.1.2⟩, (hg'.block _ (Array.getElem?_eq_some_iff.1 hs.2).1 (fun e => by have := (hr _ e.symm).1; omega)).trans hs.2⟩)
  ?_ ⟨⟨by rw [← hW1]; exact hI.alloc _ (hI.alloc _ h0), rl⟩, rd⟩
 ·refine key.mono ?_
  rintro e W2 ⟨⟨v, rfl⟩, (⟨ys, rfl, ⟨hi, hl⟩, hd⟩ | ⟨pre, ⟨hne, hpre⟩, ⟨hi, hl⟩, hd⟩)⟩
  ·refine ⟨none, _, by have := run_endLoop (P := P) hl (by rw [hrec]; simp); rw [hrec] at this; exact this, hdone _ _ (Nat.le_refl _) (hI.putObj _ hi (by omega) hl rfl) ((World.putObj_heap_other (by omega)).trans hd)⟩
  ·refine ⟨some .ret, _, by have := run_endLoop (P := P) hl (by rw [hrec]; simp); rw [hrec] at this; exact this, hstop _ pre _ (Nat.le_refl _) hne hpre (hIx.putObj _ hi (by omega) hl rfl) ((World.putObj_heap_other (by omega)).trans hd)⟩
 ·rintro pre x W ⟨⟨hi, hl⟩, hd⟩ hpre
  have hy := run_yield (P := P) (args := encs x) hl (by rw [hrec]; exact hps x)
  rw [hrec] at hy
  refine ⟨fn, _, assign, body, hy, roundIn_of_wpIn hfn (hassign _ x W _ ?_)⟩
  have hlt := (Array.getElem?_eq_some_iff.1 hl).1
  refine ⟨_, run_beginRound hl (by rw [hrec]), ?_⟩
  obtain ⟨o2, ho2⟩ : ∃ o2, o2 = Obj.loop { rec .ready none with state := .busy } := ⟨_, rfl⟩
  rw [← ho2]
  have hl2 : (W.putObj (w.heap.size + 1) o2).heap[w.heap.size + 1]? = some o2 := World.putObj_heap_same hlt
  have hd2 : (W.putObj (w.heap.size + 1) o2).heap[w.heap.size]? = some (.deferred (some [])) := (World.putObj_heap_other (by omega)).trans hd
  refine wpIn_mono (hbody _ pre x _ (hI.putObj _ hi (by omega) hl rfl) (by rw [World.putObj_size]; omega) hpre) ?_
  rintro e a3 W3 (⟨rfl, hk3, hkp3, hi3⟩ | ⟨rfl, hk3, hi3⟩)
  ·have hl3 := hk3.same _ _ (by omega) hl2 (by rw [ho2]; rfl)
   have hd3 := hk3.same _ _ (Nat.le_refl _) hd2 rfl
   rw [ho2] at hl3
   have hr := run_endRound (P := P) none hl3
   refine ⟨_, _, hr, .inl ⟨rfl, ⟨⟨hI.putObj _ hi3 (by omega) hl3 rfl, ?_⟩, (World.putObj_heap_other (by omega)).trans hd3⟩, hKt (hKt (hKb _ _ _ hl) hkp3) (hKb _ _ _ hl3)⟩⟩
   rw [World.putObj_heap_same (Array.getElem?_eq_some_iff.1 hl3).1, hrec]
   rfl
  ·have hl3 := hk3.same _ _ (by omega) hl2 (by rw [ho2]; rfl)
   have hd3 := hk3.same _ _ (Nat.le_refl _) hd2 rfl
   rw [ho2] at hl3
   have hr := run_endRound (P := P) (some .ret) hl3
   refine ⟨_, _, hr, .inr ⟨rfl, ⟨hIx.putObj _ hi3 (by omega) hl3 rfl, ?_⟩, (World.putObj_heap_other (by omega)).trans hd3⟩⟩
   rw [World.putObj_heap_same (Array.getElem?_eq_some_iff.1 hl3).1, hrec]
   rfl
end iter
end
section
namespace iter
open Go.RowKit base
def mark (D : Nat) : Deferred := { target := .collected D, args := #[] }
def turnAll : List Nat → World → World
 | [], w => w
 | D :: Ds, w => turnAll Ds (w.putObj D (.deferred none))
theorem leaves_marks {F : Fence} {n : Nat} {P : Program} {fn : Func} {tmps : Array Value} {R : Ending → World → Prop} : ∀ (Ds : List Nat) (w : World), Ds.Nodup → (∀ D ∈ Ds, w.heap[D]? = some (.deferred (some []))) → LeavesIn F n P fn tmps R [] .returning (turnAll Ds w) → LeavesInM F n P fn tmps R (Ds.map mark) .returning w
 | [], w, _, _, h => h
 | D :: Ds, w, hn, hd, h => by
  refine ⟨by simp, .inl ⟨D, _, rfl, run_takeDeferred (hd D (List.mem_cons_self ..)), ?_⟩⟩
  refine leaves_marks Ds _ (List.nodup_cons.1 hn).2 (fun D' hD' => ?_) h
  rw [World.putObj_heap_other (fun e => (List.nodup_cons.1 hn).1 (by rw [← e]; exact hD'))]
  exact hd D' (List.mem_cons_of_mem _ hD')
theorem turn_keeps {I : Unit → World → Prop} {B : Nat} (hI : OwnFrom B I) : ∀ (Ds : List Nat) (w : World), Ds.Nodup → (∀ D ∈ Ds, B ≤ D ∧ w.heap[D]? = some (.deferred (some []))) → I () w → I () (turnAll Ds w)
 | [], w, _, _, h => h
 | D :: Ds, w, hn, hd, h => by
  have h0 := hd D (List.mem_cons_self ..)
  refine turn_keeps hI Ds _ (List.nodup_cons.1 hn).2 (fun D' hD' => ?_) (hI.putObj _ h h0.1 h0.2 rfl)
  have h1 := hd D' (List.mem_cons_of_mem _ hD')
  refine ⟨h1.1, ?_⟩
  rw [World.putObj_heap_other (fun e => (List.nodup_cons.1 hn).1 (by rw [← e]; exact hD'))]
  exact h1.2
end iter
end
section
namespace iter
open Go.RowKit base ints sig term termOk endAt inside marks app sym sub segs segsHelp kinds termFacts matchMath whole takeMath take extended varsOf shape kindsR ruleMath ruleSpec ruleImpl stepMath walkMath stepSpec Go.Shelf stepImpl
set_option maxRecDepth 100000
attribute [local go_sem] Oper.semAt_some
theorem redexesFn (a v : Value) (T : Option Addr) (m c : Nat) (w : World) : Calls Try.prog 105 #[.agg #[a, v], .slice T m c] w fun e w' => e = .returned (.func (.func 122) #[] #[.pointer (some ⟨w.heap.size + 1, 0, none⟩), .pointer (some ⟨w.heap.size, 0, none⟩)]) ∧ w' = (w.alloc (.cells #[a, v] 65)).alloc (.cells #[.slice T m c] 22) := by
 have hmf : ∀ (fn : Fn) (first cap : Array Value) (w : World), (Instr.makeFunc fn first cap).run Try.prog w = .ok (.func fn first cap) w := fun _ _ _ _ => rfl
 go_enter Try.func105, Try.ntmps105
 go_wp2
 go_ret
 exact ⟨rfl, rfl⟩
end iter
end
section
namespace iter
open Go.RowKit Go.Shelf base ints sig term termOk endAt endOf marks app sym sub segs segsHelp shifted termFacts shape kindsR kindsW ruleMath ruleSpec stepMath walkMath stepSpec stepImpl rangeGive
set_option maxRecDepth 100000
attribute [local go_sem] Oper.semAt_some
def stepsOf (sg : List Int) (rs : List Rl) (t : List Int) (ps : List (Nat × Nat)) : List St := ps.filterMap fun p => (stepO sg (rs.getD p.2 ([], [])) t p.1).map fun v => ((p.1 : Int), (p.2 : Int), v)
section
variable {sg : List Int} {rs : List Rl} {t : List Int}
theorem stepsOf_no {ps : List (Nat × Nat)} {x k : Nat} (h : stepO sg (rs.getD k ([], [])) t x = none) : stepsOf sg rs t (ps ++ [(x, k)]) = stepsOf sg rs t ps := by unfold stepsOf; rw [List.filterMap_append]; simp only [List.filterMap_cons, List.filterMap_nil, h, Option.map_none, List.append_nil]
theorem stepsOf_yes {ps : List (Nat × Nat)} {x k : Nat} {v : List Int} (h : stepO sg (rs.getD k ([], [])) t x = some v) : stepsOf sg rs t (ps ++ [(x, k)]) = stepsOf sg rs t ps ++ [((x : Int), (k : Int), v)] := by unfold stepsOf; rw [List.filterMap_append]; simp only [List.filterMap_cons, List.filterMap_nil, h, Option.map_some]
theorem step_red {x : Rl} {a : Nat} {v : List Int} (h : stepO sg x t a = some v) : redB sg x t a = true := by
 unfold redB
 unfold stepO at h
 split at h
 ·cases h
 ·rename_i hm; rw [hm]; rfl
theorem row_steps (a : Nat) : ∀ k, stepsOf sg rs t (rowL sg rs t a k) = (List.range k).filterMap fun r => (stepO sg (rs.getD r ([], [])) t a).map fun v => ((a : Int), (r : Int), v)
 | 0 => rfl
 | k + 1 => by
  rw [List.range_succ, List.filterMap_append, ← row_steps a k]
  cases hb : redB sg (rs.getD k ([], [])) t a with
  | false =>
   have hn : stepO sg (rs.getD k ([], [])) t a = none := by
    cases hs : stepO sg (rs.getD k ([], [])) t a with
    | none => rfl
    | some v => rw [step_red hs] at hb; cases hb
   rw [row_no hb]
   simp only [List.filterMap_cons, List.filterMap_nil, hn, Option.map_none, List.append_nil]
  | true =>
   rw [row_yes hb]
   cases hs : stepO sg (rs.getD k ([], [])) t a with
   | none => rw [stepsOf_no hs]; simp only [List.filterMap_cons, List.filterMap_nil, hs, Option.map_none, List.append_nil]
   | some v => rw [stepsOf_yes hs]; simp only [List.filterMap_cons, List.filterMap_nil, hs, Option.map_some]
theorem stepsOf_all : stepsOf sg rs t (redL sg rs t) = stepsL sg rs t := by
 have key : ∀ x, stepsOf sg rs t (comeL sg rs t x) = (List.range x).flatMap fun a => (List.range rs.length).filterMap fun r => (stepO sg (rs.getD r ([], [])) t a).map fun v => ((a : Int), (r : Int), v) := by
  intro x
  induction x with
  | zero => rfl
  | succ x ih =>
   rw [come_succ, List.range_succ, List.flatMap_append]
   have e : stepsOf sg rs t (comeL sg rs t x ++ rowL sg rs t x rs.length) = stepsOf sg rs t (comeL sg rs t x) ++ stepsOf sg rs t (rowL sg rs t x rs.length) := by unfold stepsOf; rw [List.filterMap_append]
   rw [e, ih, row_steps]
   simp
 exact key t.length
theorem red_in {x k : Nat} {ps : List (Nat × Nat)} (h : ps ++ [(x, k)] <+: redL sg rs t) : x < t.length ∧ k < rs.length ∧ redB sg (rs.getD k ([], [])) t x = true := by
 have hm : (x, k) ∈ redL sg rs t := h.subset (by simp)
 unfold redL comeL rowL at hm
 obtain ⟨a, ha, hm⟩ := List.mem_flatMap.1 hm
 obtain ⟨r, hr, hm⟩ := List.mem_filterMap.1 hm
 split at hm
 ·rename_i hb
  injection hm with hm
  injection hm with e1 e2
  subst e1 e2
  exact ⟨List.mem_range.1 ha, List.mem_range.1 hr, hb⟩
 ·cases hm
theorem pre_steps {ps : List (Nat × Nat)} (h : ps <+: redL sg rs t) : stepsOf sg rs t ps <+: stepsL sg rs t := by rw [← stepsOf_all]; unfold stepsOf; exact h.filterMap _
end
theorem roundIn_any {k k' li l f : Nat} {P : Program} {tm : Array Value} {asg bd : Code} {w : World} {R : Ending → World → Prop} (h : RoundIn Fence.wide k P l f tm asg bd w R) : RoundIn (Fence.wide.inRound li) k' P l f tm asg bd w R := ⟨trivial, fun c cs _ => h.2 c cs (room_wide _)⟩
end iter
end
section
namespace iter
open Go.RowKit Go.Shelf base ints sig term termOk endAt endOf marks app sym sub segs segsHelp shifted termFacts shape kindsR kindsW ruleMath ruleSpec ruleImpl stepMath walkMath stepSpec stepImpl rangeGive ownL
set_option maxRecDepth 100000
attribute [local go_sem] Oper.semAt_some
theorem Ow.cells {w : World} : ∀ {s : Sh} {cs : List Value} {d : Dat s} {F : List Nat}, Ow w s cs d F → ∀ k ∈ F, ∃ t c, Row w k t c
 | .num, _, _, _, h, k, hk => by obtain ⟨_, e⟩ := h; rw [e] at hk; cases hk
 | .bit, _, _, _, h, k, hk => by obtain ⟨_, e⟩ := h; rw [e] at hk; cases hk
 | .row e s, _, _, F, h, k, hk => by
  obtain ⟨A, n, c, e1, hl, h1⟩ := h
  rcases h1 with ⟨_, _, _, h1⟩ | ⟨g, cur, E, G, e2, hr, h2, h3, h4, h5, h6⟩
  ·rw [h1] at hk; cases hk
  ·rw [h5] at hk
   rcases List.mem_cons.1 hk with hk | hk
   ·rw [hk]; exact ⟨_, _, hr⟩
   ·obtain ⟨j, hj, hk⟩ := List.mem_flatMap.1 hk
    exact Ow.cells (h6 j (List.mem_range.1 hj)).2.2 k hk
 | .cat a b, _, _, _, h, k, hk => by
  obtain ⟨ca, cb, Fa, Fb, e, e2, h1, h2⟩ := h
  rw [e2] at hk
  rcases List.mem_append.1 hk with hk | hk
  ·exact Ow.cells h1 k hk
  ·exact Ow.cells h2 k hk
theorem row_turn {w w' : World} {row : Option Nat} (hg : w.grownBy w' row) (hr : ∀ r, row = some r → ∃ o : Obj, w.heap[r]? = some o ∧ o.isCells = false) {k : Nat} {t : TypeId} {cs : Array Value} (hrow : Row w k t cs) : w'.heap[k]? = w.heap[k]? :=
 hg.block k hrow.lt (fun e => by
  obtain ⟨o, ho, hc⟩ := hr k e.symm
  unfold Row at hrow
  rw [hrow] at ho
  injection ho with ho
  rw [← ho] at hc
  cases hc)
theorem ownL_turn {w w' : World} {lo hi n c : Nat} {e : TypeId} {s : Sh} {A : Option Addr} {D : List (Dat s)} {row : Option Nat} (h : OwnL w lo hi e s A n c D) (hg : w.grownBy w' row) (hr : ∀ r, row = some r → ∃ o : Obj, w.heap[r]? = some o ∧ o.isCells = false) : OwnL w' lo hi e s A n c D := by
 obtain ⟨q1, q2, vs, G, q3, q4, q5, q6⟩ := h
 refine ⟨q1, q2, vs, G, ⟨q3.1, ?_⟩, q4, q5, fun j hj => ⟨(q6 j hj).1.keep fun k hkG => by obtain ⟨t, cs, hrow⟩ := Ow.cells (q6 j hj).1 k hkG; exact row_turn hg hr hrow, (q6 j hj).2⟩⟩
 rcases q3.2 with q | ⟨g, cap, cur, e1, hg1, hrow, rest⟩
 ·exact .inl q
 ·exact .inr ⟨g, cap, cur, e1, hg1, (row_turn hg hr hrow).trans hrow, rest⟩
theorem ownL_cells {w : World} {lo hi n c k : Nat} {e : TypeId} {s : Sh} {A : Option Addr} {D : List (Dat s)} (h : OwnL w lo hi e s A n c D) (hk : blk A = some k) : ∃ cs, Row w k e cs := by
 obtain ⟨q1, q2, vs, G, q3, q4, q5, q6⟩ := h
 rcases q3.2 with ⟨e1, _⟩ | ⟨g, cap, cur, e1, hg1, hrow, rest⟩
 ·injection e1 with e1
  subst e1
  cases hk
 ·injection e1 with e1
  subst e1
  injection hk with hk
  have hk : g = k := hk
  subst hk
  exact ⟨_, hrow⟩
end iter
end
section
namespace iter
open Go.RowKit Go.Shelf base ints sig term termOk endAt endOf marks app sym sub segs segsHelp shifted termFacts shape kindsR kindsW ruleMath ruleSpec stepMath walkMath stepSpec stepImpl rangeGive
set_option maxRecDepth 100000
attribute [local go_sem] Oper.semAt_some
end iter
end
section
namespace iter
open Go.RowKit Go.Shelf base ints sig term termOk endAt endOf marks app sym sub segs segsHelp shifted termFacts shape kindsR kindsW ruleMath ruleSpec ruleImpl stepMath walkMath stepSpec stepImpl rangeGive ownL reachMath findW findSpec known
set_option maxRecDepth 100000
attribute [local go_sem] Oper.semAt_some
structure Tch (w : World) (O : Option Addr) (X Y : World) : Prop where
 os : Y.os = X.os
 tape : Y.tape = X.tape
 output : Y.output = X.output
 size : X.heap.size ≤ Y.heap.size
 block : ∀ k, k < X.heap.size → k ≠ w.heap.size + 1 + 1 + 1 → k ≠ w.heap.size + 1 + 1 + 1 + 1 → some k ≠ blk O → Y.heap[k]? = X.heap[k]?
section
variable {w X Y Z : World} {O : Option Addr}
theorem Tch.row {g : Nat} {t : TypeId} {cs : Array Value} (h : Tch w O X Y) (r : Row X g t cs) (h1 : g ≠ w.heap.size + 1 + 1 + 1) (h2 : g ≠ w.heap.size + 1 + 1 + 1 + 1) (h3 : some g ≠ blk O) : Row Y g t cs := (h.block g r.lt h1 h2 h3).trans r
end
def Dok (B : Nat) (Ds : List Nat) (W : World) : Prop := Ds.Nodup ∧ ∀ D ∈ Ds, B ≤ D ∧ W.heap[D]? = some (.deferred (some []))
theorem Dok.cons {B : Nat} {Ds : List Nat} {W0 W : World} {D : Nat} (h0 : Dok B Ds W0) (h : Dok B Ds W) (hD : W0.heap.size ≤ D) (hB : B ≤ W0.heap.size) (hd : W.heap[D]? = some (.deferred (some []))) : Dok B (D :: Ds) W :=
 ⟨List.nodup_cons.2 ⟨fun hm => by have := (Array.getElem?_eq_some_iff.1 (h0.2 D hm).2).1; omega, h.1⟩, fun D' hD' => by
  rcases List.mem_cons.1 hD' with e | hD'
  ·subst e; exact ⟨by omega, hd⟩
  ·exact h.2 D' hD'⟩
theorem ownFrom_dok {β : Type} {B B' : Nat} {Ds : List Nat} {W0 : World} (h0 : Dok B Ds W0) (hB : W0.heap.size ≤ B') : OwnFrom B' (fun (_ : β) W => Dok B Ds W) := fun s X Y row hs hg hr => ⟨hs.1, fun D hD => ⟨(hs.2 D hD).1, (hg.block D (Array.getElem?_eq_some_iff.1 (hs.2 D hD).2).1 (fun e => by
 have h1 := (hr D e.symm).1
 have h2 := (Array.getElem?_eq_some_iff.1 (h0.2 D hD).2).1
 omega)).trans (hs.2 D hD).2⟩⟩
structure Nx (w : World) (a v : Value) (L : List (List Int)) (O : Option Addr) (on oc : Nat) (W : World) : Prop where
 sys : Row W w.heap.size 65 #[a, v]
 r4 : Row W (w.heap.size + 1) 77 #[.slice none 0 0]
 r5 : Row W (w.heap.size + 1 + 1) 4 #[.bool false]
 r6 : Row W (w.heap.size + 1 + 1 + 1) 77 #[.slice O on oc]
 r7 : Row W (w.heap.size + 1 + 1 + 1 + 1 + 1) 87 #[.map (some (w.heap.size + 1 + 1 + 1 + 1))]
 kn : Kn W (w.heap.size + 1 + 1 + 1 + 1) L.length L
 ow : OwnL W (w.heap.size + 1 + 1 + 1 + 1 + 1 + 1) W.heap.size 22 sI O on oc L
 bel : Below w.heap.size w W
section
variable {w X Y : World} {a v : Value} {L : List (List Int)} {O : Option Addr} {on oc : Nat}
theorem Nx.sz (h : Nx w a v L O on oc X) : w.heap.size + 1 + 1 + 1 + 1 + 1 < X.heap.size := h.r7.lt
theorem Nx.cells (h : Nx w a v L O on oc X) : ∀ k, blk O = some k → w.heap.size + 1 + 1 + 1 + 1 + 1 + 1 ≤ k ∧ k < X.heap.size ∧ ∃ o : Obj, X.heap[k]? = some o ∧ o.isCells = true := fun k hk => by
 obtain ⟨cs, hr⟩ := ownL_cells h.ow hk
 exact ⟨(h.ow.ge k hk).1, (h.ow.ge k hk).2, _, hr, rfl⟩
end
def Lq (sg : List Int) (rs : List Rl) (lv : List (List Int)) (i : Nat) (t : List Int) (pre : List (Nat × Nat)) : List (List Int) := ((stepsOf sg rs t pre).map fun s => s.2.2).foldl addT (nxN sg rs lv i)
section
variable {sg : List Int} {rs : List Rl} {lv : List (List Int)} {i : Nat} {t : List Int} {pre : List (Nat × Nat)} {x k : Nat} {y : List Int}
end
end iter
end
section
open Go.Lib (hid)
namespace iter
open Go.RowKit Go.Shelf base ints sig term termOk endAt endOf marks app sym sub segs segsHelp matchMath matchSpec whole extended termFacts shape kindsR ruleMath ruleSpec stepMath walkMath stepSpec stepImpl shifted kindsW rangeGive drawX
set_option maxRecDepth 100000
attribute [local go_sem] Oper.semAt_some
structure KB (Q : Nat → Prop) (A B : World) : Prop where
 os : B.os = A.os
 tape : B.tape = A.tape
 output : B.output = A.output
 size : A.heap.size ≤ B.heap.size
 block : ∀ k, Q k → k < A.heap.size → B.heap[k]? = A.heap[k]?
def QW (Q : Nat → Prop) (w : World) (b : Nat) : Prop := Q b ∧ b < w.heap.size
section
variable {Q Q' : Nat → Prop} {A B C : World}
theorem KB.refl (Q : Nat → Prop) (A : World) : KB Q A A := ⟨rfl, rfl, rfl, Nat.le_refl _, fun _ _ _ => rfl⟩
theorem KB.trans {A B C : World} (h : KB Q A B) (k : KB Q B C) : KB Q A C := ⟨k.os.trans h.os, k.tape.trans h.tape, k.output.trans h.output, Nat.le_trans h.size k.size, fun i h1 h2 => (k.block i h1 (Nat.lt_of_lt_of_le h2 h.size)).trans (h.block i h1 h2)⟩
theorem KB.of_below (h : Below A.heap.size A B) : KB Q A B := ⟨h.os, h.tape, h.output, h.size, fun k _ hk => h.block k hk⟩
theorem KB.row {g : Nat} {t : TypeId} {cs : Array Value} (h : KB Q A B) (hq : Q g) (r : Row A g t cs) : Row B g t cs := (h.block g hq r.lt).trans r
theorem qw_keep {s : Sh} {cs : List Value} {d : Dat s} (h : RdQ A (QW Q A) s cs d) (hk : KB Q A B) : RdQ B (QW Q B) s cs d := (h.keep fun b hb => hk.block b hb.1 hb.2).mono fun b hb => ⟨hb.1, Nat.lt_of_lt_of_le hb.2 hk.size⟩
theorem qw_rd {s : Sh} {cs : List Value} {d : Dat s} (h : RdQ A (QW Q A) s cs d) : Rd A A.heap.size s cs d := h.rd fun b hb => hb.2
theorem qw_more {s : Sh} {cs : List Value} {d : Dat s} (h : RdQ A (QW Q A) s cs d) (hq : ∀ b, Q b → Q' b) : RdQ A (QW Q' A) s cs d := h.mono fun b hb => ⟨hq b hb.1, hb.2⟩
theorem KB.turn {l : Nat} {o o' : Obj} (hl : ¬ Q l) (h : A.heap[l]? = some o) : KB Q A (A.putObj l o') := by
 have g := grownBy_putObj' A l o'
 exact ⟨g.os, g.tape, g.output, g.size, fun k hk h1 => g.block k h1 (fun e => by injection e with e; exact hl (by rw [← e]; exact hk))⟩
end
set_option maxHeartbeats 4000000 in
theorem redexes_stopsQ (n : Nat) (hn : 1 ≤ n) (B2 B3 : Nat) (Q : Nat → Prop) (a v u : Value) (d : Dat sSystem) (t : List Int) (w : World) (hq2 : Q B2) (hq3 : Q B3) (r2 : Row w B2 65 #[a, v]) (r3 : Row w B3 22 #[u])
  (h : RdQ w (QW Q w) sSystem [a, v] d) (ht : RdQ w (QW Q w) sI [u] t) (hz : sz sSystem d ≤ 1048576) (hok : rightB d.1 d.2 t = true) :
  SeqPre n Try.prog 122 #[.pointer (some ⟨B3, 0, none⟩), .pointer (some ⟨B2, 0, none⟩)] (fun x : Nat × Nat => #[Value.int .i64 (x.1 : Int), .int .i64 (x.2 : Int)]) (KB Q) (redL d.1 d.2 t) w := fun l J Jx W hW hJ hJx hY h0 => by
 replace r2 := r2.next hW
 replace r3 := r3.next hW
 replace h := qw_keep h (KB.of_below hW)
 replace ht := qw_keep ht (KB.of_below hW)
 obtain ⟨A, m0, cs, V, q, cv, rfl, rfl, -, -, -, hq, -, hq1, -, -, -⟩ := rd_sys (qw_rd h) hz
 obtain ⟨T, m, c, rfl, hT, hcT⟩ := rd_ints.1 (qw_rd ht)
 have htl : t.length = m := hT.1
 have hm60 : m ≤ 60 := by have := (term_len (right_parts hok).2).2; omega
 have hmx : m ≤ 1048576 := by omega
 have K3 : W.cell? ⟨B3, 0, none⟩ = some (.slice T m c) := r3.cell 0
 have HQ := hid hq
 have HTL := hid htl
 have LM := hid (fun (w1 : World) (bb : KB Q W w1) (x k : Nat) hx hk => matchAt _ _ _ d t x k w1 (qw_rd (qw_keep h bb)) (qw_rd (qw_keep ht bb)) hz hok hx hk)
 have HJ := hid hJ
 have HOK := hid (show (∀ k, k < d.2.length → ruleOkB d.1 (d.2.getD k ([], [])) = true) ∧ termOkB d.1 t = true from ⟨fun k hk => sys_rule (right_parts hok).1 hk, (right_parts hok).2⟩)
 have HR2 := hid r2
 have HR3 := hid r3
 clear hT hcT h ht hz hok hq htl hW r2 r3
 refine callsIn_of_wp Try.func122 rfl trivial ?_ rfl
 simp only [Try.ntmps122, List.size_toArray, List.length_cons, List.length_nil, Nat.reduceAdd, Nat.reduceSub, Array.replicate_succ, Array.replicate_zero, List.push_toArray, List.append_toArray, List.nil_append, List.cons_append]
 gi_wp2
 gi_loopw [10] (fun i wr => ∃ x : Nat, x ≤ m ∧ i = .int .i64 x ∧ J (comeL d.1 d.2 t x) wr ∧ KB Q W wr) (fun i _ => m - (intOf i).toNat)
 case atStart => exact ⟨0, Nat.zero_le _, rfl, h0, KB.refl _ _⟩
 case round =>
  obtain ⟨x, hx, rfl, hJx0, hB⟩ := hrel
  by_cases hlt : x < m
  ·have K2 : wr.cell? ⟨B2, 1, none⟩ = some (.slice V q cv) := (hB.row hq2 HR2.out).cell 1
   have hxm : (x : Int) < (m : Int) := by omega
   gi_wp2
   gi_loopw [16] (fun i wq => ∃ k : Nat, k ≤ q ∧ i = .int .i64 k ∧ J (comeL d.1 d.2 t x ++ rowL d.1 d.2 t x k) wq ∧ KB Q W wq) (fun i _ => q - (intOf i).toNat)
   case atStart => exact ⟨0, Nat.zero_le _, rfl, by simpa [rowL] using hJx0, hB⟩
   case round =>
    obtain ⟨k, hk, rfl, hJk, hBk⟩ := hrel
    have K20 : wr.cell? ⟨B2, 0, none⟩ = some (.slice A m0 cs) := (hBk.row hq2 HR2.out).cell 0
    have K21 : wr.cell? ⟨B2, 1, none⟩ = some (.slice V q cv) := (hBk.row hq2 HR2.out).cell 1
    have K30 : wr.cell? ⟨B3, 0, none⟩ = some (.slice T m c) := (hBk.row hq3 HR3.out).cell 0
    by_cases hkq : k < q
    ·have hkm : (k : Int) < (q : Int) := by omega
     have hxl : x < t.length := by rw [HTL.out]; exact hlt
     have hkl : k < d.2.length := by rw [HQ.out]; exact hkq
     have LM1 := hid (LM.out wr hBk x k hxl hkl)
     have HRED := hid (red_at (sg := d.1) (t := t) (a := x) (HOK.out.1 k hkl) HOK.out.2 hxl)
     obtain ⟨R, hR⟩ : ∃ R, mst d.1 t (d.2.getD k ([], [])).1 x s0 = R := ⟨_, rfl⟩
     rw [hR] at LM1 HRED
     clear hR
     have HJK := hid hJk
     have HBK := hid hBk
     clear hJk hBk
     gi_wp2_with (refine ⟨trivial, ?_⟩; gi_at_call 97; refine (callsIn_wide.2 LM1.out).mono ?_; rintro e w3 ⟨rs, rfl, tab, hsz, bb⟩; refine (?_ : Hid _).out)
     have one := hid tab.one
     have h24 := hid tab.1
     obtain ⟨bo, hbo⟩ : ∃ bo, R.isSome = bo := ⟨_, rfl⟩
     rw [hbo] at HRED ⊢
     have b2 : Below wr.heap.size wr (w3.alloc (.cells rs 139)) := bb.alloc bb.size _
     have hJ3 := HJ.out _ wr (w3.alloc (.cells rs 139)) none HJK.out (cursor.grown_below b2 none) (fun r e => by cases e)
     have hBn : KB Q W (w3.alloc (.cells rs 139)) := HBK.out.trans (KB.of_below b2)
     have hfull : comeL d.1 d.2 t x ++ rowL d.1 d.2 t x (k + 1) <+: redL d.1 d.2 t := part_pre hxl hkl
     clear tab hsz bb hbo LM1 b2 K20 K21 K30
     cases bo with
     | false =>
      have F := hid (show J (comeL d.1 d.2 t x ++ rowL d.1 d.2 t x (k + 1)) (w3.alloc (.cells rs 139)) ∧ KB Q W (w3.alloc (.cells rs 139)) from ⟨by rw [row_no HRED.out.symm]; exact hJ3, hBn⟩)
      clear hJ3 hBn hfull
      refine hid ?_
      gi_wp2_with (first
       | (refine rowAllocIn rfl 139 rfl z24 zero_b ?_)
       | (refine rowStoreIn rfl 139 _ _ rfl w3.heap.size rs z24 139 rfl rfl (heap_alloc_new w3 _) (by rw [h24.out]; exact size_b) (by rw [h24.out]; rfl) one.out ?_; rw [World.setRow_alloc_new]))
      refine ⟨fun _ h => (by cases h), ?_⟩
      gi_wp2
      go_roundw
      case rel => exact ⟨k + 1, by omega, by simp, F.out.1, F.out.2⟩
      case measure => simp [intOf]; omega
     | true =>
      have hyes := row_yes (rs := d.2) (x := x) (k := k) HRED.out.symm
      rw [hyes, ← List.append_assoc] at hfull
      obtain ⟨fn, tmps, assign, body, hy, hR⟩ := hY _ (x, k) _ hJ3 hfull
      dsimp only at hy
      have HYES := hid hyes
      have HF := hid hfull
      clear hJ3 hyes hfull hY
      refine hid ?_
      gi_wp2_with (first
       | (refine rowAllocIn rfl 139 rfl z24 zero_b ?_)
       | (refine rowStoreIn rfl 139 _ _ rfl w3.heap.size rs z24 139 rfl rfl (heap_alloc_new w3 _) (by rw [h24.out]; exact size_b) (by rw [h24.out]; rfl) one.out ?_; rw [World.setRow_alloc_new]))
      refine hR.mono ?_
      rintro e W3 (⟨rfl, hJ4, hk4⟩ | ⟨rfl, hJx4⟩)
      ·have F := hid (show J (comeL d.1 d.2 t x ++ rowL d.1 d.2 t x (k + 1)) W3 ∧ KB Q W W3 from ⟨by rw [HYES.out, ← List.append_assoc]; exact hJ4, hBn.trans hk4⟩)
       clear hJ4 hk4 hBn
       gi_wp2
       go_roundw
       case rel => exact ⟨k + 1, by omega, by simp, F.out.1, F.out.2⟩
       case measure => simp [intOf]; omega
      ·gi_wp2
       refine bodyPost_ret (results_none rfl _ _ _) rfl ?_
       exact ⟨⟨_, rfl⟩, .inr ⟨_, ⟨by simp, HF.out⟩, hJx4⟩⟩
    ·obtain rfl : k = q := by omega
     gi_wp2
     go_roundw
     case rel => exact ⟨x + 1, by omega, by simp, by rw [come_succ, HQ.out]; exact hJk, hBk⟩
     case measure => simp [intOf]; omega
  ·obtain rfl : x = m := by omega
   gi_wp2
   go_end0
   exact ⟨⟨_, rfl⟩, .inl ⟨_, by unfold redL; rw [HTL.out], hJx0⟩⟩
def KpsQ (Q : Nat → Prop) (m q : Nat) (A B : World) : Prop := KB Q A B ∧ KeepsFrom m A B ∧ ∀ k, m ≤ k → k < q → B.heap[k]? = A.heap[k]?
theorem KpsQ.trans {Q : Nat → Prop} {m q : Nat} {A B C : World} (h : KpsQ Q m q A B) (k : KpsQ Q m q B C) : KpsQ Q m q A C := ⟨h.1.trans k.1, h.2.1.trans k.2.1, fun i h1 h2 => (k.2.2 i h1 h2).trans (h.2.2 i h1 h2)⟩
theorem KpsQ.mono {Q : Nat → Prop} {m m' q : Nat} {A B : World} (h : KpsQ Q m q A B) (hm : m ≤ m') : KpsQ Q m' q A B := ⟨h.1, ⟨h.2.1.size, fun k o hk => h.2.1.same k o (Nat.le_trans hm hk)⟩, fun k h1 h2 => h.2.2 k (Nat.le_trans hm h1) h2⟩
theorem KpsQ.of_below {Q : Nat → Prop} {m q : Nat} {A B : World} (h : Below A.heap.size A B) (h2 : q ≤ A.heap.size) : KpsQ Q m q A B := ⟨KB.of_below h, KeepsFrom.of_grownBy (row := none) ⟨h.os, h.tape, h.output, h.size, fun i hi _ => h.block i hi⟩ (fun j e => by cases e), fun k _ hk => h.block k (by omega)⟩
theorem KpsQ.refl (Q : Nat → Prop) (m q : Nat) (A : World) : KpsQ Q m q A A := ⟨KB.refl _ _, KeepsFrom.refl _ _, fun _ _ _ => rfl⟩
theorem kpsq_turn {Q₀ : Nat → Prop} {m q l : Nat} {W : World} {o o' : Obj} (h1 : ¬ Q₀ l) (h2 : l < m) (hl : W.heap[l]? = some o) : KpsQ Q₀ m q W (W.putObj l o') :=
 ⟨KB.turn h1 hl, KeepsFrom.of_grownBy (grownBy_putObj' W l o') (fun j e => by cases e; exact h2), fun k hk _ => World.putObj_heap_other (by omega)⟩
def SeqGiveQ (n : Nat) (P : Program) (g : Nat) (lb : Array Value) (s : Sh) (Q₀ : Nat → Prop) (xs : List (Dat s)) (w : World) : Prop :=
 ∀ (l : Nat) (J Jx : Nat → List (Dat s) → World → Prop) (W : World), Below w.heap.size w W → (∀ q, OwnFrom W.heap.size (J q)) → (∀ q, OwnFrom W.heap.size (Jx q)) →
  (∀ q pre y V W1 es, W.heap.size ≤ q → q ≤ V.heap.size → J q pre V → Below V.heap.size V W1 → Owned W1 V.heap.size W1.heap.size s es y → pre ++ [y] <+: xs → YieldAt Fence.wide (n - 1) P l #[.agg es.toArray] W1 fun e W' => (e = .returned (.bool true) ∧ J q (pre ++ [y]) W' ∧ KpsQ Q₀ W.heap.size q W1 W') ∨ (e = .returned (.bool false) ∧ Jx q (pre ++ [y]) W' ∧ KeepsFrom W.heap.size W1 W')) →
  (∀ q, J q [] W) → CallsIn Fence.wide n P g (#[.func (.yield l) #[] #[]] ++ lb) W fun e W' => (∃ v, e = .returned v) ∧ ((∃ q, W.heap.size ≤ q ∧ J q xs W') ∨ ∃ q pre, W.heap.size ≤ q ∧ pre ≠ [] ∧ pre <+: xs ∧ Jx q pre W')
theorem rangeGiveQ {n : Nat} {P : Program} {g : Operand} {p : Tmp} {assign body : Code} {Q : Exit → Act → World → Prop} {a : Act} {w w0 : World} {gf : Nat} {lb : Array Value} (hg : a.eval g = .func (.func gf) #[] lb)
  (eg : ∀ args w, (callFunc gf args).run P w = .ok (.enter gf args) w) {s : Sh} {t : TypeId} {xs : List (Dat s)} {Q₀ : Nat → Prop} (hQ₀ : ∀ k, Q₀ k → k < w.heap.size) (hseq : SeqGiveQ (n - 1) P gf lb s Q₀ xs w0) (hb0 : Below w0.heap.size w0 w)
  (I Ix : Nat → List (Dat s) → World → Prop) (hI : ∀ q, OwnFrom w.heap.size (I q)) (hIx : ∀ q, OwnFrom w.heap.size (Ix q)) (h0 : ∀ q, I q [] w) (a₁ : List Value → Nat → Act)
  (hassign : ∀ (l : Nat) (es : List Value) (y : Dat s) (lo : Nat) (W : World) (K : Act → World → Prop), Owned W lo W.heap.size s es y → K (a₁ es W.heap.size) (W.alloc (.cells es.toArray t)) →
   assign.wpIn (Fence.wide.inRound l) (n - 1 - 1) P (Exit.then K (fun _ _ _ => False)) { tmps := a.tmps.setIfInBounds p (.agg es.toArray), defers := [] } W)
  (hbody : ∀ (l q : Nat) (pre : List (Dat s)) (y : Dat s) (V W : World) (B : Nat) (es : List Value), w.heap.size + 2 ≤ q → q ≤ V.heap.size → I q pre V → Below V.heap.size V W → V.heap.size ≤ B → Row W B t es.toArray → W.heap.size = B + 1 → Owned W V.heap.size B s es y → pre ++ [y] <+: xs →
   body.wpIn (Fence.wide.inRound l) (n - 1 - 1) P (fun e _ W' => (e = .normal ∧ KpsQ Q₀ w.heap.size q W W' ∧ I q (pre ++ [y]) W') ∨ (e = .ret ∧ KeepsFrom w.heap.size W W' ∧ Ix q (pre ++ [y]) W')) (a₁ es B) W)
  (hdone : ∀ (D q : Nat) (W : World), w.heap.size ≤ D → w.heap.size + 2 ≤ q → I q xs W → W.heap[D]? = some (.deferred (some [])) → Q .normal { a with defers := { target := .collected D, args := #[] } :: a.defers } W)
  (hstop : ∀ (D q : Nat) (pre : List (Dat s)) (W : World), w.heap.size ≤ D → w.heap.size + 2 ≤ q → pre ≠ [] → pre <+: xs → Ix q pre W → W.heap[D]? = some (.deferred (some [])) → Code.ret.wpIn Fence.wide n P Q { a with defers := { target := .collected D, args := #[] } :: a.defers } W) :
  (Code.rangeFunc g #[p] assign body).wpIn Fence.wide n P Q a w := by
 refine wpIn_rangeFunc ?_
 intro fn hfn
 obtain ⟨rec, hrec⟩ : ∃ rec : LoopState → Option Code → Loop, rec = fun st pe => { state := st, pending := pe, fn, tmps := a.tmps, params := #[p], assign, body, defers := w.heap.size } := ⟨_, rfl⟩
 obtain ⟨W1, hW1⟩ : ∃ W1, (w.alloc (.deferred (some []))).alloc (.loop (rec .ready none)) = W1 := ⟨_, rfl⟩
 have hsz : W1.heap.size = w.heap.size + 2 := by rw [← hW1]; simp
 have rl : W1.heap[w.heap.size + 1]? = some (.loop (rec .ready none)) := by
  rw [← hW1]
  have := heap_alloc_new (w.alloc (.deferred (some []))) (.loop (rec .ready none))
  rwa [World.size_alloc] at this
 have rd : W1.heap[w.heap.size]? = some (.deferred (some [])) := by
  rw [← hW1]
  exact (Below.heap_alloc _ _ _ (by simp)).trans (heap_alloc_new w _)
 refine ⟨w.heap.size + 1, [{ target := .collected w.heap.size, args := #[] }], W1, { target := .fn (.func gf) lb, args := #[.func (.yield (w.heap.size + 1)) #[] #[]] }, W1, gf, #[.func (.yield (w.heap.size + 1)) #[] #[]] ++ lb, W1, ?_, ?_, fun _ _ => trivial, ?_, (fun h => by cases h), ?_⟩
 ·rw [← hW1, hrec]; exact run_enterLoop_outer _ _ _ _ _
 ·simp only [resolve, hg]
  simp [go_sem]
 ·simp [invoke, go_sem, eg]
 have key := hseq (w.heap.size + 1) (fun q pre W => (I q pre W ∧ W.heap[w.heap.size + 1]? = some (.loop (rec .ready none))) ∧ W.heap[w.heap.size]? = some (.deferred (some [])))
  (fun q pre W => (Ix q pre W ∧ W.heap[w.heap.size + 1]? = some (.loop (rec .done (some .ret)))) ∧ W.heap[w.heap.size]? = some (.deferred (some []))) W1
  (hb0.trans ((by rw [← hW1]; exact (((Below.refl _ w).alloc (Nat.le_refl _) _).alloc (by simp) _ : Below w.heap.size w _) : Below w.heap.size w W1).mono hb0.size))
  (fun q s A B row hs hg' hr => ⟨⟨hI q s A B row hs.1.1 hg' (fun r e => ⟨by have := (hr r e).1; omega, (hr r e).2⟩), (hg'.block _ (Array.getElem?_eq_some_iff.1 hs.1.2).1 (fun e => by have := (hr _ e.symm).1; omega)).trans hs.1.2⟩, (hg'.block _ (Array.getElem?_eq_some_iff.1 hs.2).1 (fun e => by have := (hr _ e.symm).1; omega)).trans hs.2⟩)
  (fun q s A B row hs hg' hr => ⟨⟨hIx q s A B row hs.1.1 hg' (fun r e => ⟨by have := (hr r e).1; omega, (hr r e).2⟩), (hg'.block _ (Array.getElem?_eq_some_iff.1 hs.1.2).1 (fun e => by have := (hr _ e.symm).1; omega)).trans hs.1.2⟩, (hg'.block _ (Array.getElem?_eq_some_iff.1 hs.2).1 (fun e => by have := (hr _ e.symm).1; omega)).trans hs.2⟩)
  ?_ (fun q => ⟨⟨by rw [← hW1]; exact (hI q).alloc _ ((hI q).alloc _ (h0 q)), rl⟩, rd⟩)
 ·refine key.mono ?_
  rintro e W2 ⟨⟨v, rfl⟩, (⟨q, hq, ⟨hi, hl⟩, hd⟩ | ⟨q, pre, hq, hne, hpre, ⟨hi, hl⟩, hd⟩)⟩
  rotate_left
  ·exact ⟨some .ret, _, by have := run_endLoop (P := P) hl (by rw [hrec]; simp); rw [hrec] at this; exact this, hstop _ q pre _ (Nat.le_refl _) (by omega) hne hpre ((hIx q).putObj _ hi (by omega) hl rfl) ((World.putObj_heap_other (by omega)).trans hd)⟩
  refine ⟨none, _, by have := run_endLoop (P := P) hl (by rw [hrec]; simp); rw [hrec] at this; exact this, hdone _ q _ (Nat.le_refl _) (by omega) ((hI q).putObj _ hi (by omega) hl rfl) ((World.putObj_heap_other (by omega)).trans hd)⟩
 ·rintro q pre y V W es hq hV ⟨⟨hi, hl⟩, hd⟩ hbV hown hpre
  have hltV : w.heap.size + 1 < V.heap.size := by omega
  have hlW : W.heap[w.heap.size + 1]? = some (.loop (rec .ready none)) := (hbV.block _ hltV).trans hl
  have hdW : W.heap[w.heap.size]? = some (.deferred (some [])) := (hbV.block _ (by omega)).trans hd
  have hy : (Instr.yield (w.heap.size + 1) #[.agg es.toArray]).run P W = .ok (.round (w.heap.size + 1) fn (a.tmps.setIfInBounds p (.agg es.toArray)) assign body) W := by
   have := run_yield (P := P) (args := #[.agg es.toArray]) hlW (by rw [hrec]; rfl)
   rw [hrec] at this
   rw [this]
   simp
  refine ⟨fn, _, assign, body, hy, roundIn_of_wpIn hfn (hassign _ es y _ W _ hown ?_)⟩
  have hszW := hbV.size
  have bA : Below W.heap.size W (W.alloc (.cells es.toArray t)) := (Below.refl _ _).alloc (Nat.le_refl _) _
  have hlA : (W.alloc (.cells es.toArray t)).heap[w.heap.size + 1]? = some (.loop (rec .ready none)) := (bA.block _ (by omega)).trans hlW
  have hdA : (W.alloc (.cells es.toArray t)).heap[w.heap.size]? = some (.deferred (some [])) := (bA.block _ (by omega)).trans hdW
  have bVA : Below V.heap.size V (W.alloc (.cells es.toArray t)) := hbV.trans (bA.mono hszW)
  refine ⟨_, run_beginRound hlA (by rw [hrec]), ?_⟩
  obtain ⟨o2, ho2⟩ : ∃ o2, o2 = Obj.loop { rec .ready none with state := .busy } := ⟨_, rfl⟩
  rw [← ho2]
  have hl2 : ((W.alloc (.cells es.toArray t)).putObj (w.heap.size + 1) o2).heap[w.heap.size + 1]? = some o2 := World.putObj_heap_same (by simp; omega)
  have hd2 : ((W.alloc (.cells es.toArray t)).putObj (w.heap.size + 1) o2).heap[w.heap.size]? = some (.deferred (some [])) := (World.putObj_heap_other (by omega)).trans hdA
  refine wpIn_mono (hbody _ q pre y (V.putObj (w.heap.size + 1) o2) _ W.heap.size es (by omega) (by rw [World.putObj_size]; omega) ((hI q).putObj _ hi (by omega) hl rfl) (below_turn bVA hltV) (by rw [World.putObj_size]; exact hszW)
   ((World.putObj_heap_other (by omega)).trans (Row.new W t es.toArray)) (by simp)
   (by rw [World.putObj_size]; exact (hown.next bA).btw (Btw.of_grown (grownBy_putObj' _ (w.heap.size + 1) o2) (lo := w.heap.size + 1) (hi := w.heap.size + 2) (fun k e => by cases e; omega)) (.inr (by omega))) hpre) ?_
  rintro e a3 W3 (⟨rfl, hk3, hi3⟩ | ⟨rfl, hk3, hi3⟩)
  ·have hl3 := hk3.2.1.same _ _ (by omega) hl2 (by rw [ho2]; rfl)
   have hd3 := hk3.2.1.same _ _ (Nat.le_refl _) hd2 rfl
   rw [ho2] at hl3
   have hr := run_endRound (P := P) none hl3
   refine ⟨_, _, hr, .inl ⟨rfl, ⟨⟨(hI q).putObj _ hi3 (by omega) hl3 rfl, ?_⟩, (World.putObj_heap_other (by omega)).trans hd3⟩, ?_⟩⟩
   ·rw [World.putObj_heap_same (Array.getElem?_eq_some_iff.1 hl3).1, hrec]
    rfl
   ·have k0 : KpsQ Q₀ W1.heap.size q W (W.alloc (.cells es.toArray t)) := KpsQ.of_below bA (by omega)
    have t1 : KpsQ Q₀ W1.heap.size q (W.alloc (.cells es.toArray t)) ((W.alloc (.cells es.toArray t)).putObj (w.heap.size + 1) o2) := kpsq_turn (fun h => by have := hQ₀ _ h; omega) (by omega) hlA
    have k3 : KpsQ Q₀ W1.heap.size q _ W3 := hk3.mono (by omega)
    exact ((k0.trans t1).trans k3).trans (kpsq_turn (fun h => by have := hQ₀ _ h; omega) (by omega) hl3)
  ·have hl3 := hk3.same _ _ (by omega) hl2 (by rw [ho2]; rfl)
   have hd3 := hk3.same _ _ (Nat.le_refl _) hd2 rfl
   rw [ho2] at hl3
   have hr := run_endRound (P := P) (some .ret) hl3
   refine ⟨_, _, hr, .inr ⟨rfl, ⟨⟨(hIx q).putObj _ hi3 (by omega) hl3 rfl, ?_⟩, (World.putObj_heap_other (by omega)).trans hd3⟩, ?_⟩⟩
   ·rw [World.putObj_heap_same (Array.getElem?_eq_some_iff.1 hl3).1, hrec]
    rfl
   ·have k0 : KpsQ Q₀ W1.heap.size q W (W.alloc (.cells es.toArray t)) := KpsQ.of_below bA (by omega)
    have t1 : KpsQ Q₀ W1.heap.size q (W.alloc (.cells es.toArray t)) ((W.alloc (.cells es.toArray t)).putObj (w.heap.size + 1) o2) := kpsq_turn (fun h => by have := hQ₀ _ h; omega) (by omega) hlA
    have k3 : KeepsFrom W1.heap.size _ W3 := ⟨hk3.size, fun k o hk => hk3.same k o (by omega)⟩
    exact ((k0.2.1.trans t1.2.1).trans k3).trans (kpsq_turn (Q₀ := Q₀) (q := q) (fun h => by have := hQ₀ _ h; omega) (by omega) hl3).2.1
theorem ownFrom_kpsQ {β : Type} {Q : Nat → Prop} {m : Nat} {V : World} (h : ∀ k, Q k → k < V.heap.size) : OwnFrom V.heap.size (fun (_ : β) W => KpsQ Q m V.heap.size V W) := fun s A B row hs hg hr => ⟨⟨hg.os.trans hs.1.os, hg.tape.trans hs.1.tape, hg.output.trans hs.1.output, Nat.le_trans hs.1.size hg.size, fun k h1 h2 => (hg.block k (Nat.lt_of_lt_of_le h2 hs.1.size) (fun e => by have := (hr k e.symm).1; omega)).trans (hs.1.block k h1 h2)⟩, ownFrom_keepsFrom (β := β) (Nat.le_refl _) s A B row hs.2.1 hg hr, fun k h1 h2 => (hg.block k (Nat.lt_of_lt_of_le h2 hs.1.size) (fun e => by have := (hr k e.symm).1; omega)).trans (hs.2.2 k h1 h2)⟩
theorem kb_two {Q : Nat → Prop} {m q g : Nat} {A B : World} (h : KpsQ Q m q A B) (h1 : m ≤ g) (h2 : g + 1 < q) (_ : q ≤ A.heap.size) : KB (fun b => Q b ∨ b = g ∨ b = g + 1) A B := ⟨h.1.os, h.1.tape, h.1.output, h.1.size, fun k hk hl => by
 rcases hk with hk | rfl | rfl
 ·exact h.1.block k hk hl
 ·exact h.2.2 _ h1 (by omega)
 ·exact h.2.2 _ (by omega) h2⟩
set_option maxHeartbeats 4000000 in
theorem steps_giveQ (n : Nat) (hn : 2 ≤ n) (B1 B2 : Nat) (Q : Nat → Prop) (a v u : Value) (d : Dat sSystem) (t : List Int) (w : World) (hQw : ∀ k, Q k → k < w.heap.size) (hQ1 : Q B1) (hQ2 : Q B2) (r1 : Row w B1 65 #[a, v]) (r2 : Row w B2 22 #[u])
  (h : RdQ w (QW Q w) sSystem [a, v] d) (ht : RdQ w (QW Q w) sI [u] t) (hz : sz sSystem d ≤ 1048576) (hok : rightB d.1 d.2 t = true) :
  SeqGiveQ n Try.prog 104 #[.pointer (some ⟨B1, 0, none⟩), .pointer (some ⟨B2, 0, none⟩)] sStep Q (stepsL d.1 d.2 t) w := fun l J Jx W hW hJ hJx hY h0 => by
 replace r1 := r1.next hW
 replace r2 := r2.next hW
 replace h := qw_keep h (KB.of_below hW)
 replace ht := qw_keep ht (KB.of_below hW)
 have hQW : ∀ k, Q k → k < W.heap.size := fun k hk => Nat.lt_of_lt_of_le (hQw k hk) hW.size
 obtain ⟨A, m0, cs, V, q, cv, rfl, rfl, -, -, -, hq, -, hq1, -, -, -⟩ := rd_sys (qw_rd h) hz
 obtain ⟨T, m, c, rfl, hT, hcT⟩ := rd_ints.1 (qw_rd ht)
 have K10 : (W.alloc (.cells #[.func (.yield l) #[] #[]] 149)).cell? ⟨B1, 0, none⟩ = some (.slice A m0 cs) := (r1.alloc _).cell 0
 have K11 : (W.alloc (.cells #[.func (.yield l) #[] #[]] 149)).cell? ⟨B1, 1, none⟩ = some (.slice V q cv) := (r1.alloc _).cell 1
 have K20 : (W.alloc (.cells #[.func (.yield l) #[] #[]] 149)).cell? ⟨B2, 0, none⟩ = some (.slice T m c) := (r2.alloc _).cell 0
 have HH := hid (show RdQ W (QW Q W) sSystem [.slice A m0 cs, .slice V q cv] d ∧ RdQ W (QW Q W) sI [.slice T m c] t from ⟨h, ht⟩)
 have HK := hid (show Row W B1 65 #[.slice A m0 cs, .slice V q cv] ∧ Row W B2 22 #[.slice T m c] from ⟨r1, r2⟩)
 have HOK := hid hok
 have HY := hid hY
 have HJ := hid hJ
 have HJX := hid hJx
 have H0 := hid h0
 clear hT hcT h ht hok hq hW r1 r2 hY hJ hJx h0
 refine callsIn_of_wp_marks Try.func104 rfl trivial ?_ rfl
 simp only [Try.ntmps104, List.size_toArray, List.length_cons, List.length_nil, Nat.reduceAdd, Nat.reduceSub, Array.replicate_succ, Array.replicate_zero, List.push_toArray, List.append_toArray, List.nil_append, List.cons_append]
 gi_wp2_with (refine ⟨trivial, (fun h => (by cases h)), ?_⟩; gi_at_call 105; refine (callsIn_wide.2 (redexesFn (.slice A m0 cs) (.slice V q cv) T m c _)).mono ?_; rintro e w3 ⟨rfl, hw3⟩; subst hw3)
 obtain ⟨W3, hW3⟩ : ∃ W3, W3 = ((W.alloc (.cells #[.func (.yield l) #[] #[]] 149)).alloc (.cells #[.slice A m0 cs, .slice V q cv] 65)).alloc (.cells #[.slice T m c] 22) := ⟨_, rfl⟩
 rw [← hW3]
 have b3 : Below W.heap.size W W3 := by rw [hW3]; exact (((Below.refl _ W).alloc (Nat.le_refl _) _).alloc (by simp) _).alloc (by simp; omega) _
 have z3 : W.heap.size + 3 ≤ W3.heap.size := by rw [hW3]; simp
 have rY : Row W3 W.heap.size 149 #[.func (.yield l) #[] #[]] := by rw [hW3]; exact ((Row.new W _ _).alloc _).alloc _
 have rS : Row W3 (W.heap.size + 1) 65 #[.slice A m0 cs, .slice V q cv] := by
  rw [hW3]
  have := (Row.new (W.alloc (.cells #[.func (.yield l) #[] #[]] 149)) 65 #[.slice A m0 cs, .slice V q cv]).alloc (.cells #[.slice T m c] 22)
  simpa using this
 have rT : Row W3 (W.heap.size + 1 + 1) 22 #[.slice T m c] := by
  rw [hW3]
  have := Row.new ((W.alloc (.cells #[.func (.yield l) #[] #[]] 149)).alloc (.cells #[.slice A m0 cs, .slice V q cv] 65)) 22 #[.slice T m c]
  simpa using this
 clear hW3 K10 K11 K20
 have HPRE := redexes_stopsQ (n - 1) (by omega) (W.heap.size + 1) (W.heap.size + 1 + 1) (fun b => Q b ∨ b = W.heap.size + 1 ∨ b = W.heap.size + 1 + 1) (.slice A m0 cs) (.slice V q cv) (.slice T m c) d t W3 (.inr (.inl rfl)) (.inr (.inr rfl)) rS rT (qw_more (qw_keep HH.out.1 (KB.of_below b3)) fun b hb => .inl hb) (qw_more (qw_keep HH.out.2 (KB.of_below b3)) fun b hb => .inl hb) hz HOK.out
 refine rangePreX (gf := 122) (lb := #[.pointer (some ⟨W.heap.size + 1 + 1, 0, none⟩), .pointer (some ⟨W.heap.size + 1, 0, none⟩)]) rfl (enters_of Try.func122 (by kernel_rfl) rfl) HPRE (Below.refl _ _) (fun _ => rfl) KB.trans
  (fun X o o' ho => KB.turn (by rintro (q | q | q); (have := hQW _ q; omega); omega; omega) ho)
  (fun pre X => J W3.heap.size (stepsOf d.1 d.2 t pre) X ∧ KpsQ Q W.heap.size W3.heap.size W3 X)
  (fun pre X => Jx W3.heap.size (stepsOf d.1 d.2 t pre) X ∧ stepsOf d.1 d.2 t pre ≠ [])
  (OwnFrom.and (fun s X Y row hs hg hr => HJ.out _ _ X Y row hs hg (fun r e => ⟨by have := (hr r e).1; omega, (hr r e).2⟩)) (ownFrom_kpsQ (fun k hk => by have := hQW k hk; omega)))
  (OwnFrom.and (fun s X Y row hs hg hr => HJX.out _ _ X Y row hs hg (fun r e => ⟨by have := (hr r e).1; omega, (hr r e).2⟩)) (ownFrom_pure _ _))
  ⟨HJ.out _ _ W W3 none (H0.out _) (cursor.grown_below b3 none) (fun r e => by cases e), KpsQ.refl _ _ _ _⟩
  (fun x => { tmps := #[.func (.yield l) #[] #[], .pointer (some ⟨B1, 0, none⟩), .pointer (some ⟨B2, 0, none⟩), .pointer (some ⟨W.heap.size, 0, none⟩), .int .i64 (x.1 : Int), .int .i64 (x.2 : Int), undef, undef, .agg #[.slice A m0 cs, .slice V q cv], .slice T m c, .func (.func 122) #[] #[.pointer (some ⟨W.heap.size + 1 + 1, 0, none⟩), .pointer (some ⟨W.heap.size + 1, 0, none⟩)], .int .i64 (x.1 : Int), .int .i64 (x.2 : Int), undef, undef, undef, undef, undef, undef, undef, undef, undef, undef, undef, undef, undef, undef, undef, undef, undef, undef], defers := [] }) ?assign ?body ?done ?stop
 case assign =>
  intro li x X K hK
  gi_wp2
  first | exact hK | simpa using hK
 case body =>
  rintro li pre ⟨x, k⟩ X ⟨hj, hkp⟩ hX hpre
  obtain ⟨hx, hkr, hred⟩ := red_in hpre
  have b0 : KB Q W X := (KB.of_below b3).trans hkp.1
  have q1 := b0.row hQ1 HK.out.1
  have q2 := b0.row hQ2 HK.out.2
  have qY : Row X W.heap.size 149 #[.func (.yield l) #[] #[]] := (hkp.2.2 _ (Nat.le_refl _) (by omega)).trans rY
  have K10 : X.cell? ⟨B1, 0, none⟩ = some (.slice A m0 cs) := q1.cell 0
  have K11 : X.cell? ⟨B1, 1, none⟩ = some (.slice V q cv) := q1.cell 1
  have K20 : X.cell? ⟨B2, 0, none⟩ = some (.slice T m c) := q2.cell 0
  have LR := reduced (.slice A m0 cs) (.slice V q cv) (.slice T m c) d t x k X (qw_rd (qw_keep HH.out.1 b0)) (qw_rd (qw_keep HH.out.2 b0)) hz HOK.out hx hkr hred
  have HPR := hid hpre
  have hzY := qY.lt
  clear q1 q2 hpre b0 HPRE hred
  cases hs : stepO d.1 (d.2.getD k ([], [])) t x with
  | none =>
   have L2 := hid (LR.mono (R' := fun e w' => ∃ U un uc, e = .returned (.tuple #[.slice U un uc, .bool false]) ∧ Below X.heap.size X w') (by rintro e w' ⟨U, un, uc, he, _, hb⟩; rw [hs] at he; exact ⟨U, un, uc, he, hb⟩))
   clear LR
   gi_wp2_with (refine ⟨trivial, (fun h => (by cases h)), ?_⟩; gi_at_call 101; refine (CallsIn.inRound li (callsIn_wide.2 L2.out)).mono ?_; rintro e V2 ⟨U, un, uc, rfl, bb⟩; refine (?_ : Hid _).out)
   have kb : KpsQ Q W.heap.size W3.heap.size X V2 := KpsQ.of_below bb (by omega)
   have F := hid (show J W3.heap.size (stepsOf d.1 d.2 t (pre ++ [(x, k)])) V2 from by rw [stepsOf_no hs]; exact HJ.out _ _ X V2 none hj (cursor.grown_below bb none) (fun r e => by cases e))
   clear bb hj K10 K11 K20 L2
   refine hid ?_
   gi_wp2
   refine ⟨fun _ h => (by cases h), ?_⟩
   gi_wp2
   exact ⟨(kb.mono (by omega)).2.1, kb_two kb (by omega) (by omega) (by omega), F.out, hkp.trans kb⟩
  | some v =>
   have L2 := hid (LR.mono (R' := fun e w' => ∃ U un uc, e = .returned (.tuple #[.slice U un uc, .bool true]) ∧ marks.Own w' X.heap.size (.slice U un uc) v ∧ Below X.heap.size X w') (by rintro e w' ⟨U, un, uc, he, ho, hb⟩; rw [hs] at he ho; exact ⟨U, un, uc, he, ho, hb⟩))
   clear LR
   gi_wp2_with (refine ⟨trivial, (fun h => (by cases h)), ?_⟩; gi_at_call 101; refine (CallsIn.inRound li (callsIn_wide.2 L2.out)).mono ?_; rintro e V2 ⟨U, un, uc, rfl, oU, bb⟩; refine (?_ : Hid _).out)
   have kb : KpsQ Q W.heap.size W3.heap.size X V2 := KpsQ.of_below bb (by omega)
   have KY : V2.cell? ⟨W.heap.size, 0, none⟩ = some (.func (.yield l) #[] #[]) := (qY.next bb).cell 0
   obtain ⟨fn, tm, asg, bd, hy, hR⟩ := HY.out W3.heap.size (stepsOf d.1 d.2 t pre) ((x : Int), (k : Int), v) X V2 [.int .i64 (x : Int), .int .i64 (k : Int), .slice U un uc] (by omega) (by omega) hj bb (owned_step oU _ _) (by rw [← stepsOf_yes hs]; exact pre_steps HPR.out)
   clear bb hj K10 K11 K20 L2 oU qY
   refine hid ?_
   gi_wp2
   refine ⟨fun h => (by cases h), (roundIn_any hR).mono ?_⟩
   rintro e V3 (⟨rfl, hj3, hk3⟩ | ⟨rfl, hj3, hk3⟩)
   ·have F := hid (show J W3.heap.size (stepsOf d.1 d.2 t (pre ++ [(x, k)])) V3 from by rw [stepsOf_yes hs]; exact hj3)
    have kb2 := kb.trans hk3
    clear hj3 hk3 kb KY hy hR
    gi_wp2
    exact ⟨(kb2.mono (by omega)).2.1, kb_two kb2 (by omega) (by omega) (by omega), F.out, hkp.trans kb2⟩
   ·have F := hid (show Jx W3.heap.size (stepsOf d.1 d.2 t (pre ++ [(x, k)])) V3 ∧ stepsOf d.1 d.2 t (pre ++ [(x, k)]) ≠ [] from by rw [stepsOf_yes hs]; exact ⟨hj3, by simp⟩)
    have kb2 : KeepsFrom W3.heap.size X V3 := (kb.mono (by omega)).2.1.trans ⟨hk3.size, fun k o hk => hk3.same k o (by omega)⟩
    clear hj3 hk3 kb KY hy hR
    gi_wp2
    first | exact F.out | exact ⟨kb2, F.out⟩
 case done =>
  rintro D X hD ⟨hj, hk⟩ hd
  rw [stepsOf_all] at hj
  have hj2 := (HJ.out W3.heap.size).putObj (.deferred none) hj (by omega) hd rfl
  gi_wp2
  refine ⟨by simp, .inl ⟨_, _, rfl, run_takeDeferred hd, ?_⟩⟩
  exact ⟨_, results_none rfl _ _ _, ⟨_, rfl⟩, .inl ⟨W3.heap.size, by omega, hj2⟩⟩
 case stop =>
  rintro D pre X hD hne hpre ⟨hj, hn⟩ hd
  have hj2 := (HJX.out W3.heap.size).putObj (.deferred none) hj (by omega) hd rfl
  gi_wp2
  refine ⟨by simp, .inl ⟨_, _, rfl, run_takeDeferred hd, ?_⟩⟩
  exact ⟨_, results_none rfl _ _ _, ⟨_, rfl⟩, .inr ⟨W3.heap.size, _, by omega, hn, pre_steps hpre, hj2⟩⟩
end iter
end
section
namespace iter
open Go.RowKit Go.Shelf base ints sig term termOk endAt endOf marks app sym sub segs segsHelp shifted termFacts shape kindsR kindsW ruleMath ruleSpec ruleImpl stepMath walkMath stepSpec stepImpl rangeGive ownL
set_option maxRecDepth 100000
theorem stepsFn (a v : Value) (T : Option Addr) (m c : Nat) (w : World) : Calls Try.prog 81 #[.agg #[a, v], .slice T m c] w fun e w' => e = .returned (.func (.func 104) #[] #[.pointer (some ⟨w.heap.size, 0, none⟩), .pointer (some ⟨w.heap.size + 1, 0, none⟩)]) ∧ w' = (w.alloc (.cells #[a, v] 65)).alloc (.cells #[.slice T m c] 22) := by
 have hmf : ∀ (fn : Fn) (first cap : Array Value) (w : World), (Instr.makeFunc fn first cap).run Try.prog w = .ok (.func fn first cap) w := fun _ _ _ _ => rfl
 go_enter Try.func81, Try.ntmps81
 go_wp2
 go_ret
 exact ⟨rfl, rfl⟩
end iter
end
section
namespace iter
open Go.RowKit Go.Shelf base ints sig term termOk endAt endOf marks app sym sub segs segsHelp shifted termFacts shape kindsR kindsW ruleMath ruleSpec ruleImpl stepMath walkMath stepSpec stepImpl rangeGive ownL reachMath findW findSpec known reachImpl
set_option maxRecDepth 100000
attribute [local go_sem] Oper.semAt_some
structure Ro (w : World) (a v : Value) (S : Fs) (O : Option Addr) (on oc cnt : Nat) (W : World) : Prop where
 sys : Row W w.heap.size 65 #[a, v]
 res : Row W (w.heap.size + 1) 89 #[.slice none 0 0, .map none, .bool false]
 rf : Rf (w.heap.size + 1 + 1 + 1 + 1) W.heap.size (w.heap.size + 1 + 1 + 1) (w.heap.size + 1 + 1) cnt S O on oc W
 bel : Below w.heap.size w W
def AnsReach (w : World) (S : Fs) (e : Ending) (W : World) : Prop := ∃ (O : Option Addr) (on oc mb cnt : Nat), e = .returned (.agg #[.slice O on oc, .map (some mb), .bool S.2]) ∧ OwnL W w.heap.size W.heap.size 94 sFind O on oc (S.1.map fdat) ∧ Kn W mb cnt (termsF S.1) ∧ w.heap.size ≤ mb ∧ Below w.heap.size w W
section
variable {w X Y : World} {a v : Value} {S : Fs} {O : Option Addr} {on oc cnt : Nat}
theorem Ro.below (h : Ro w a v S O on oc cnt X) (hb : Below X.heap.size X Y) : Ro w a v S O on oc cnt Y := ⟨h.sys.next hb, h.res.next hb, ⟨h.rf.row.next hb, (h.rf.ow.next hb).wider (Nat.le_refl _) hb.size, h.rf.kn.below hb⟩, next_trans h.bel hb⟩
theorem Ro.sz (h : Ro w a v S O on oc cnt X) : w.heap.size + 1 + 1 + 1 < X.heap.size := h.rf.row.lt
theorem Ro.cells (h : Ro w a v S O on oc cnt X) : ∀ k, blk O = some k → w.heap.size + 1 + 1 + 1 + 1 ≤ k ∧ k < X.heap.size ∧ ∃ cs, Row X k 94 cs := fun k hk => by
 obtain ⟨cs, hr⟩ := ownL_cells h.rf.ow hk
 exact ⟨(h.rf.ow.ge k hk).1, (h.rf.ow.ge k hk).2, _, hr⟩
theorem ro_own (β : Type) (w : World) (a v : Value) (S : Fs) (O : Option Addr) (on oc cnt : Nat) {B : Nat} (hB : w.heap.size + 1 + 1 < B) : OwnFrom B (fun (_ : β) W => Ro w a v S O on oc cnt W) := fun s X Y row hs hg hr => by
 have hr' : ∀ r, row = some r → ∃ o : Obj, X.heap[r]? = some o ∧ o.isCells = false := fun r e => (hr r e).2
 exact ⟨(row_turn hg hr' hs.sys).trans hs.sys, (row_turn hg hr' hs.res).trans hs.res, ⟨(row_turn hg hr' hs.rf.row).trans hs.rf.row, (ownL_turn hs.rf.ow hg hr').wider (Nat.le_refl _) hg.size, hs.rf.kn.kept hg (fun e => by have := (hr _ e.symm).1; omega)⟩, hs.bel.grown hg hs.bel.size (fun k e => by have := (hr k e).1; omega)⟩
theorem Ro.add {S' : Fs} {ln : Nat} {e : Ending} (h : Ro w a v S O on oc cnt X) (hA : AnsAdd (w.heap.size + 1 + 1 + 1 + 1) (w.heap.size + 1 + 1 + 1) (w.heap.size + 1 + 1) cnt ln S' O X e Y) : ∃ O' on' oc' cnt', Ro w a v S' O' on' oc' cnt' Y ∧ (S'.2 = true → cnt' + ln ≤ cnt + S'.1.length) ∧ Tcr (w.heap.size + 1 + 1 + 1) (w.heap.size + 1 + 1) O X Y ∧ ∀ k, blk O' = some k → blk O = some k ∨ X.heap.size ≤ k := by
 obtain ⟨-, O', on', oc', cnt', hR, ⟨-, h2⟩, hT, hO⟩ := hA
 have nO : ∀ k, k ≤ w.heap.size + 1 → some k ≠ blk O := fun k hk e => by have := (h.cells k e.symm).1; omega
 exact ⟨O', on', oc', cnt', ⟨hT.row h.sys (by omega) (by omega) (nO _ (by omega)), hT.row h.res (by omega) (by omega) (nO _ (by omega)), hR, h.bel.trans ⟨hT.os, hT.tape, hT.output, hT.size, fun k hk => hT.block k (Nat.lt_of_lt_of_le hk h.bel.size) (by omega) (by omega) (nO _ (by omega))⟩⟩, h2, hT, hO⟩
end
theorem ro_start (w : World) (a v : Value) : Ro w a v ([], true) none 0 0 0 ((((w.alloc (.cells #[a, v] 65)).alloc (.cells #[.slice none 0 0, .map none, .bool false] 89)).alloc (.map #[] 0)).alloc (.cells #[.slice none 0 0, .map (some (w.heap.size + 1 + 1)), .bool true] 89)) := by
 obtain ⟨V1, e1⟩ : ∃ V, V = w.alloc (.cells #[a, v] 65) := ⟨_, rfl⟩
 obtain ⟨V2, e2⟩ : ∃ V, V = V1.alloc (.cells #[.slice none 0 0, .map none, .bool false] 89) := ⟨_, rfl⟩
 obtain ⟨V3, e3⟩ : ∃ V, V = V2.alloc (.map #[] 0) := ⟨_, rfl⟩
 obtain ⟨V4, e4⟩ : ∃ V, V = V3.alloc (.cells #[.slice none 0 0, .map (some (w.heap.size + 1 + 1)), .bool true] 89) := ⟨_, rfl⟩
 rw [← e1, ← e2, ← e3, ← e4]
 have s1 : V1.heap.size = w.heap.size + 1 := by rw [e1]; simp
 have s2 : V2.heap.size = w.heap.size + 1 + 1 := by rw [e2]; simp [s1]
 have s3 : V3.heap.size = w.heap.size + 1 + 1 + 1 := by rw [e3]; simp [s2]
 have s4 : V4.heap.size = w.heap.size + 1 + 1 + 1 + 1 := by rw [e4]; simp [s3]
 have r1 : Row V1 w.heap.size 65 #[a, v] := by rw [e1]; exact Row.new _ _ _
 have r2 : Row V2 (w.heap.size + 1) 89 #[.slice none 0 0, .map none, .bool false] := by rw [e2, ← s1]; exact Row.new _ _ _
 have r4 : Row V4 (w.heap.size + 1 + 1 + 1) 89 #[.slice none 0 0, .map (some (w.heap.size + 1 + 1)), .bool true] := by rw [e4, ← s3]; exact Row.new _ _ _
 have k3 : Kn V3 (w.heap.size + 1 + 1) 0 [] := by rw [e3, ← s2]; exact kn_made _
 have b1 : Below w.heap.size w V1 := by rw [e1]; exact (Below.refl _ _).alloc (Nat.le_refl _) _
 have b2 : Below V1.heap.size V1 V2 := by rw [e2]; exact (Below.refl _ _).alloc (Nat.le_refl _) _
 have b3 : Below V2.heap.size V2 V3 := by rw [e3]; exact (Below.refl _ _).alloc (Nat.le_refl _) _
 have b4 : Below V3.heap.size V3 V4 := by rw [e4]; exact (Below.refl _ _).alloc (Nat.le_refl _) _
 exact ⟨((r1.next b2).next b3).next b4, (r2.next b3).next b4, ⟨r4, OwnL.nil _ _ _ _ _, k3.below b4⟩, next_trans b1 (next_trans b2 (next_trans b3 b4))⟩
theorem dok_tcr {rb mb B : Nat} {O : Option Addr} {X Y : World} {Ds : List Nat} (h : Dok B Ds X) (ht : Tcr rb mb O X Y) (h1 : rb < B) (h2 : mb < B) (hO : ∀ k, blk O = some k → ∃ o : Obj, X.heap[k]? = some o ∧ o.isCells = true) : Dok B Ds Y :=
 ⟨h.1, fun D hD => ⟨(h.2 D hD).1, (ht.block D (Array.getElem?_eq_some_iff.1 (h.2 D hD).2).1 (by have := (h.2 D hD).1; omega) (by have := (h.2 D hD).1; omega) (fun e => by
  obtain ⟨o, ho, hc⟩ := hO D e.symm
  rw [(h.2 D hD).2] at ho
  injection ho with ho
  rw [← ho] at hc
  cases hc)).trans (h.2 D hD).2⟩⟩
def boxInt (W : World) (x : Value) : Nat := match x with
 | .pointer (some p) => (intOf ((W.cell? p).getD undef)).toNat
 | _ => 0
def outZ (w : World) (O : Option Addr) (on oc : Nat) (b : Bool) (X : World) : World := ((X.setCell ⟨w.heap.size + 1, 0, none⟩ (.slice O on oc)).setCell ⟨w.heap.size + 1, 1, none⟩ (.map (some (w.heap.size + 1 + 1)))).setCell ⟨w.heap.size + 1, 2, none⟩ (.bool b)
def Out (w : World) (S : Fs) (O : Option Addr) (on oc cnt : Nat) (W : World) : Prop := Row W (w.heap.size + 1) 89 #[.slice O on oc, .map (some (w.heap.size + 1 + 1)), .bool S.2] ∧ OwnL W (w.heap.size + 1 + 1 + 1 + 1) W.heap.size 94 sFind O on oc (S.1.map fdat) ∧ Kn W (w.heap.size + 1 + 1) cnt (termsF S.1) ∧ Below w.heap.size w W
theorem out_cells {w X : World} {a v : Value} {S : Fs} {O : Option Addr} {on oc cnt : Nat} (h : Ro w a v S O on oc cnt X) (x y : Value) : X.cell? ⟨w.heap.size + 1, 0, none⟩ = some (.slice none 0 0) ∧ X.frozen? ⟨w.heap.size + 1, 0, none⟩ = false ∧
  (X.setCell ⟨w.heap.size + 1, 0, none⟩ x).cell? ⟨w.heap.size + 1, 1, none⟩ = some (.map none) ∧ (X.setCell ⟨w.heap.size + 1, 0, none⟩ x).frozen? ⟨w.heap.size + 1, 1, none⟩ = false ∧
  ((X.setCell ⟨w.heap.size + 1, 0, none⟩ x).setCell ⟨w.heap.size + 1, 1, none⟩ y).cell? ⟨w.heap.size + 1, 2, none⟩ = some (.bool false) ∧ ((X.setCell ⟨w.heap.size + 1, 0, none⟩ x).setCell ⟨w.heap.size + 1, 1, none⟩ y).frozen? ⟨w.heap.size + 1, 2, none⟩ = false := by
 have r0 := h.res
 have r1 := Row.put r0 0 x
 have r2 := Row.put r1 1 y
 exact ⟨r0.cell 0, r0.free 0, r1.cell 1, r1.free 1, r2.cell 2, r2.free 2⟩
theorem out_at {w X : World} {a v : Value} {S : Fs} {O : Option Addr} {on oc cnt B : Nat} {Ds : List Nat} (h : Ro w a v S O on oc cnt X) (hD : Dok B Ds X) (hB : w.heap.size + 1 < B) : Out w S O on oc cnt (outZ w O on oc S.2 X) ∧ Dok B Ds (outZ w O on oc S.2 X) ∧ ∀ m, w.heap.size + 1 < m → KeepsFrom m X (outZ w O on oc S.2 X) := by
 have r1 := Row.put h.res 0 (.slice O on oc)
 have r2 := Row.put r1 1 (.map (some (w.heap.size + 1 + 1)))
 have r3 := Row.put r2 2 (.bool S.2)
 have hb : ∀ k, k ≠ w.heap.size + 1 → (outZ w O on oc S.2 X).heap[k]? = X.heap[k]? := fun k hk => ((Below.heap_setCell _ _ _ k hk).trans (Below.heap_setCell _ _ _ k hk)).trans (Below.heap_setCell _ _ _ k hk)
 have hs : (outZ w O on oc S.2 X).heap.size = X.heap.size := by unfold outZ; simp
 have g1 := grown_set X (w.heap.size + 1) 0 (.slice O on oc)
 have g2 := grown_set (X.setCell ⟨w.heap.size + 1, 0, none⟩ (.slice O on oc)) (w.heap.size + 1) 1 (.map (some (w.heap.size + 1 + 1)))
 have g3 := grown_set ((X.setCell ⟨w.heap.size + 1, 0, none⟩ (.slice O on oc)).setCell ⟨w.heap.size + 1, 1, none⟩ (.map (some (w.heap.size + 1 + 1)))) (w.heap.size + 1) 2 (.bool S.2)
 refine ⟨⟨r3, (h.rf.ow.keep (fun k h1 _ _ => hb k (by omega)) (by omega)).wider (Nat.le_refl _) (by omega), ((h.rf.kn.kept g1 (fun e => by injection e with e; omega)).kept g2 (fun e => by injection e with e; omega)).kept g3 (fun e => by injection e with e; omega), ((h.bel.setCell (by show _ ≤ w.heap.size + 1; omega) _).setCell (by show _ ≤ w.heap.size + 1; omega) _).setCell (by show _ ≤ w.heap.size + 1; omega) _⟩, ⟨hD.1, fun D hm => ⟨(hD.2 D hm).1, ?_⟩⟩, fun m hm => ⟨by omega, fun k o hk ho _ => ?_⟩⟩
 ·have := (hD.2 D hm).1
  rw [hb D (by omega)]
  exact (hD.2 D hm).2
 ·rw [hb k (by omega)]; exact ho
theorem out_own (w : World) (S : Fs) (O : Option Addr) (on oc cnt : Nat) {B : Nat} (hB : w.heap.size + 1 + 1 < B) : OwnFrom B (fun (_ : Unit) W => Out w S O on oc cnt W) := fun _ X Y row hs hg hr => ⟨(row_turn hg (fun r e => (hr r e).2) hs.1).trans hs.1, (ownL_turn hs.2.1 hg (fun r e => (hr r e).2)).wider (Nat.le_refl _) hg.size, hs.2.2.1.kept hg (fun e => by have := (hr _ e.symm).1; omega), hs.2.2.2.grown hg hs.2.2.2.size (fun k e => by have := (hr k e).1; omega)⟩
theorem out_ans {w W : World} {S : Fs} {O : Option Addr} {on oc cnt : Nat} (h : Out w S O on oc cnt W) : AnsReach w S (.returned (.agg #[.slice O on oc, .map (some (w.heap.size + 1 + 1)), .bool S.2])) W := ⟨O, on, oc, _, cnt, rfl, h.2.1.wider (by omega) (Nat.le_refl _), h.2.2.1, by omega, h.2.2.2⟩
theorem boxInt_at {W : World} {p : Addr} {x : Nat} (h : W.cell? p = some (.int .i64 (x : Int))) : boxInt W (.pointer (some p)) = x := by
 show (intOf ((W.cell? p).getD undef)).toNat = x
 rw [h]
 simp [intOf]
def Sp (i dd : Nat) (S0 : Fs) (pre : List St) : Fs := pre.foldl (addF i dd) S0
theorem sp_snoc {i dd : Nat} {S0 : Fs} {pre : List St} {y : St} : Sp i dd S0 (pre ++ [y]) = addF i dd (Sp i dd S0 pre) y := by unfold Sp; rw [List.foldl_append]; rfl
theorem sp_full {sg : List Int} {rs : List Rl} {t : List Int} {n i : Nat} {f : Fi} {pre : List St} (hi : i + 1 ≤ 60) (hf : (fdN sg rs t n i).1[i]? = some f) (hn : f.2.2 ≠ n) (hp : pre <+: stepsL sg rs (termF f)) (h : (Sp i (f.2.2 + 1) (fdN sg rs t n i) pre).2 = false) : fdA sg rs t n = Sp i (f.2.2 + 1) (fdN sg rs t n i) pre := by
 have e : fdN sg rs t n (i + 1) = Sp i (f.2.2 + 1) (fdN sg rs t n i) pre := by
  rw [fd_step hf hn]
  obtain ⟨r, hr⟩ := hp
  rw [← hr, List.foldl_append]
  exact fold_off h
 rw [← e]
 exact fd_end hi (.inr (.inl (by rw [e]; exact h)))
theorem sp_len {sg : List Int} {rs : List Rl} {t : List Int} {n i : Nat} {f : Fi} {pre : List St} {S0 : Fs} (h : Inv sg rs t n S0 i) (hf : S0.1[i]? = some f) (hn : f.2.2 ≠ n) (hp : pre <+: stepsL sg rs (termF f)) : (Sp i (f.2.2 + 1) S0 pre).1.length ≤ 60 := (inv_fold hn pre S0 h hf (fun x hx => hp.subset hx)).1.len60
theorem ir_add {w W W2 : World} {a v : Value} {S S' : Fs} {O : Option Addr} {on oc cnt m q : Nat} {Q : Nat → Prop} {Ds : List Nat} {e : Ending} (R : Ro w a v S O on oc cnt W) (hA : AnsAdd (w.heap.size + 1 + 1 + 1 + 1) (w.heap.size + 1 + 1 + 1) (w.heap.size + 1 + 1) cnt S.1.length S' O W e W2) (hc : cnt ≤ S.1.length)
  (hO : ∀ k, blk O = some k → ¬ Q k ∧ (k < m ∨ q ≤ k)) (hQ : ∀ k, Q k → k < m) (hq1 : ¬ Q (w.heap.size + 1 + 1 + 1)) (hq2 : ¬ Q (w.heap.size + 1 + 1)) (hm : w.heap.size + 1 + 1 + 1 < m) (hmW : m ≤ W.heap.size) (hqW : q ≤ W.heap.size) (D : Dok (w.heap.size + 1 + 1 + 1 + 1) Ds W) :
  ∃ O' on' oc' cnt', Ro w a v S' O' on' oc' cnt' W2 ∧ (S'.2 = true → cnt' ≤ S'.1.length) ∧ KpsQ Q m q W W2 ∧ (∀ k, blk O' = some k → ¬ Q k ∧ (k < m ∨ q ≤ k)) ∧ Dok (w.heap.size + 1 + 1 + 1 + 1) Ds W2 := by
 obtain ⟨O', on', oc', cnt', R', h2, hT, hO'⟩ := R.add hA
 have hcl : ∀ k, blk O = some k → ∃ o : Obj, W.heap[k]? = some o ∧ o.isCells = true := fun k hk => by
  obtain ⟨-, -, cs, hr⟩ := R.cells k hk
  exact ⟨_, hr, rfl⟩
 refine ⟨O', on', oc', cnt', R', fun h => by have := h2 h; omega, ⟨⟨hT.os, hT.tape, hT.output, hT.size, fun k hk hl => hT.block k hl (fun e => hq1 (e ▸ hk)) (fun e => hq2 (e ▸ hk)) (fun e => (hO k e.symm).1 hk)⟩, ⟨hT.size, fun k o hk ho hcf => ?_⟩, fun k h1 h3 => hT.block k (by omega) (by omega) (by omega) (fun e => by have := (hO k e.symm).2; omega)⟩, fun k hk => ?_, dok_tcr D hT (by omega) (by omega) hcl⟩
 ·rw [hT.block k (Array.getElem?_eq_some_iff.1 ho).1 (by omega) (by omega) (fun e => by
   obtain ⟨o', ho', hc'⟩ := hcl k e.symm
   rw [ho] at ho'
   injection ho' with ho'
   rw [← ho', hcf] at hc'
   cases hc')]
  exact ho
 ·rcases hO' k hk with h | h
  ·exact hO k h
  ·exact ⟨fun hk2 => by have := hQ k hk2; omega, .inr (by omega)⟩
def Ir (w : World) (a v : Value) (S0 : Fs) (i dd lb ib : Nat) (last : Array Value) (Q : Nat → Prop) (m : Nat) (Ds : List Nat) (q : Nat) (pre : List St) (X : World) : Prop :=
 ∃ (O : Option Addr) (on oc cnt : Nat), Ro w a v (Sp i dd S0 pre) O on oc cnt X ∧ (Sp i dd S0 pre).2 = true ∧ cnt ≤ (Sp i dd S0 pre).1.length ∧ Row X lb 94 last ∧ Row X ib 3 #[.int .i64 (i : Int)] ∧ Dok (w.heap.size + 1 + 1 + 1 + 1) Ds X ∧ ∀ k, blk O = some k → ¬ Q k ∧ (k < m ∨ q ≤ k)
def Ixr (w : World) (S0 S : Fs) (i dd : Nat) (Ds : List Nat) (pre : List St) (X : World) : Prop := ∃ (O : Option Addr) (on oc cnt : Nat), S = Sp i dd S0 pre ∧ Out w S O on oc cnt X ∧ Dok (w.heap.size + 1 + 1 + 1 + 1) Ds X
theorem ir_own {w V : World} {a v : Value} {S0 : Fs} {i dd lb ib m : Nat} {last : Array Value} {Q : Nat → Prop} {Ds : List Nat} (h0 : Dok (w.heap.size + 1 + 1 + 1 + 1) Ds V) (hm : w.heap.size + 1 + 1 < V.heap.size) (q : Nat) : OwnFrom V.heap.size (Ir w a v S0 i dd lb ib last Q m Ds q) := fun pre X Y row hs hg hr => by
 obtain ⟨O, on, oc, cnt, h1, h2, h3, h4, h5, h6, h7⟩ := hs
 have hr' : ∀ r, row = some r → ∃ o : Obj, X.heap[r]? = some o ∧ o.isCells = false := fun r e => (hr r e).2
 exact ⟨O, on, oc, cnt, ro_own Unit w a v _ O on oc cnt hm () X Y row h1 hg hr, h2, h3, (row_turn hg hr' h4).trans h4, (row_turn hg hr' h5).trans h5, ownFrom_dok (β := Unit) h0 (Nat.le_refl _) () X Y row h6 hg hr, h7⟩
theorem ixr_own {w V : World} {S0 S : Fs} {i dd : Nat} {Ds : List Nat} (h0 : Dok (w.heap.size + 1 + 1 + 1 + 1) Ds V) (hm : w.heap.size + 1 + 1 < V.heap.size) : OwnFrom V.heap.size (Ixr w S0 S i dd Ds) := fun pre X Y row hs hg hr => by
 obtain ⟨O, on, oc, cnt, h1, h2, h3⟩ := hs
 exact ⟨O, on, oc, cnt, h1, out_own w S O on oc cnt hm () X Y row h2 hg hr, ownFrom_dok (β := Unit) h0 (Nat.le_refl _) () X Y row h3 hg hr⟩
end iter
end
section
open Go.Lib (hid)
namespace iter
open Go.RowKit Go.Shelf base ints sig term termOk endAt endOf marks app sym sub segs segsHelp shifted termFacts shape kindsR kindsW ruleMath ruleSpec ruleImpl stepMath walkMath stepSpec stepImpl rangeGive ownL reachMath findW findSpec known reachImpl drawX
set_option maxRecDepth 100000
attribute [local go_sem] Oper.semAt_some
set_option maxHeartbeats 900000 in
theorem implReachOf (a v : Value) (b off m c : Nat) (d : Dat sSystem) (t : List Int) (n : Nat) (w : World) (h : Rd w w.heap.size sSystem [a, v] d) (hT : Seg w w.heap.size (some ⟨b, off, none⟩) m t) (hz : sz sSystem d ≤ 1048576) (hok : rightB d.1 d.2 t = true) (hn : n ≤ 60) :
  Calls Try.prog 54 #[.agg #[a, v], .slice (some ⟨b, off, none⟩) m c, .int .i64 (n : Int)] w (AnsReach w (fdA d.1 d.2 t n)) := by
 refine (callsIn_wide (n := 6)).1 ?_
 obtain ⟨S, hS⟩ : ∃ S, fdA d.1 d.2 t n = S := ⟨_, rfl⟩
 rw [hS]
 refine callsIn_of_wp_marks Try.func54 rfl trivial ?_ rfl
 simp only [Try.ntmps54, List.size_toArray, List.length_cons, List.length_nil, Nat.reduceAdd, Nat.reduceSub, Array.replicate_succ, Array.replicate_zero, List.push_toArray, List.append_toArray, List.nil_append, List.cons_append]
 have hmm := @run_makeMap Try.prog
 have HS := hid (show fdA d.1 d.2 t n = S ∧ rightB d.1 d.2 t = true from ⟨hS, hok⟩)
 have HH := hid (show Rd w w.heap.size sSystem [a, v] d ∧ sz sSystem d ≤ 1048576 from ⟨h, hz⟩)
 have hsmall : Small t := by
  have h2 := hok
  unfold rightB at h2
  rw [Bool.and_eq_true] at h2
  exact small_term h2.2
 have hm60 : m ≤ 60 := by have := hT.1; have := hsmall.1; omega
 obtain ⟨W, hW⟩ : ∃ W, W = (((w.alloc (.cells #[a, v] 65)).alloc (.cells #[.slice none 0 0, .map none, .bool false] 89)).alloc (.map #[] 0)).alloc (.cells #[.slice none 0 0, .map (some (w.heap.size + 1 + 1)), .bool true] 89) := ⟨_, rfl⟩
 have H0 : Ro w a v ([], true) none 0 0 0 W := by rw [hW]; exact ro_start w a v
 have LC := hid (cloneInts b off m c t W (hT.next H0.bel) (by omega))
 clear hS h hz hok
 gi_wp2_with (refine ⟨trivial, ?_⟩; gi_at_call 80; rw [← hW]; refine (callsIn_wide.2 LC.out).mono ?_; rintro e w2 ⟨U, un, uc, rfl, oU, bb⟩; refine (?_ : Hid _).out)
 have oU2 : Owned w2 W.heap.size w2.heap.size sI [.slice U un uc] ((0, 0, t) : St).2.2 := ow_ints.2 (Go.Proofs.Ytblhmplpcdcejaa.kinds.Ownd.of_own oU)
 have H2 := hid (H0.below bb)
 have rf2 : Rf (w.heap.size + 1 + 1 + 1 + 1) W.heap.size (w.heap.size + 1 + 1 + 1) (w.heap.size + 1 + 1) 0 ([], true) none 0 0 w2 := ⟨H0.rf.row.next bb, H0.rf.ow.next bb, H0.rf.kn.below bb⟩
 have LA := hid (implAdd (w.heap.size + 1 + 1 + 1 + 1) W.heap.size (w.heap.size + 1 + 1 + 1) (w.heap.size + 1 + 1) 0 ([], true) none 0 0 (0, 0, t) U un uc 0 0 w2 rf2 oU2 hsmall rfl (by simp) (by omega) (by omega) (by omega) (by omega) H0.sz bb.size)
 clear LC oU oU2 rf2 H0 hW bb hT hmm
 refine hid ?_
 gi_wp2_with (refine ⟨trivial, ?_⟩; gi_at_call 79; refine (callsIn_wide.2 LA.out).mono ?_; rintro e w3 hA; obtain ⟨rv, rfl⟩ := hA.1; refine (?_ : Hid _).out)
 obtain ⟨O, on, oc, cnt, R3, hc3, -, -⟩ := H2.out.add hA
 have hc3 := hc3 rfl
 clear hA H2 LA w2 W
 have e0 : addF 0 0 ([], true) (0, 0, t) = fdN d.1 d.2 t n 0 := by
  rw [add_new rfl (by simp [termsF]) (by simp)]
  rfl
 rw [e0] at R3 hc3
 have hc3 : cnt ≤ (fdN d.1 d.2 t n 0).1.length := by simpa using hc3
 clear e0
 refine hid ?_
 gi_wp2
 refine wpIn_loop (fun a' w' => ∃ (i on oc cnt ib : Nat) (O : Option Addr) (Ds : List Nat) (u4 u5 u9 u10 u11 u12 u13 u14 u15 u16 u17 u18 u19 u20 u21 u22 u23 u24 u25 u26 u27 u28 u29 u30 u31 u32 u33 u34 u35 u36 u37 u38 u39 u40 u41 u42 u43 u44 u45 u46 u47 u48 u49 u50 u51 u52 u53 u54 u55 u56 u57 u58 : Value), a' = { tmps := #[.agg #[a, v], .slice (some ⟨b, off, none⟩) m c, .int .i64 (n : Int), .pointer (some ⟨w.heap.size, 0, none⟩), u4, u5, .pointer (some ⟨w.heap.size + 1, 0, none⟩), .pointer (some ⟨w.heap.size + 1 + 1 + 1, 0, none⟩), .pointer (some ⟨ib, 0, none⟩), u9, u10, u11, u12, u13, u14, u15, u16, u17, u18, u19, u20, u21, u22, u23, u24, u25, u26, u27, u28, u29, u30, u31, u32, u33, u34, u35, u36, u37, u38, u39, u40, u41, u42, u43, u44, u45, u46, u47, u48, u49, u50, u51, u52, u53, u54, u55, u56, u57, u58], defers := Ds.map mark } ∧ i ≤ 60 ∧ Ro w a v (fdN d.1 d.2 t n i) O on oc cnt w' ∧ (fdN d.1 d.2 t n i).2 = true ∧ cnt ≤ (fdN d.1 d.2 t n i).1.length ∧ Row w' ib 3 #[.int .i64 (i : Int)] ∧ w.heap.size + 1 + 1 + 1 + 1 ≤ ib ∧ Dok (w.heap.size + 1 + 1 + 1 + 1) Ds w') (fun a' w' => 61 - boxInt w' (a'.tmps.getD 8 undef)) ?_ ?_
 ·exact ⟨0, on, oc, cnt, _, O, [], _, _, _, _, _, _, _, _, _, _, _, _, _, _, _, _, _, _, _, _, _, _, _, _, _, _, _, _, _, _, _, _, _, _, _, _, _, _, _, _, _, _, _, _, _, _, _, _, _, _, _, _, rfl, Nat.zero_le _, R3.below ((Below.refl _ _).alloc (Nat.le_refl _) _), rfl, hc3, Row.new _ _ _, R3.sz, List.nodup_nil, fun D h => by cases h⟩
 ·clear R3 hc3
  rintro a' wr ⟨i, on, oc, cnt, ib, O, Ds, u4, u5, u9, u10, u11, u12, u13, u14, u15, u16, u17, u18, u19, u20, u21, u22, u23, u24, u25, u26, u27, u28, u29, u30, u31, u32, u33, u34, u35, u36, u37, u38, u39, u40, u41, u42, u43, u44, u45, u46, u47, u48, u49, u50, u51, u52, u53, u54, u55, u56, u57, u58, rfl, hi60, R, hall, hcnt, ri, hib, hD⟩
  have hInv := inv_fd (sg := d.1) (rs := d.2) (t := t) (n := n) i
  obtain ⟨Si, hSi⟩ : ∃ Si, fdN d.1 d.2 t n i = Si := ⟨_, rfl⟩
  rw [hSi] at R hall hcnt hInv
  have hon : Si.1.length = on := by have := R.rf.ow.1; simpa using this
  have kI : wr.cell? ⟨ib, 0, none⟩ = some (.int .i64 (i : Int)) := ri.cell 0
  have k0 : wr.cell? ⟨w.heap.size + 1 + 1 + 1, 0, none⟩ = some (.slice O on oc) := R.rf.row.cell 0
  have k1 : wr.cell? ⟨w.heap.size + 1 + 1 + 1, 1, none⟩ = some (.map (some (w.heap.size + 1 + 1))) := R.rf.row.cell 1
  have k2 : wr.cell? ⟨w.heap.size + 1 + 1 + 1, 2, none⟩ = some (.bool Si.2) := R.rf.row.cell 2
  have hon60 : on ≤ 60 := by have := hInv.len60; omega
  by_cases hi : i < on
  ·obtain ⟨f, hf⟩ : ∃ f, Si.1[i]? = some f := ⟨_, List.getElem?_eq_getElem (by omega)⟩
   obtain ⟨g, T, tn, tc, G, rfl, -, ⟨e0, e1, e2, e3, e4⟩, hgG, hG, hT⟩ := find_at R.rf.ow hf
   have i0 : (0 : Int) ≤ (i : Int) := by omega
   have i1 : (i : Int) < (on : Int) := by omega
   have hdn : f.2.2 ≤ n := hInv.dn f (List.mem_of_getElem? hf)
   by_cases hst : f.2.2 < n
   ·have hst1 : (f.2.2 : Int) < (n : Int) := by omega
    obtain ⟨lb, hlb⟩ : ∃ lb, wr.heap.size = lb := ⟨_, rfl⟩
    have f60 : (f.2.2 : Int) ≤ 60 := by omega
    have f0 : (0 : Int) ≤ (f.2.2 : Int) := by omega
    have HF0 := hid (show Si.1[i]? = some f ∧ f.2.2 ≠ n ∧ Inv d.1 d.2 t n Si i ∧ fdN d.1 d.2 t n i = Si from ⟨hf, by omega, hInv, hSi⟩)
    have hokT : rightB d.1 d.2 (termF f) = true := by
     have h2 := HS.out.2
     unfold rightB at h2 ⊢
     rw [Bool.and_eq_true] at h2 ⊢
     exact ⟨h2.1, find_ok h2.1 h2.2 hInv (List.mem_of_getElem? hf)⟩
    have HRT := hid hokT
    have q9 := (Row.new wr 94 #[.int .i64 f.1.1, .int .i64 f.1.2.1, .slice T tn tc, .int .i64 (f.2.1 : Int), .int .i64 (f.2.2 : Int)])
    have kA0 : (wr.alloc (.cells #[.int .i64 f.1.1, .int .i64 f.1.2.1, .slice T tn tc, .int .i64 (f.2.1 : Int), .int .i64 (f.2.2 : Int)] 94)).cell? ⟨w.heap.size, 0, none⟩ = some a := (R.sys.alloc _).cell 0
    have kA1 : (wr.alloc (.cells #[.int .i64 f.1.1, .int .i64 f.1.2.1, .slice T tn tc, .int .i64 (f.2.1 : Int), .int .i64 (f.2.2 : Int)] 94)).cell? ⟨w.heap.size, 1, none⟩ = some v := (R.sys.alloc _).cell 1
    have kA2 : (wr.alloc (.cells #[.int .i64 f.1.1, .int .i64 f.1.2.1, .slice T tn tc, .int .i64 (f.2.1 : Int), .int .i64 (f.2.2 : Int)] 94)).cell? ⟨wr.heap.size, 2, none⟩ = some (.slice T tn tc) := q9.cell 2
    have HR := hid (show Ro w a v Si (some ⟨g, 0, none⟩) on oc cnt wr ∧ Row wr ib 3 #[.int .i64 (i : Int)] ∧ Dok (w.heap.size + 1 + 1 + 1 + 1) Ds wr ∧ RdQ wr (fun b => b ∈ G) sI [.slice T tn tc] (termF f) ∧ g ∉ G ∧ (∀ k ∈ G, w.heap.size + 1 + 1 + 1 + 1 ≤ k ∧ k < wr.heap.size ∧ k < wr.heap.size) ∧ Si.2 = true ∧ cnt ≤ Si.1.length from ⟨R, ri, hD, hT, hgG, hG, hall, hcnt⟩)
    clear hInv hSi hf hT hG hgG hdn hst hokT R ri hD hcnt q9 hlb lb
    gi_wp2_with (refine ⟨trivial, ?_⟩; gi_at_call 81; refine (callsIn_wide.2 (stepsFn a v T tn tc _)).mono ?_; rintro e w3 ⟨rfl, hw3⟩; subst hw3)
    obtain ⟨Wb, hWb⟩ : ∃ Wb, Wb = ((wr.alloc (.cells #[.int .i64 f.1.1, .int .i64 f.1.2.1, .slice T tn tc, .int .i64 (f.2.1 : Int), .int .i64 (f.2.2 : Int)] 94)).alloc (.cells #[a, v] 65)).alloc (.cells #[.slice T tn tc] 22) := ⟨_, rfl⟩
    rw [← hWb]
    have bB : Below wr.heap.size wr Wb := by rw [hWb]; exact (((Below.refl _ wr).alloc (Nat.le_refl _) _).alloc (by simp) _).alloc (by simp; omega) _
    have zB : Wb.heap.size = wr.heap.size + 1 + 1 + 1 := by rw [hWb]; simp
    have rL : Row Wb wr.heap.size 94 #[.int .i64 f.1.1, .int .i64 f.1.2.1, .slice T tn tc, .int .i64 (f.2.1 : Int), .int .i64 (f.2.2 : Int)] := by rw [hWb]; exact ((Row.new wr _ _).alloc _).alloc _
    have r1 : Row Wb (wr.heap.size + 1) 65 #[a, v] := by
     rw [hWb]
     have := (Row.new (wr.alloc (.cells #[.int .i64 f.1.1, .int .i64 f.1.2.1, .slice T tn tc, .int .i64 (f.2.1 : Int), .int .i64 (f.2.2 : Int)] 94)) 65 #[a, v]).alloc (.cells #[.slice T tn tc] 22)
     simpa using this
    have r2 : Row Wb (wr.heap.size + 1 + 1) 22 #[.slice T tn tc] := by
     rw [hWb]
     have := Row.new ((wr.alloc (.cells #[.int .i64 f.1.1, .int .i64 f.1.2.1, .slice T tn tc, .int .i64 (f.2.1 : Int), .int .i64 (f.2.2 : Int)] 94)).alloc (.cells #[a, v] 65)) 22 #[.slice T tn tc]
     simpa using this
    obtain ⟨R, ri, hD, hT, hgG, hG, hall2, hcnt⟩ := HR.out
    have zw := R.sz
    have zi := ri.lt
    obtain ⟨hgl, hgu, gcs, hgr⟩ := R.cells g rfl
    have hgi : g ≠ ib := fun e => by
     rw [e] at hgr
     have q := hgr.symm.trans ri
     injection q with q
     injection q with q1 q2
     exact absurd q2 (by decide)
    obtain ⟨Q, hQd⟩ : ∃ Q : Nat → Prop, Q = fun k => k < w.heap.size ∨ k ∈ G ∨ k = wr.heap.size ∨ k = wr.heap.size + 1 ∨ k = wr.heap.size + 1 + 1 ∨ k = ib := ⟨_, rfl⟩
    have hQ : ∀ k, Q k → k < Wb.heap.size := fun k hk => by
     rw [hQd] at hk
     have hk : k < w.heap.size ∨ k ∈ G ∨ k = wr.heap.size ∨ k = wr.heap.size + 1 ∨ k = wr.heap.size + 1 + 1 ∨ k = ib := hk
     rcases hk with h | h | h | h | h | h
     ·omega
     ·have := (hG k h).2.1; omega
     all_goals omega
    have hnQ : ∀ k, w.heap.size ≤ k → k < wr.heap.size → k ∉ G → k ≠ ib → ¬ Q k := fun k h1 h2 h3 h4 hk => by
     rw [hQd] at hk
     have hk : k < w.heap.size ∨ k ∈ G ∨ k = wr.heap.size ∨ k = wr.heap.size + 1 ∨ k = wr.heap.size + 1 + 1 ∨ k = ib := hk
     rcases hk with h | h | h | h | h | h
     ·omega
     ·exact h3 h
     all_goals omega
    have HQ := hid (show (∀ k, Q k → k < Wb.heap.size) ∧ ¬ Q (w.heap.size + 1 + 1 + 1) ∧ ¬ Q (w.heap.size + 1 + 1) ∧ Q wr.heap.size ∧ Q ib from ⟨hQ, hnQ _ (by omega) (by omega) (fun h => by have := (hG _ h).1; omega) (by omega), hnQ _ (by omega) (by omega) (fun h => by have := (hG _ h).1; omega) (by omega), by rw [hQd]; exact .inr (.inr (.inl rfl)), by rw [hQd]; exact .inr (.inr (.inr (.inr (.inr rfl))))⟩)
    have bw : Below w.heap.size w Wb := next_trans R.bel bB
    have hsR : RdQ Wb (QW Q Wb) sSystem [a, v] d := ((rd_q HH.out.1).keep fun k hk => bw.block k hk).mono fun k hk => ⟨by rw [hQd]; exact .inl hk, by omega⟩
    have hTR : RdQ Wb (QW Q Wb) sI [.slice T tn tc] (termF f) := (hT.keep fun k hk => bB.block k (hG k hk).2.1).mono fun k hk => ⟨by rw [hQd]; exact .inr (.inl hk), by have := (hG k hk).2.1; omega⟩
    have HG := steps_giveQ 5 (by decide) (wr.heap.size + 1) (wr.heap.size + 1 + 1) Q a v (.slice T tn tc) d (termF f) Wb hQ (by rw [hQd]; exact .inr (.inr (.inr (.inl rfl)))) (by rw [hQd]; exact .inr (.inr (.inr (.inr (.inl rfl))))) r1 r2 hsR hTR HH.out.2 HRT.out
    have HKI := hid kI
    have DB : Dok (w.heap.size + 1 + 1 + 1 + 1) Ds Wb := ⟨hD.1, fun D hm => ⟨(hD.2 D hm).1, (bB.block D (Array.getElem?_eq_some_iff.1 (hD.2 D hm).2).1).trans (hD.2 D hm).2⟩⟩
    have HDB := hid (show Dok (w.heap.size + 1 + 1 + 1 + 1) Ds Wb ∧ w.heap.size + 1 + 1 + 1 < wr.heap.size ∧ Wb.heap.size = wr.heap.size + 1 + 1 + 1 from ⟨DB, zw, zB⟩)
    have RB := R.below bB
    have riB := ri.next bB
    have hO0 : ∀ k, blk (some (⟨g, 0, none⟩ : Addr)) = some k → ¬ Q k ∧ (k < Wb.heap.size ∨ False) := fun k hk => by
     have hk : some g = some k := hk
     injection hk with hk
     subst hk
     exact ⟨hnQ g (by omega) hgu hgG hgi, .inl (by omega)⟩
    clear hWb r1 r2 hsR hTR hD hT hgG hG hgr R ri bB bw hgi hnQ hQd kA0 kA1 kA2 k0 k1 k2 kI e0 e1 e2 e3 e4 HR
    refine rangeGiveQ (t := 92) (gf := 104) (lb := #[.pointer (some ⟨wr.heap.size + 1, 0, none⟩), .pointer (some ⟨wr.heap.size + 1 + 1, 0, none⟩)]) rfl (enters_of Try.func104 (by kernel_rfl) rfl) hQ HG (Below.refl _ _)
     (fun q => Ir w a v Si i (f.2.2 + 1) wr.heap.size ib #[.int .i64 f.1.1, .int .i64 f.1.2.1, .slice T tn tc, .int .i64 (f.2.1 : Int), .int .i64 (f.2.2 : Int)] Q Wb.heap.size Ds q) (fun _ => Ixr w Si S i (f.2.2 + 1) Ds) (fun q => ir_own DB (by omega) q) (fun _ => ixr_own DB (by omega))
     (fun q => ⟨_, on, oc, cnt, RB, hall2, hcnt, rL, riB, DB, fun k hk => ⟨(hO0 k hk).1, .inl ((hO0 k hk).2.elim id False.elim)⟩⟩)
     (fun es Bx => { tmps := #[.agg #[a, v], .slice (some ⟨b, off, none⟩) m c, .int .i64 (n : Int), .pointer (some ⟨w.heap.size, 0, none⟩), u4, u5, .pointer (some ⟨w.heap.size + 1, 0, none⟩), .pointer (some ⟨w.heap.size + 1 + 1 + 1, 0, none⟩), .pointer (some ⟨ib, 0, none⟩), .pointer (some ⟨wr.heap.size, 0, none⟩), .pointer (some ⟨Bx, 0, none⟩), u11, u12, u13, u14, u15, u16, u17, .int .i64 (i : Int), .pointer (some ⟨w.heap.size + 1 + 1 + 1, 0, none⟩), .slice (some ⟨g, 0, none⟩) on oc, .int .i64 (on : Int), .bool true, .bool true, .pointer (some ⟨w.heap.size + 1 + 1 + 1, 0, none⟩), .slice (some ⟨g, 0, none⟩) on oc, .int .i64 (i : Int), .pointer (some ⟨g, i * 5, none⟩), .pointer (some ⟨g, i * 5 + 4, none⟩), .int .i64 (f.2.2 : Int), .int .i64 (n : Int), .bool true, .bool true, u33, u34, .pointer (some ⟨w.heap.size + 1 + 1 + 1, 0, none⟩), .slice (some ⟨g, 0, none⟩) on oc, .int .i64 (i : Int), .pointer (some ⟨g, i * 5, none⟩), .agg #[.int .i64 f.1.1, .int .i64 f.1.2.1, .slice T tn tc, .int .i64 (f.2.1 : Int), .int .i64 (f.2.2 : Int)], .agg #[a, v], .pointer (some ⟨wr.heap.size, 0, none⟩), .pointer (some ⟨wr.heap.size, 2, none⟩), .slice T tn tc, .func (.func 104) #[] #[.pointer (some ⟨wr.heap.size + 1, 0, none⟩), .pointer (some ⟨wr.heap.size + 1 + 1, 0, none⟩)], .agg es.toArray, u46, u47, u48, u49, u50, u51, u52, u53, u54, u55, u56, u57, u58], defers := [] }) ?assign ?body ?done ?stop
    case assign =>
     intro l es y lo X K ho hK
     obtain ⟨U, un, uc, rfl, -⟩ := step_owned ho
     gi_wp2
     first | exact hK | simpa using hK
    case body =>
     clear RB riB rL hO0 HG DB hall2 hcnt hall hQ
     rintro l q pre y V X Bx es hq1 hq2 hI bV hBV rX hXB oY hpre
     obtain ⟨O, on2, oc2, cnt2, R, hall, hcnt, rL, rI, hD, hOk⟩ := hI
     obtain ⟨U, un, uc, rfl, oU⟩ := step_owned oY
     have hpre0 : pre <+: stepsL d.1 d.2 (termF f) := (List.prefix_append pre [y]).trans hpre
     have h60 := sp_len HF0.out.2.2.1 HF0.out.1 HF0.out.2.1 hpre0
     have hmem : y ∈ stepsL d.1 d.2 (termF f) := hpre.subset (by simp)
     have hsm : Small y.2.2 := by
      have h2 := HRT.out
      unfold rightB at h2
      rw [Bool.and_eq_true] at h2
      exact small_term (stepAt_ok (steps_at h2.1 h2.2 hmem))
     have oU2 : Owned X V.heap.size X.heap.size sI [.slice U un uc] y.2.2 := by
      obtain ⟨F, h1, h2, h3⟩ := oU
      exact ⟨F, h1, h2, fun k hk => ⟨(h3 k hk).1, by have := (h3 k hk).2; omega⟩⟩
     have RX := R.below bV
     have zV := R.sz
     have LA := implAdd (w.heap.size + 1 + 1 + 1 + 1) V.heap.size (w.heap.size + 1 + 1 + 1) (w.heap.size + 1 + 1) cnt2 (Sp i (f.2.2 + 1) Si pre) O on2 oc2 y U un uc i (f.2.2 + 1) X ⟨RX.rf.row, R.rf.ow.next bV, RX.rf.kn⟩ oU2 hsm hall h60 (by omega) (by omega) (by omega) (by omega) (by omega) bV.size
     rw [show ((f.2.2 + 1 : Nat) : Int) = (f.2.2 : Int) + 1 by omega] at LA
     obtain ⟨S', hS'⟩ : ∃ S', addF i (f.2.2 + 1) (Sp i (f.2.2 + 1) Si pre) y = S' := ⟨_, rfl⟩
     rw [hS'] at LA
     have HSp := hid (show Sp i (f.2.2 + 1) Si (pre ++ [y]) = S' from by rw [sp_snoc, hS'])
     have HL := hid LA
     have HX := hid (show Ro w a v (Sp i (f.2.2 + 1) Si pre) O on2 oc2 cnt2 X ∧ cnt2 ≤ (Sp i (f.2.2 + 1) Si pre).1.length ∧ (∀ k, blk O = some k → ¬ Q k ∧ (k < Wb.heap.size ∨ q ≤ k)) ∧ Dok (w.heap.size + 1 + 1 + 1 + 1) Ds X ∧ Row X wr.heap.size 94 #[.int .i64 f.1.1, .int .i64 f.1.2.1, .slice T tn tc, .int .i64 (f.2.1 : Int), .int .i64 (f.2.2 : Int)] ∧ Row X ib 3 #[.int .i64 (i : Int)] ∧ Wb.heap.size ≤ X.heap.size ∧ q ≤ X.heap.size from ⟨RX, hcnt, hOk, ⟨hD.1, fun D hm => ⟨(hD.2 D hm).1, (bV.block D (Array.getElem?_eq_some_iff.1 (hD.2 D hm).2).1).trans (hD.2 D hm).2⟩⟩, rL.next bV, rI.next bV, by omega, by omega⟩)
     have HP := hid hpre
     have x0 : X.cell? ⟨Bx, 0, none⟩ = some (.int .i64 y.1) := rX.cell 0
     have x1 : X.cell? ⟨Bx, 1, none⟩ = some (.int .i64 y.2.1) := rX.cell 1
     have x2 : X.cell? ⟨Bx, 2, none⟩ = some (.slice U un uc) := rX.cell 2
     have xi : X.cell? ⟨ib, 0, none⟩ = some (.int .i64 (i : Int)) := (rI.next bV).cell 0
     have xl : X.cell? ⟨wr.heap.size, 4, none⟩ = some (.int .i64 (f.2.2 : Int)) := (rL.next bV).cell 4
     clear LA hS' RX R hall hcnt rL rI hD hOk oU oU2 oY hpre hpre0 h60 hmem hsm rX bV
     gi_wp2_with (refine ⟨trivial, ?_⟩; gi_at_call 79; refine (CallsIn.inRound l (callsIn_wide.2 HL.out)).mono ?_; rintro e X2 hA; obtain ⟨rv, rfl⟩ := hA.1; refine (?_ : Hid _).out)
     obtain ⟨O', on', oc', cnt', R', hc', hK, hO', hD'⟩ := ir_add (m := Wb.heap.size) (q := q) HX.out.1 hA HX.out.2.1 HX.out.2.2.1 HQ.out.1 HQ.out.2.1 HQ.out.2.2.1 (by omega) HX.out.2.2.2.2.2.2.1 HX.out.2.2.2.2.2.2.2 HX.out.2.2.2.1
     have m2 : X2.cell? ⟨w.heap.size + 1 + 1 + 1, 2, none⟩ = some (.bool S'.2) := R'.rf.row.cell 2
     cases hs : S'.2 with
     | true =>
      have F := hid (show KpsQ Q Wb.heap.size q X X2 ∧ Ir w a v Si i (f.2.2 + 1) wr.heap.size ib #[.int .i64 f.1.1, .int .i64 f.1.2.1, .slice T tn tc, .int .i64 (f.2.1 : Int), .int .i64 (f.2.2 : Int)] Q Wb.heap.size Ds q (pre ++ [y]) X2 from ⟨hK, O', on', oc', cnt', by rw [HSp.out]; exact R', by rw [HSp.out]; exact hs, by rw [HSp.out]; exact hc' hs, hK.1.row HQ.out.2.2.2.1 HX.out.2.2.2.2.1, hK.1.row HQ.out.2.2.2.2 HX.out.2.2.2.2.2.1, hD', hO'⟩)
      rw [hs] at m2
      clear hA R' hc' hK hO' hD' HL
      refine hid ?_
      gi_wp2
      first | exact F.out | (have q := F.out; rw [HDB.out.2.2] at q; exact q)
     | false =>
      have HEND := hid (show S = S' from by
       rw [← HS.out.1, ← HSp.out, ← HF0.out.2.2.2]
       exact sp_full (by omega) (by rw [HF0.out.2.2.2]; exact HF0.out.1) HF0.out.2.1 HP.out (by rw [HF0.out.2.2.2, HSp.out]; exact hs))
      have ⟨y0, g0, y1, g1, y2, g2⟩ := out_cells R' (.slice O' on' oc') (.map (some (w.heap.size + 1 + 1)))
      have m0 : X2.cell? ⟨w.heap.size + 1 + 1 + 1, 0, none⟩ = some (.slice O' on' oc') := R'.rf.row.cell 0
      have m1 : X2.cell? ⟨w.heap.size + 1 + 1 + 1, 1, none⟩ = some (.map (some (w.heap.size + 1 + 1))) := R'.rf.row.cell 1
      have Z := out_at R' hD' (by omega)
      rw [hs] at Z m2
      have F := hid (show KeepsFrom Wb.heap.size X (outZ w O' on' oc' false X2) ∧ Ixr w Si S i (f.2.2 + 1) Ds (pre ++ [y]) (outZ w O' on' oc' false X2) from ⟨hK.2.1.trans (Z.2.2 _ (by omega)), O', on', oc', cnt', by rw [HSp.out]; exact HEND.out, by rw [HEND.out]; exact Z.1, Z.2.1⟩)
      unfold outZ at F
      clear hA R' hc' hK hO' hD' HL Z
      refine hid ?_
      gi_wp2
      first | exact F.out | (have q := F.out; rw [HDB.out.2.2] at q; exact q)
    case done =>
     rintro D q X hDb hq2 ⟨O, on2, oc2, cnt2, R, hall9, hcnt9, rL9, rI, hD9, -⟩ hd
     have e9 : Sp i (f.2.2 + 1) Si (stepsL d.1 d.2 (termF f)) = fdN d.1 d.2 t n (i + 1) := by
      rw [fd_step (by rw [HF0.out.2.2.2]; exact HF0.out.1) HF0.out.2.1, HF0.out.2.2.2]
      rfl
     rw [e9] at R hall9 hcnt9
     have xi : X.cell? ⟨ib, 0, none⟩ = some (.int .i64 (i : Int)) := rI.cell 0
     have zX := R.sz
     have F := hid (show (∀ Y, Below X.heap.size X Y → Ro w a v (fdN d.1 d.2 t n (i + 1)) O on2 oc2 cnt2 Y ∧ Dok (w.heap.size + 1 + 1 + 1 + 1) (D :: Ds) Y) ∧ (fdN d.1 d.2 t n (i + 1)).2 = true ∧ cnt2 ≤ (fdN d.1 d.2 t n (i + 1)).1.length from
      ⟨fun Y bY => ⟨R.below bY, Dok.cons HDB.out.1 ⟨hD9.1, fun D' h' => ⟨(hD9.2 D' h').1, (bY.block D' (Array.getElem?_eq_some_iff.1 (hD9.2 D' h').2).1).trans (hD9.2 D' h').2⟩⟩ (by omega) (by omega) ((bY.block D (Array.getElem?_eq_some_iff.1 hd).1).trans hd)⟩, hall9, hcnt9⟩)
     clear RB riB rL hO0 HG DB hall2 hcnt hall hQ R hall9 hcnt9 rL9 rI hD9 hd
     gi_wp2
     have bY : Below X.heap.size X (X.alloc (.cells #[.int .i64 ((i : Int) + 1)] 3)) := (Below.refl _ _).alloc (Nat.le_refl _) _
     have rY : Row (X.alloc (.cells #[.int .i64 ((i : Int) + 1)] 3)) X.heap.size 3 #[.int .i64 ((i + 1 : Nat) : Int)] := Row.new _ _ _
     refine ⟨⟨i + 1, on2, oc2, cnt2, X.heap.size, O, D :: Ds, _, _, _, _, _, _, _, _, _, _, _, _, _, _, _, _, _, _, _, _, _, _, _, _, _, _, _, _, _, _, _, _, _, _, _, _, _, _, _, _, _, _, _, _, _, _, _, _, _, _, _, _, rfl, by omega, (F.out.1 _ bY).1, F.out.2.1, F.out.2.2, rY, by omega, (F.out.1 _ bY).2⟩, ?_⟩
     show 61 - boxInt (X.alloc (.cells #[.int .i64 ((i : Int) + 1)] 3)) (.pointer (some ⟨X.heap.size, 0, none⟩)) < 61 - boxInt wr (.pointer (some ⟨ib, 0, none⟩))
     have b1 : boxInt (X.alloc (.cells #[.int .i64 ((i : Int) + 1)] 3)) (.pointer (some ⟨X.heap.size, 0, none⟩)) = i + 1 := boxInt_at (rY.cell 0)
     have b2 : boxInt wr (.pointer (some ⟨ib, 0, none⟩)) = i := boxInt_at HKI.out
     rw [b1, b2]
     omega
    case stop =>
     rintro D q pre X hDb hq2 hne hpre ⟨O, on2, oc2, cnt2, hS9, hOut, hD9⟩ hd
     have DK := hid (Dok.cons HDB.out.1 hD9 (by omega) (by omega) hd)
     have hT9 := turn_keeps (out_own w S O on2 oc2 cnt2 (B := w.heap.size + 1 + 1 + 1 + 1) (by omega)) (D :: Ds) X DK.out.1 DK.out.2 hOut
     have HA := hid (out_ans hT9)
     have u0 : (turnAll (D :: Ds) X).cell? ⟨w.heap.size + 1, 0, none⟩ = some (.slice O on2 oc2) := hT9.1.cell 0
     have u1 : (turnAll (D :: Ds) X).cell? ⟨w.heap.size + 1, 1, none⟩ = some (.map (some (w.heap.size + 1 + 1))) := hT9.1.cell 1
     have u2 : (turnAll (D :: Ds) X).cell? ⟨w.heap.size + 1, 2, none⟩ = some (.bool S.2) := hT9.1.cell 2
     clear RB riB rL hO0 HG DB hall2 hcnt hall hQ hOut hD9 hd hT9 hpre hne hS9
     gi_wp2
     refine leaves_marks (D :: Ds) X DK.out.1 (fun D' h' => (DK.out.2 D' h').2) ?_
     exact ⟨_, by simp [results, Try.results54, go_sem, u0, u1, u2], HA.out⟩
   ·have hst1 : ¬ (f.2.2 : Int) < (n : Int) := by omega
    have HEND := hid (show S = Si from by
     rw [← HS.out.1, ← hSi]
     exact fd_end hi60 (.inr (.inr ⟨f, by rw [hSi]; exact hf, by omega⟩)))
    clear hInv hSi hf hT hG hgG hdn hst
    have ⟨y0, g0, y1, g1, y2, g2⟩ := out_cells R (.slice (some ⟨g, 0, none⟩) on oc) (.map (some (w.heap.size + 1 + 1)))
    have Z := out_at R hD (by omega)
    have hT := turn_keeps (out_own w Si (some ⟨g, 0, none⟩) on oc cnt (B := w.heap.size + 1 + 1 + 1 + 1) (by omega)) Ds _ Z.2.1.1 Z.2.1.2 Z.1
    have DK := hid Z.2.1
    obtain ⟨Zw, hZ⟩ : ∃ Zw, outZ w (some ⟨g, 0, none⟩) on oc Si.2 wr = Zw := ⟨_, rfl⟩
    rw [hZ] at hT DK
    have HA := hid (out_ans hT)
    have u0 : (turnAll Ds Zw).cell? ⟨w.heap.size + 1, 0, none⟩ = some (.slice (some ⟨g, 0, none⟩) on oc) := hT.1.cell 0
    have u1 : (turnAll Ds Zw).cell? ⟨w.heap.size + 1, 1, none⟩ = some (.map (some (w.heap.size + 1 + 1))) := hT.1.cell 1
    have u2 : (turnAll Ds Zw).cell? ⟨w.heap.size + 1, 2, none⟩ = some (.bool Si.2) := hT.1.cell 2
    have HZ := hid (show (((wr.setCell ⟨w.heap.size + 1, 0, none⟩ (.slice (some ⟨g, 0, none⟩) on oc)).setCell ⟨w.heap.size + 1, 1, none⟩ (.map (some (w.heap.size + 1 + 1)))).setCell ⟨w.heap.size + 1, 2, none⟩ (.bool true)) = Zw from by rw [← hall]; exact hZ)
    clear hZ Z hT R hD hcnt
    gi_wp2
    rw [HEND.out, HZ.out]
    refine leaves_marks Ds Zw DK.out.1 (fun D' h' => (DK.out.2 D' h').2) ?_
    exact ⟨_, by simp [results, Try.results54, go_sem, u0, u1, u2], HA.out⟩
  ·have i1 : ¬ (i : Int) < (on : Int) := by omega
   have HEND := hid (show S = Si from by
    rw [← HS.out.1, ← hSi]
    exact fd_end hi60 (.inl (by rw [hSi]; omega)))
   clear hInv hSi
   have ⟨y0, g0, y1, g1, y2, g2⟩ := out_cells R (.slice O on oc) (.map (some (w.heap.size + 1 + 1)))
   have Z := out_at R hD (by omega)
   have hT := turn_keeps (out_own w Si O on oc cnt (B := w.heap.size + 1 + 1 + 1 + 1) (by omega)) Ds _ Z.2.1.1 Z.2.1.2 Z.1
   have DK := hid Z.2.1
   obtain ⟨Zw, hZ⟩ : ∃ Zw, outZ w O on oc Si.2 wr = Zw := ⟨_, rfl⟩
   rw [hZ] at hT DK
   have HA := hid (out_ans hT)
   have u0 : (turnAll Ds Zw).cell? ⟨w.heap.size + 1, 0, none⟩ = some (.slice O on oc) := hT.1.cell 0
   have u1 : (turnAll Ds Zw).cell? ⟨w.heap.size + 1, 1, none⟩ = some (.map (some (w.heap.size + 1 + 1))) := hT.1.cell 1
   have u2 : (turnAll Ds Zw).cell? ⟨w.heap.size + 1, 2, none⟩ = some (.bool Si.2) := hT.1.cell 2
   have HZ := hid (show (((wr.setCell ⟨w.heap.size + 1, 0, none⟩ (.slice O on oc)).setCell ⟨w.heap.size + 1, 1, none⟩ (.map (some (w.heap.size + 1 + 1)))).setCell ⟨w.heap.size + 1, 2, none⟩ (.bool true)) = Zw from by rw [← hall]; exact hZ)
   clear hZ Z hT R hD hcnt
   gi_wp2
   rw [HEND.out, HZ.out]
   refine leaves_marks Ds Zw DK.out.1 (fun D' h' => (DK.out.2 D' h').2) ?_
   exact ⟨_, by simp [results, Try.results54, go_sem, u0, u1, u2], HA.out⟩
end iter
end
section
namespace longest
open Go.RowKit base ints sig term termOk marks app sym sub segs segsHelp termFacts varsOf shape kindsR kindsW ruleMath ruleSpec ruleImpl stepMath walkMath stepSpec stepImpl reachMath findW findSpec bySpec iter
set_option maxRecDepth 100000
end longest
end
section
open Go.Lib (hid)
namespace longest
open Go.RowKit base ints sig term termOk marks app sym sub segs segsHelp termFacts varsOf shape kindsR kindsW ruleMath ruleSpec ruleImpl stepMath walkMath stepSpec stepImpl reachMath findW findSpec bySpec iter
set_option maxRecDepth 100000
def AnsSrc (w : World) (a v : Value) (q : Bool) (e : Ending) (w' : World) : Prop := ∃ x1 x2 x3 y1 y2 y3 b, e = .returned (.tuple #[.agg #[.slice x1 x2 x3, .slice y1 y2 y3], .bool b]) ∧ b = q ∧ (b = true → .slice x1 x2 x3 = a ∧ .slice y1 y2 y3 = v) ∧ Below w.heap.size w w'
def srcB (sg : List Int) (rs : List Rl) (n : Int) (D : List (List Int)) : Bool := sysOkB sg rs && (stepsB n && D.all (termOkB sg))
set_option maxHeartbeats 4000000 in
theorem searchIn (a v : Value) (n : Int) (X : Option Addr) (xn xc : Nat) (D : List (List Int)) (d : Dat sSystem) (w : World) (h : Rd w w.heap.size sSystem [a, v] d) (hz : sz sSystem d ≤ 1048576) (hX : Rd w w.heap.size sTs [.slice X xn xc] D) (hxn : xn ≤ 1048576) (hD : ∀ k, (D.getD k []).length ≤ 1048576) :
  Calls Try.prog 53 #[.agg #[a, v], .int .i64 n, .slice X xn xc] w (AnsSrc w a v (srcB d.1 d.2 n D)) := by
 obtain ⟨q, hq⟩ : ∃ q, srcB d.1 d.2 n D = q := ⟨_, rfl⟩
 rw [hq]
 have h0 := h
 obtain ⟨A, m, cs, V, r, cv, rfl, rfl, hs, hc, hcv, hr, hm, hr1, hrs, hsg, hE⟩ := rd_sys h hz
 obtain ⟨W, hW, rA, rR, bel⟩ := box2 w 34 65 #[.slice A m cs, .slice V r cv] #[.slice none 0 0, .slice none 0 0]
 have HW := hid hW
 have LS := hid (systemOf _ _ d W (h0.next bel) hz)
 have HX := hid (show Rd w w.heap.size sTs [.slice X xn xc] D ∧ D.length = xn ∧ Seg w w.heap.size A m d.1 from ⟨hX, rd_ts hX, hs⟩)
 clear hW h h0 hz hX hs hc hcv hr hrs hsg hE
 cases ok : sysOkB d.1 d.2 with
 | false =>
  have HQ := hid (show false = q from by rw [← hq]; unfold srcB; rw [ok]; rfl)
  rw [ok] at LS
  clear hq ok
  go_enter Try.func53, Try.ntmps53
  go_wp2_with fail
  rw [← HW.out]
  refine LS.out.mono ?_
  rintro e w1 ⟨he, bb⟩
  have he : e = .returned (.tuple #[.agg #[.slice none 0 0, .slice none 0 0], .bool false]) := he
  subst he
  obtain ⟨sb, hsb⟩ : ∃ sb, w1.heap.size = sb := ⟨_, rfl⟩
  have HSB := hid (show w1.heap.size = sb ∧ True from ⟨hsb, trivial⟩)
  have H1 := hid (show Row (w1.alloc (.cells #[.slice none 0 0, .slice none 0 0] 65)) sb 65 #[.slice none 0 0, .slice none 0 0] ∧ Row (w1.alloc (.cells #[.slice none 0 0, .slice none 0 0] 65)) (w.heap.size + 1) 65 #[.slice none 0 0, .slice none 0 0] ∧ Below w.heap.size w (w1.alloc (.cells #[.slice none 0 0, .slice none 0 0] 65)) from ⟨by rw [← HSB.out.1]; exact Row.new _ _ _, (rR.next bb).alloc _, (next_trans bel bb).alloc (next_trans bel bb).size _⟩)
  clear bb bel rA rR LS HW
  go_wp2_with fail
  try rw [hsb]
  clear hsb
  go_loopg [9, 28] xn (fun g b_ i_ wr => ∃ i : Nat, b_ = .bool false ∧ i_ = .int .i64 (i : Int) ∧ i + g = xn ∧ Row wr sb 65 #[.slice none 0 0, .slice none 0 0] ∧ Row wr (w.heap.size + 1) 65 #[.slice none 0 0, .slice none 0 0] ∧ Below w.heap.size w wr)
  case atStart => exact ⟨0, by first | rfl | rw [decide_eq_false (by omega)], rfl, by omega, H1.out⟩
  case round =>
   obtain ⟨i, rfl, rfl, hg, rs, rr, bel⟩ := hrel
   by_cases hi : i < xn
   ·obtain ⟨b, off, T, tn, tc, rfl, hb, cT, -, -⟩ := rd_term HX.out.1 bel hi
    have i0 : (0 : Int) ≤ (i : Int) := by omega
    have i1 : (i : Int) < (xn : Int) := by omega
    have F := hid (show i + gk = xn ∧ Row wr sb 65 #[.slice none 0 0, .slice none 0 0] ∧ Row wr (w.heap.size + 1) 65 #[.slice none 0 0, .slice none 0 0] ∧ Below w.heap.size w wr from ⟨hg, rs, rr, bel⟩)
    clear hg rs rr bel
    go_wp2
    go_roundg (gk - 1)
    case measure => have := F.out.1; omega
    case rel => exact ⟨i + 1, rfl, by simp, by have := F.out.1; omega, F.out.2⟩
   ·have i1 : ¬ (i : Int) < (xn : Int) := by omega
    clear hg
    have c0 : wr.cell? ⟨sb, 0, none⟩ = some (.slice none 0 0) := rs.cell 0
    have c1 : wr.cell? ⟨sb, 1, none⟩ = some (.slice none 0 0) := rs.cell 1
    have y0 : wr.cell? ⟨w.heap.size + 1, 0, none⟩ = some (.slice none 0 0) := rr.cell 0
    have y1 : wr.cell? ⟨w.heap.size + 1, 1, none⟩ = some (.slice none 0 0) := rr.cell 1
    have g0 := rr.free 0
    have g1 := rr.free 1
    have ra := Row.put rr 0 (.slice none 0 0)
    have y2 : (wr.setCell ⟨w.heap.size + 1, 0, none⟩ (.slice none 0 0)).cell? ⟨w.heap.size + 1, 1, none⟩ = some (.slice none 0 0) := ra.cell 1
    have g2 := ra.free 1
    have rb := Row.put ra 1 (.slice none 0 0)
    have u0 : ((wr.setCell ⟨w.heap.size + 1, 0, none⟩ (.slice none 0 0)).setCell ⟨w.heap.size + 1, 1, none⟩ (.slice none 0 0)).cell? ⟨w.heap.size + 1, 0, none⟩ = some (.slice none 0 0) := rb.cell 0
    have u1 : ((wr.setCell ⟨w.heap.size + 1, 0, none⟩ (.slice none 0 0)).setCell ⟨w.heap.size + 1, 1, none⟩ (.slice none 0 0)).cell? ⟨w.heap.size + 1, 1, none⟩ = some (.slice none 0 0) := rb.cell 1
    have FZ : AnsSrc w (.slice A m cs) (.slice V r cv) q (.returned (.tuple #[.agg #[.slice none 0 0, .slice none 0 0], .bool false])) ((wr.setCell ⟨w.heap.size + 1, 0, none⟩ (.slice none 0 0)).setCell ⟨w.heap.size + 1, 1, none⟩ (.slice none 0 0)) := ⟨none, 0, 0, none, 0, 0, false, rfl, HQ.out, (fun e => by cases e), (bel.setCell (by show _ ≤ w.heap.size + 1; omega) _).setCell (by show _ ≤ w.heap.size + 1; omega) _⟩
    have HFZ := hid FZ
    clear FZ ra rb rs rr bel HQ
    go_wp2
    exact bodyPost_ret (v := .tuple #[.agg #[.slice none 0 0, .slice none 0 0], .bool false]) (by simp [results, Try.results53, go_sem, u0, u1]) rfl HFZ.out
 | true =>
  rw [ok] at LS
  by_cases hn0 : 0 ≤ n
  ·by_cases hn1 : n ≤ 20
   ·have HQ := hid (show q = D.all (termOkB d.1) from by rw [← hq]; unfold srcB; rw [ok, steps_in ⟨hn0, hn1⟩]; rfl)
    clear hq ok
    go_enter Try.func53, Try.ntmps53
    go_wp2_with fail
    rw [← HW.out]
    refine LS.out.mono ?_
    rintro e w1 ⟨he, bb⟩
    have he : e = .returned (.tuple #[.agg #[.slice A m cs, .slice V r cv], .bool true]) := he
    subst he
    obtain ⟨sb, hsb⟩ : ∃ sb, w1.heap.size = sb := ⟨_, rfl⟩
    have HSB := hid (show w1.heap.size = sb ∧ True from ⟨hsb, trivial⟩)
    have H1 := hid (show Row (w1.alloc (.cells #[.slice A m cs, .slice V r cv] 65)) sb 65 #[.slice A m cs, .slice V r cv] ∧ Row (w1.alloc (.cells #[.slice A m cs, .slice V r cv] 65)) (w.heap.size + 1) 65 #[.slice none 0 0, .slice none 0 0] ∧ Below w.heap.size w (w1.alloc (.cells #[.slice A m cs, .slice V r cv] 65)) from ⟨by rw [← HSB.out.1]; exact Row.new _ _ _, (rR.next bb).alloc _, (next_trans bel bb).alloc (next_trans bel bb).size _⟩)
    clear bb bel rA rR LS HW
    go_wp2_with fail
    try rw [hsb]
    clear hsb
    go_loopg [9, 28] xn (fun g b_ i_ wr => ∃ (i : Nat) (b : Bool), b_ = .bool b ∧ i_ = .int .i64 (i : Int) ∧ i + g = xn ∧ b = (D.take i).all (termOkB d.1) ∧ Row wr sb 65 #[.slice A m cs, .slice V r cv] ∧ Row wr (w.heap.size + 1) 65 #[.slice none 0 0, .slice none 0 0] ∧ Below w.heap.size w wr)
    case atStart => exact ⟨0, true, rfl, rfl, by omega, rfl, H1.out⟩
    case round =>
     obtain ⟨i, bo, rfl, rfl, hg, hbo, rs, rr, bel⟩ := hrel
     by_cases hi : i < xn
     ·obtain ⟨b, off, T, tn, tc, rfl, hb, cT, sT, hcT⟩ := rd_term HX.out.1 bel hi
      have i0 : (0 : Int) ≤ (i : Int) := by omega
      have i1 : (i : Int) < (xn : Int) := by omega
      have hil : i < D.length := by rw [HX.out.2.1]; exact hi
      have HB := hid (show (D.take (i + 1)).all (termOkB d.1) = (bo && termOkB d.1 (D.getD i [])) from by rw [List.take_succ_eq_append_getElem hil, List.all_append, ← hbo]; simp [List.getD, hil])
      have HG := hid (show i + gk = xn ∧ Row wr sb 65 #[.slice A m cs, .slice V r cv] ∧ Row wr (w.heap.size + 1) 65 #[.slice none 0 0, .slice none 0 0] ∧ Below w.heap.size w wr from ⟨hg, rs, rr, bel⟩)
      have k0 : wr.cell? ⟨sb, 0, none⟩ = some (.slice A m cs) := rs.cell 0
      have htn : tn ≤ 1048576 := by rw [← sT.1]; exact hD i
      have LT := hid (implTermOk A T m cs tn tc d.1 (D.getD i []) wr (HX.out.2.2.next bel) (sT.more bel.size) hm htn)
      clear hg rs rr bel sT hcT hbo
      cases bo with
      | false =>
       go_wp2
       go_roundg (gk - 1)
       case measure => have := HG.out.1; omega
       case rel => exact ⟨i + 1, false, rfl, by simp, by have := HG.out.1; omega, by rw [HB.out]; rfl, HG.out.2⟩
      | true =>
       obtain ⟨bt, hbt⟩ : ∃ b, termOkB d.1 (D.getD i []) = b := ⟨_, rfl⟩
       have HBT := hid hbt
       clear hbt
       go_wp2_with fail
       refine LT.out.mono ?_
       rintro e w2 ⟨rfl, bb⟩
       rw [HBT.out]
       have F := hid (show Row w2 sb 65 #[.slice A m cs, .slice V r cv] ∧ Row w2 (w.heap.size + 1) 65 #[.slice none 0 0, .slice none 0 0] ∧ Below w.heap.size w w2 from ⟨HG.out.2.1.next bb, HG.out.2.2.1.next bb, next_trans HG.out.2.2.2 bb⟩)
       have G := hid (show i + gk = xn ∧ (D.take (i + 1)).all (termOkB d.1) = bt from ⟨HG.out.1, by rw [HB.out, HBT.out]; rfl⟩)
       clear bb LT HG k0 HB HBT
       go_wp2
       go_roundg (gk - 1)
       case measure => have := G.out.1; omega
       case rel => exact ⟨i + 1, bt, rfl, by simp, by have := G.out.1; omega, G.out.2.symm, F.out⟩
     ·have i1 : ¬ (i : Int) < (xn : Int) := by omega
      have HB := hid (show bo = q from by rw [HQ.out, hbo, List.take_of_length_le (by rw [HX.out.2.1]; omega)])
      clear hg hbo
      have c0 : wr.cell? ⟨sb, 0, none⟩ = some (.slice A m cs) := rs.cell 0
      have c1 : wr.cell? ⟨sb, 1, none⟩ = some (.slice V r cv) := rs.cell 1
      have y0 : wr.cell? ⟨w.heap.size + 1, 0, none⟩ = some (.slice none 0 0) := rr.cell 0
      have y1 : wr.cell? ⟨w.heap.size + 1, 1, none⟩ = some (.slice none 0 0) := rr.cell 1
      have g0 := rr.free 0
      have g1 := rr.free 1
      have ra := Row.put rr 0 (.slice A m cs)
      have y2 : (wr.setCell ⟨w.heap.size + 1, 0, none⟩ (.slice A m cs)).cell? ⟨w.heap.size + 1, 1, none⟩ = some (.slice none 0 0) := ra.cell 1
      have g2 := ra.free 1
      have rb := Row.put ra 1 (.slice V r cv)
      have u0 : ((wr.setCell ⟨w.heap.size + 1, 0, none⟩ (.slice A m cs)).setCell ⟨w.heap.size + 1, 1, none⟩ (.slice V r cv)).cell? ⟨w.heap.size + 1, 0, none⟩ = some (.slice A m cs) := rb.cell 0
      have u1 : ((wr.setCell ⟨w.heap.size + 1, 0, none⟩ (.slice A m cs)).setCell ⟨w.heap.size + 1, 1, none⟩ (.slice V r cv)).cell? ⟨w.heap.size + 1, 1, none⟩ = some (.slice V r cv) := rb.cell 1
      have FZ : AnsSrc w (.slice A m cs) (.slice V r cv) q (.returned (.tuple #[.agg #[.slice A m cs, .slice V r cv], .bool bo])) ((wr.setCell ⟨w.heap.size + 1, 0, none⟩ (.slice A m cs)).setCell ⟨w.heap.size + 1, 1, none⟩ (.slice V r cv)) := ⟨A, m, cs, V, r, cv, bo, rfl, HB.out, fun _ => ⟨rfl, rfl⟩, (bel.setCell (by show _ ≤ w.heap.size + 1; omega) _).setCell (by show _ ≤ w.heap.size + 1; omega) _⟩
      have HFZ := hid FZ
      clear FZ ra rb rs rr bel HQ
      go_wp2
      exact bodyPost_ret (v := .tuple #[.agg #[.slice A m cs, .slice V r cv], .bool bo]) (by simp [results, Try.results53, go_sem, u0, u1]) rfl HFZ.out
   ·have HQ := hid (show false = q from by rw [← hq]; unfold srcB; rw [ok, steps_out (fun h => hn1 h.2)]; rfl)
    clear hq ok
    go_enter Try.func53, Try.ntmps53
    go_wp2_with fail
    rw [← HW.out]
    refine LS.out.mono ?_
    rintro e w1 ⟨he, bb⟩
    have he : e = .returned (.tuple #[.agg #[.slice A m cs, .slice V r cv], .bool true]) := he
    subst he
    obtain ⟨sb, hsb⟩ : ∃ sb, w1.heap.size = sb := ⟨_, rfl⟩
    have HSB := hid (show w1.heap.size = sb ∧ True from ⟨hsb, trivial⟩)
    have H1 := hid (show Row (w1.alloc (.cells #[.slice A m cs, .slice V r cv] 65)) sb 65 #[.slice A m cs, .slice V r cv] ∧ Row (w1.alloc (.cells #[.slice A m cs, .slice V r cv] 65)) (w.heap.size + 1) 65 #[.slice none 0 0, .slice none 0 0] ∧ Below w.heap.size w (w1.alloc (.cells #[.slice A m cs, .slice V r cv] 65)) from ⟨by rw [← HSB.out.1]; exact Row.new _ _ _, (rR.next bb).alloc _, (next_trans bel bb).alloc (next_trans bel bb).size _⟩)
    clear bb bel rA rR LS HW
    go_wp2_with fail
    try rw [hsb]
    clear hsb
    go_loopg [9, 28] xn (fun g b_ i_ wr => ∃ i : Nat, b_ = .bool false ∧ i_ = .int .i64 (i : Int) ∧ i + g = xn ∧ Row wr sb 65 #[.slice A m cs, .slice V r cv] ∧ Row wr (w.heap.size + 1) 65 #[.slice none 0 0, .slice none 0 0] ∧ Below w.heap.size w wr)
    case atStart => exact ⟨0, by first | rfl | rw [decide_eq_false (by omega)], rfl, by omega, H1.out⟩
    case round =>
     obtain ⟨i, rfl, rfl, hg, rs, rr, bel⟩ := hrel
     by_cases hi : i < xn
     ·obtain ⟨b, off, T, tn, tc, rfl, hb, cT, -, -⟩ := rd_term HX.out.1 bel hi
      have i0 : (0 : Int) ≤ (i : Int) := by omega
      have i1 : (i : Int) < (xn : Int) := by omega
      have F := hid (show i + gk = xn ∧ Row wr sb 65 #[.slice A m cs, .slice V r cv] ∧ Row wr (w.heap.size + 1) 65 #[.slice none 0 0, .slice none 0 0] ∧ Below w.heap.size w wr from ⟨hg, rs, rr, bel⟩)
      clear hg rs rr bel
      go_wp2
      go_roundg (gk - 1)
      case measure => have := F.out.1; omega
      case rel => exact ⟨i + 1, rfl, by simp, by have := F.out.1; omega, F.out.2⟩
     ·have i1 : ¬ (i : Int) < (xn : Int) := by omega
      clear hg
      have c0 : wr.cell? ⟨sb, 0, none⟩ = some (.slice A m cs) := rs.cell 0
      have c1 : wr.cell? ⟨sb, 1, none⟩ = some (.slice V r cv) := rs.cell 1
      have y0 : wr.cell? ⟨w.heap.size + 1, 0, none⟩ = some (.slice none 0 0) := rr.cell 0
      have y1 : wr.cell? ⟨w.heap.size + 1, 1, none⟩ = some (.slice none 0 0) := rr.cell 1
      have g0 := rr.free 0
      have g1 := rr.free 1
      have ra := Row.put rr 0 (.slice A m cs)
      have y2 : (wr.setCell ⟨w.heap.size + 1, 0, none⟩ (.slice A m cs)).cell? ⟨w.heap.size + 1, 1, none⟩ = some (.slice none 0 0) := ra.cell 1
      have g2 := ra.free 1
      have rb := Row.put ra 1 (.slice V r cv)
      have u0 : ((wr.setCell ⟨w.heap.size + 1, 0, none⟩ (.slice A m cs)).setCell ⟨w.heap.size + 1, 1, none⟩ (.slice V r cv)).cell? ⟨w.heap.size + 1, 0, none⟩ = some (.slice A m cs) := rb.cell 0
      have u1 : ((wr.setCell ⟨w.heap.size + 1, 0, none⟩ (.slice A m cs)).setCell ⟨w.heap.size + 1, 1, none⟩ (.slice V r cv)).cell? ⟨w.heap.size + 1, 1, none⟩ = some (.slice V r cv) := rb.cell 1
      have FZ : AnsSrc w (.slice A m cs) (.slice V r cv) q (.returned (.tuple #[.agg #[.slice A m cs, .slice V r cv], .bool false])) ((wr.setCell ⟨w.heap.size + 1, 0, none⟩ (.slice A m cs)).setCell ⟨w.heap.size + 1, 1, none⟩ (.slice V r cv)) := ⟨A, m, cs, V, r, cv, false, rfl, HQ.out, (fun e => by cases e), (bel.setCell (by show _ ≤ w.heap.size + 1; omega) _).setCell (by show _ ≤ w.heap.size + 1; omega) _⟩
      have HFZ := hid FZ
      clear FZ ra rb rs rr bel HQ
      go_wp2
      exact bodyPost_ret (v := .tuple #[.agg #[.slice A m cs, .slice V r cv], .bool false]) (by simp [results, Try.results53, go_sem, u0, u1]) rfl HFZ.out
  ·have HQ := hid (show false = q from by rw [← hq]; unfold srcB; rw [ok, steps_out (fun h => hn0 h.1)]; rfl)
   clear hq ok
   go_enter Try.func53, Try.ntmps53
   go_wp2_with fail
   rw [← HW.out]
   refine LS.out.mono ?_
   rintro e w1 ⟨he, bb⟩
   have he : e = .returned (.tuple #[.agg #[.slice A m cs, .slice V r cv], .bool true]) := he
   subst he
   obtain ⟨sb, hsb⟩ : ∃ sb, w1.heap.size = sb := ⟨_, rfl⟩
   have HSB := hid (show w1.heap.size = sb ∧ True from ⟨hsb, trivial⟩)
   have H1 := hid (show Row (w1.alloc (.cells #[.slice A m cs, .slice V r cv] 65)) sb 65 #[.slice A m cs, .slice V r cv] ∧ Row (w1.alloc (.cells #[.slice A m cs, .slice V r cv] 65)) (w.heap.size + 1) 65 #[.slice none 0 0, .slice none 0 0] ∧ Below w.heap.size w (w1.alloc (.cells #[.slice A m cs, .slice V r cv] 65)) from ⟨by rw [← HSB.out.1]; exact Row.new _ _ _, (rR.next bb).alloc _, (next_trans bel bb).alloc (next_trans bel bb).size _⟩)
   clear bb bel rA rR LS HW
   go_wp2_with fail
   try rw [hsb]
   clear hsb
   go_loopg [9, 28] xn (fun g b_ i_ wr => ∃ i : Nat, b_ = .bool false ∧ i_ = .int .i64 (i : Int) ∧ i + g = xn ∧ Row wr sb 65 #[.slice A m cs, .slice V r cv] ∧ Row wr (w.heap.size + 1) 65 #[.slice none 0 0, .slice none 0 0] ∧ Below w.heap.size w wr)
   case atStart => exact ⟨0, by first | rfl | rw [decide_eq_false (by omega)], rfl, by omega, H1.out⟩
   case round =>
    obtain ⟨i, rfl, rfl, hg, rs, rr, bel⟩ := hrel
    by_cases hi : i < xn
    ·obtain ⟨b, off, T, tn, tc, rfl, hb, cT, -, -⟩ := rd_term HX.out.1 bel hi
     have i0 : (0 : Int) ≤ (i : Int) := by omega
     have i1 : (i : Int) < (xn : Int) := by omega
     have F := hid (show i + gk = xn ∧ Row wr sb 65 #[.slice A m cs, .slice V r cv] ∧ Row wr (w.heap.size + 1) 65 #[.slice none 0 0, .slice none 0 0] ∧ Below w.heap.size w wr from ⟨hg, rs, rr, bel⟩)
     clear hg rs rr bel
     go_wp2
     go_roundg (gk - 1)
     case measure => have := F.out.1; omega
     case rel => exact ⟨i + 1, rfl, by simp, by have := F.out.1; omega, F.out.2⟩
    ·have i1 : ¬ (i : Int) < (xn : Int) := by omega
     clear hg
     have c0 : wr.cell? ⟨sb, 0, none⟩ = some (.slice A m cs) := rs.cell 0
     have c1 : wr.cell? ⟨sb, 1, none⟩ = some (.slice V r cv) := rs.cell 1
     have y0 : wr.cell? ⟨w.heap.size + 1, 0, none⟩ = some (.slice none 0 0) := rr.cell 0
     have y1 : wr.cell? ⟨w.heap.size + 1, 1, none⟩ = some (.slice none 0 0) := rr.cell 1
     have g0 := rr.free 0
     have g1 := rr.free 1
     have ra := Row.put rr 0 (.slice A m cs)
     have y2 : (wr.setCell ⟨w.heap.size + 1, 0, none⟩ (.slice A m cs)).cell? ⟨w.heap.size + 1, 1, none⟩ = some (.slice none 0 0) := ra.cell 1
     have g2 := ra.free 1
     have rb := Row.put ra 1 (.slice V r cv)
     have u0 : ((wr.setCell ⟨w.heap.size + 1, 0, none⟩ (.slice A m cs)).setCell ⟨w.heap.size + 1, 1, none⟩ (.slice V r cv)).cell? ⟨w.heap.size + 1, 0, none⟩ = some (.slice A m cs) := rb.cell 0
     have u1 : ((wr.setCell ⟨w.heap.size + 1, 0, none⟩ (.slice A m cs)).setCell ⟨w.heap.size + 1, 1, none⟩ (.slice V r cv)).cell? ⟨w.heap.size + 1, 1, none⟩ = some (.slice V r cv) := rb.cell 1
     have FZ : AnsSrc w (.slice A m cs) (.slice V r cv) q (.returned (.tuple #[.agg #[.slice A m cs, .slice V r cv], .bool false])) ((wr.setCell ⟨w.heap.size + 1, 0, none⟩ (.slice A m cs)).setCell ⟨w.heap.size + 1, 1, none⟩ (.slice V r cv)) := ⟨A, m, cs, V, r, cv, false, rfl, HQ.out, (fun e => by cases e), (bel.setCell (by show _ ≤ w.heap.size + 1; omega) _).setCell (by show _ ≤ w.heap.size + 1; omega) _⟩
     have HFZ := hid FZ
     clear FZ ra rb rs rr bel HQ
     go_wp2
     exact bodyPost_ret (v := .tuple #[.agg #[.slice A m cs, .slice V r cv], .bool false]) (by simp [results, Try.results53, go_sem, u0, u1]) rfl HFZ.out
end longest
end
section
namespace longest
open Go.RowKit base ints sig term termOk marks app sym sub segs segsHelp termFacts varsOf shape kindsR kindsW ruleMath ruleSpec ruleImpl stepMath walkMath stepSpec stepImpl reachMath findW findSpec bySpec iter
set_option maxRecDepth 100000
end longest
end
section
namespace reachImplB
open Go.RowKit base ints sig term termOk marks app appAt sym sub segs segsHelp termFacts varsOf shape kindsR kindsW ruleMath ruleSpec ruleImpl stepMath walkMath stepSpec stepImpl reachMath findW findSpec bySpec iter longest ownL reachImpl known pickOwn reachSpec drawX
set_option maxRecDepth 100000
theorem seg_ad {w : World} {B m : Nat} {T : Option Addr} {t : List Int} (h : Seg w B T m t) (h0 : 0 < m) : ∃ b off, T = some ⟨b, off, none⟩ := by
 obtain ⟨b, off, e, -⟩ := h.2 h0
 exact ⟨b, off, e⟩
theorem right_pos {sg : List Int} {rs : List Rl} {t : List Int} (h : rightB sg rs t = true) : 0 < t.length := by
 unfold rightB at h
 rw [Bool.and_eq_true] at h
 exact (term_len h.2).1
theorem _root_.Go.Proofs.Ytblhmplpcdcejaa.reachSpec.AnsTs.next {w w1 w2 : World} {D : List (List Int)} {b : Bool} {e : Ending} (h : AnsTs w D b e w1) (hb : Below w1.heap.size w1 w2) : AnsTs w D b e w2 := by
 obtain ⟨A, n, c, h1, h2, h3⟩ := h
 exact ⟨A, n, c, h1, (h2.next hb).wider (Nat.le_refl _) hb.size, next_trans h3 hb⟩
end reachImplB
end
end Go.Proofs.Ytblhmplpcdcejaa
