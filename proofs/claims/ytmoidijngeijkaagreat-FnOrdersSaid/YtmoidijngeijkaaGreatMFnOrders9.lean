/-
  MERGED: my texts Iter, NormImpl, RangeGive, RangePre, StepsIter, SeqImpl, Places, OrderImpl, OrderImplB, Strat, PickImpl, one behind the other, as they are. By an AI agent.
-/
import Derived.Test.YtmoidijngeijkaaGreatMFnOrders8
import Derived.RangeFuncNested
import Derived.RangeFuncBound
import Derived.RangeFuncCalls
import Derived.RangeFuncLeaves
import Derived.Shelf.Abstract
import Derived.Shelf.RegionOpen
import Derived.WalkKit
import Derived.OwnWalkIn
import Derived.TacticsInMore
import Derived.LoopNIn
import Derived.LoopIn
import Derived.BigQuiet
import Derived.Maps.Own
namespace Go.Proofs.YtmoidijngeijkaaGreat
section
open Go.Lib (hid)
namespace iter
open Go.RowKit Go.Shelf base ints sig term termOk endAt endOf marks app sym sub segs segsHelp matchMath matchSpec whole extended termFacts shape kindsR ruleMath ruleSpec stepMath walkMath stepSpec stepImpl
set_option maxRecDepth 100000
attribute [local go_sem] Oper.semAt_some
def rowL (sg : List Int) (rs : List Rl) (t : List Int) (x k : Nat) : List (Nat × Nat) := (List.range k).filterMap fun r => if redB sg (rs.getD r ([], [])) t x = true then some (x, r) else none
def comeL (sg : List Int) (rs : List Rl) (t : List Int) (x : Nat) : List (Nat × Nat) := (List.range x).flatMap fun a => rowL sg rs t a rs.length
def redL (sg : List Int) (rs : List Rl) (t : List Int) : List (Nat × Nat) := comeL sg rs t t.length
section
variable {sg : List Int} {rs : List Rl} {t : List Int}
theorem row_yes {x k : Nat} (h : redB sg (rs.getD k ([], [])) t x = true) : rowL sg rs t x (k + 1) = rowL sg rs t x k ++ [(x, k)] := by unfold rowL; rw [List.range_succ, List.filterMap_append]; simp only [List.filterMap_cons, List.filterMap_nil, h, if_true]
theorem row_no {x k : Nat} (h : redB sg (rs.getD k ([], [])) t x = false) : rowL sg rs t x (k + 1) = rowL sg rs t x k := by unfold rowL; rw [List.range_succ, List.filterMap_append]; simp only [List.filterMap_cons, List.filterMap_nil, h, Bool.false_eq_true, if_false, List.append_nil]
theorem come_succ (x : Nat) : comeL sg rs t (x + 1) = comeL sg rs t x ++ rowL sg rs t x rs.length := by unfold comeL; rw [List.range_succ, List.flatMap_append]; simp
theorem come_pre {x y : Nat} (h : x ≤ y) : comeL sg rs t x <+: comeL sg rs t y := by
 induction y with
 | zero =>
  obtain rfl : x = 0 := by omega
  exact List.prefix_rfl
 | succ y ih =>
  by_cases e : x = y + 1
  ·subst e; exact List.prefix_rfl
  ·exact (ih (by omega)).trans (by rw [come_succ]; exact List.prefix_append _ _)
theorem row_pre {x k q : Nat} (h : k ≤ q) : rowL sg rs t x k <+: rowL sg rs t x q := by
 induction q with
 | zero =>
  obtain rfl : k = 0 := by omega
  exact List.prefix_rfl
 | succ q ih =>
  by_cases e : k = q + 1
  ·subst e; exact List.prefix_rfl
  ·refine (ih (by omega)).trans ?_
   cases hb : redB sg (rs.getD q ([], [])) t x with
   | false => rw [row_no hb]; exact List.prefix_rfl
   | true => rw [row_yes hb]; exact List.prefix_append _ _
theorem part_pre {x k : Nat} (hx : x < t.length) (hk : k ≤ rs.length) : comeL sg rs t x ++ rowL sg rs t x k <+: redL sg rs t := by
 refine List.IsPrefix.trans ?_ (come_pre (show x + 1 ≤ t.length by omega))
 rw [come_succ]
 exact (List.prefix_append_right_inj _).2 (row_pre hk)
theorem red_nil : redL sg rs t = [] ↔ ((List.range t.length).all fun a => rs.all fun x => !redB sg x t a) = true := by
 unfold redL comeL rowL
 rw [List.flatMap_eq_nil_iff, List.all_eq_true]
 refine forall_congr' fun a => forall_congr' fun _ => ?_
 rw [List.filterMap_eq_nil_iff, List.all_eq_true]
 constructor
 ·intro h y hy
  obtain ⟨i, hi, rfl⟩ := List.getElem_of_mem hy
  have h1 := h i (List.mem_range.2 hi)
  have e : rs.getD i ([], []) = rs[i] := by simp only [List.getD, List.getElem?_eq_getElem hi, Option.getD_some]
  rw [e] at h1
  cases hb : redB sg rs[i] t a
  ·rfl
  ·rw [hb] at h1; simp at h1
 ·intro h i hi
  have hi := List.mem_range.1 hi
  have e : rs.getD i ([], []) = rs[i] := by simp only [List.getD, List.getElem?_eq_getElem hi, Option.getD_some]
  have := h rs[i] (List.getElem_mem hi)
  rw [e, if_neg (by simpa using this)]
end
section
variable {P : Program} {n : Nat} {ops : Array Oper} {rest : List Oper} {o : Oper} {a : Act} {w : World} {Q : Exit → Act → World → Prop}
theorem rowAllocIn (hgd : o.guard = none) (t : TypeId) (ho : o.op = .alloc t) (z : Array Value) (hz : ∀ w, (zeroValue t).run P w = .ok (.agg z) w)
  (h : wpListIn Fence.wide n P ops Q rest (a.put o.dst (.pointer (some ⟨w.heap.size, 0, none⟩))) (w.alloc (.cells z t))) : wpListIn Fence.wide n P ops Q (o :: rest) a w :=
 wpListIn_plain hgd fun _ hK => by
  refine ⟨fun _ _ => trivial, ?_⟩
  show Oper.uponIn _ _ _ _ _ _ _ ((Oper.semAt none a.eval o).run P w)
  rw [Oper.semAt_none]
  unfold execOp
  simp only [ho, Instr.alloc, Sem.run_bind, hz, Result.andThen_ok, newVar, Value.cells]
  exact hK _ _ h
theorem rowStoreIn (hgd : o.guard = none) (ty : TypeId) (x y : Operand) (ho : o.op = .store ty x y) (g : Nat) (cells old : Array Value) (t : TypeId) (hx : a.eval x = .pointer (some ⟨g, 0, none⟩)) (hy : a.eval y = .agg cells)
  (hg : w.heap[g]? = some (.cells old t (0, 0))) (hi : (P.info? ty).map (·.size) = some cells.size) (hs : old.size = cells.size) (h1 : cells.all (·.oneCell') = true)
  (h : wpListIn Fence.wide n P ops Q rest (a.put o.dst undef) (w.setRow g cells)) : wpListIn Fence.wide n P ops Q (o :: rest) a w :=
 wpListIn_plain hgd fun _ hK => by
  refine ⟨fun _ _ => trivial, ?_⟩
  show Oper.uponIn _ _ _ _ _ _ _ ((Oper.semAt none a.eval o).run P w)
  rw [Oper.semAt_none]
  unfold execOp
  simp only [ho, hx, hy, Instr.storeAt, Instr.sureAddr, Sem.run_bind, Sem.run_pure, Result.andThen_ok, run_storeVar_row w g t ty old cells hg hi hs h1]
  exact hK _ _ h
end
def SeqPre {α : Type} (n : Nat) (P : Program) (g : Nat) (lb : Array Value) (encs : α → Array Value) (Kp : World → World → Prop) (xs : List α) (w : World) : Prop :=
 ∀ (l : Nat) (J Jx : List α → World → Prop) (W : World), Below w.heap.size w W → AbidesFrom W.heap.size J → AbidesFrom W.heap.size Jx →
  (∀ pre x W1, J pre W1 → pre ++ [x] <+: xs → YieldAt Fence.wide (n - 1) P l (encs x) W1 fun e W' => (e = .returned (.bool true) ∧ J (pre ++ [x]) W' ∧ Kp W1 W') ∨ (e = .returned (.bool false) ∧ Jx (pre ++ [x]) W')) →
  J [] W → CallsIn Fence.wide n P g (#[.func (.yield l) #[] #[]] ++ lb) W fun e W' => (∃ v, e = .returned v) ∧ ((∃ ys, ys = xs ∧ J ys W') ∨ (∃ pre, (pre ≠ [] ∧ pre <+: xs) ∧ Jx pre W'))
def Kr (n₀ B2 B3 : Nat) (A B : World) : Prop := Below n₀ A B ∧ B.heap[B2]? = A.heap[B2]? ∧ B.heap[B3]? = A.heap[B3]?
theorem Kr.refl (n₀ B2 B3 : Nat) (A : World) : Kr n₀ B2 B3 A A := ⟨Below.refl _ _, rfl, rfl⟩
theorem Kr.trans {n₀ B2 B3 : Nat} {A B C : World} (h : Kr n₀ B2 B3 A B) (k : Kr n₀ B2 B3 B C) : Kr n₀ B2 B3 A C := ⟨h.1.trans k.1, k.2.1.trans h.2.1, k.2.2.trans h.2.2⟩
theorem Kr.of_below {n₀ B2 B3 : Nat} {A B : World} (h : Below A.heap.size A B) (h1 : n₀ ≤ A.heap.size) (h2 : B2 < A.heap.size) (h3 : B3 < A.heap.size) : Kr n₀ B2 B3 A B := ⟨h.mono h1, h.block _ h2, h.block _ h3⟩
theorem Kr.row2 {n₀ B2 B3 : Nat} {A B : World} {t : TypeId} {cs : Array Value} (h : Kr n₀ B2 B3 A B) (r : Row A B2 t cs) : Row B B2 t cs := h.2.1.trans r
theorem Kr.row3 {n₀ B2 B3 : Nat} {A B : World} {t : TypeId} {cs : Array Value} (h : Kr n₀ B2 B3 A B) (r : Row A B3 t cs) : Row B B3 t cs := h.2.2.trans r
set_option maxHeartbeats 4000000 in
theorem redexes_stopsK (n : Nat) (hn : 1 ≤ n) (B2 B3 n₀ : Nat) (a v u : Value) (d : Dat sSystem) (t : List Int) (w : World) (hn₀ : n₀ ≤ w.heap.size) (r2 : Row w B2 65 #[a, v]) (r3 : Row w B3 24 #[u])
  (h : Rd w n₀ sSystem [a, v] d) (ht : Rd w n₀ sI [u] t) (hz : sz sSystem d ≤ 1048576) (hok : rightB d.1 d.2 t = true) :
  SeqPre n Tryz.prog 100 #[.pointer (some ⟨B3, 0, none⟩), .pointer (some ⟨B2, 0, none⟩)] (fun x : Nat × Nat => #[Value.int .i64 (x.1 : Int), .int .i64 (x.2 : Int)]) (Kr n₀ B2 B3) (redL d.1 d.2 t) w := fun l J Jx W hW hJ hJx hY h0 => by
 have hWn := hW.mono hn₀
 replace r2 := r2.next hW
 replace r3 := r3.next hW
 replace h := h.below hWn
 replace ht := ht.below hWn
 have hsW : n₀ ≤ W.heap.size := Nat.le_trans hn₀ hW.size
 obtain ⟨A, m0, cs, V, q, cv, rfl, rfl, -, -, -, hq, -, hq1, -, -, -⟩ := rd_sys (h.more hsW) hz
 obtain ⟨T, m, c, rfl, hT, hcT⟩ := rd_ints.1 ht
 have htl : t.length = m := hT.1
 have hm60 : m ≤ 60 := by have := (term_len (right_parts hok).2).2; omega
 have hmx : m ≤ 1048576 := by omega
 have K3 : W.cell? ⟨B3, 0, none⟩ = some (.slice T m c) := r3.cell 0
 have HQ := hid hq
 have HTL := hid htl
 have LM := hid (fun (w1 : World) (bb : Below n₀ W w1) (x k : Nat) hx hk => matchAt _ _ _ d t x k w1 ((h.below bb).more (Nat.le_trans hsW bb.size)) ((ht.below bb).more (Nat.le_trans hsW bb.size)) hz hok hx hk)
 have HJ := hid hJ
 have HOK := hid (show (∀ k, k < d.2.length → ruleOkB d.1 (d.2.getD k ([], [])) = true) ∧ termOkB d.1 t = true from ⟨fun k hk => sys_rule (right_parts hok).1 hk, (right_parts hok).2⟩)
 have HR2 := hid r2
 have HR3 := hid r3
 clear hT hcT h ht hz hok hq htl hW hWn hn₀ r2 r3
 refine callsIn_of_wp Tryz.func100 rfl trivial ?_ rfl
 simp only [Tryz.ntmps100, List.size_toArray, List.length_cons, List.length_nil, Nat.reduceAdd, Nat.reduceSub, Array.replicate_succ, Array.replicate_zero, List.push_toArray, List.append_toArray, List.nil_append, List.cons_append]
 gi_wp2
 gi_loopw [10] (fun i wr => ∃ x : Nat, x ≤ m ∧ i = .int .i64 x ∧ J (comeL d.1 d.2 t x) wr ∧ Kr n₀ B2 B3 W wr) (fun i _ => m - (intOf i).toNat)
 case atStart => exact ⟨0, Nat.zero_le _, rfl, h0, Kr.refl _ _ _ _⟩
 case round =>
  obtain ⟨x, hx, rfl, hJx0, hB⟩ := hrel
  by_cases hlt : x < m
  ·have K2 : wr.cell? ⟨B2, 1, none⟩ = some (.slice V q cv) := (hB.row2 HR2.out).cell 1
   have hxm : (x : Int) < (m : Int) := by omega
   gi_wp2
   gi_loopw [16] (fun i wq => ∃ k : Nat, k ≤ q ∧ i = .int .i64 k ∧ J (comeL d.1 d.2 t x ++ rowL d.1 d.2 t x k) wq ∧ Kr n₀ B2 B3 W wq) (fun i _ => q - (intOf i).toNat)
   case atStart => exact ⟨0, Nat.zero_le _, rfl, by simpa [rowL] using hJx0, hB⟩
   case round =>
    obtain ⟨k, hk, rfl, hJk, hBk⟩ := hrel
    have K20 : wr.cell? ⟨B2, 0, none⟩ = some (.slice A m0 cs) := (hBk.row2 HR2.out).cell 0
    have K21 : wr.cell? ⟨B2, 1, none⟩ = some (.slice V q cv) := (hBk.row2 HR2.out).cell 1
    have K30 : wr.cell? ⟨B3, 0, none⟩ = some (.slice T m c) := (hBk.row3 HR3.out).cell 0
    by_cases hkq : k < q
    ·have hkm : (k : Int) < (q : Int) := by omega
     have hxl : x < t.length := by rw [HTL.out]; exact hlt
     have hkl : k < d.2.length := by rw [HQ.out]; exact hkq
     have LM1 := hid (LM.out wr hBk.1 x k hxl hkl)
     have HRED := hid (red_at (sg := d.1) (t := t) (a := x) (HOK.out.1 k hkl) HOK.out.2 hxl)
     obtain ⟨R, hR⟩ : ∃ R, mst d.1 t (d.2.getD k ([], [])).1 x s0 = R := ⟨_, rfl⟩
     rw [hR] at LM1 HRED
     clear hR
     have HJK := hid hJk
     have HBK := hid hBk
     clear hJk hBk
     gi_wp2_with (refine ⟨trivial, ?_⟩; gi_at_call 101; refine (callsIn_wide.2 LM1.out).mono ?_; rintro e w3 ⟨rs, rfl, tab, hsz, bb⟩; refine (?_ : Hid _).out)
     have one := hid tab.one
     have h24 := hid tab.1
     obtain ⟨bo, hbo⟩ : ∃ bo, R.isSome = bo := ⟨_, rfl⟩
     rw [hbo] at HRED ⊢
     have b2 : Below wr.heap.size wr (w3.alloc (.cells rs 138)) := bb.alloc bb.size _
     have hJ3 := HJ.out _ wr (w3.alloc (.cells rs 138)) none HJK.out (cursor.grown_below b2 none) (fun r e => by cases e)
     have hBn : Kr n₀ B2 B3 W (w3.alloc (.cells rs 138)) := HBK.out.trans (Kr.of_below b2 (Nat.le_trans hsW HBK.out.1.size) (HBK.out.row2 HR2.out).lt (HBK.out.row3 HR3.out).lt)
     have hfull : comeL d.1 d.2 t x ++ rowL d.1 d.2 t x (k + 1) <+: redL d.1 d.2 t := part_pre hxl hkl
     clear tab hsz bb hbo LM1 b2 K20 K21 K30
     cases bo with
     | false =>
      have F := hid (show J (comeL d.1 d.2 t x ++ rowL d.1 d.2 t x (k + 1)) (w3.alloc (.cells rs 138)) ∧ Kr n₀ B2 B3 W (w3.alloc (.cells rs 138)) from ⟨by rw [row_no HRED.out.symm]; exact hJ3, hBn⟩)
      clear hJ3 hBn hfull
      refine hid ?_
      gi_wp2_with (first
       | (refine rowAllocIn rfl 138 rfl z24 zero_b ?_)
       | (refine rowStoreIn rfl 138 _ _ rfl w3.heap.size rs z24 138 rfl rfl (heap_alloc_new w3 _) (by rw [h24.out]; exact size_b) (by rw [h24.out]; rfl) one.out ?_; rw [World.setRow_alloc_new]))
      refine ⟨fun _ h => (by cases h), ?_⟩
      gi_wp2
      go_roundw
      case rel => exact ⟨k + 1, by omega, by simp, F.out.1, F.out.2⟩
      case measure => simp [intOf]; omega
     | true =>
      have hyes := row_yes (rs := d.2) (x := x) (k := k) HRED.out.symm
      rw [hyes, ← List.append_assoc] at hfull
      obtain ⟨fn, tmps, assign, body, hy, hR⟩ := hY _ (x, k) _ hJ3 hfull
      dsimp only at hy
      have HYES := hid hyes
      have HF := hid hfull
      clear hJ3 hyes hfull hY
      refine hid ?_
      gi_wp2_with (first
       | (refine rowAllocIn rfl 138 rfl z24 zero_b ?_)
       | (refine rowStoreIn rfl 138 _ _ rfl w3.heap.size rs z24 138 rfl rfl (heap_alloc_new w3 _) (by rw [h24.out]; exact size_b) (by rw [h24.out]; rfl) one.out ?_; rw [World.setRow_alloc_new]))
      refine hR.mono ?_
      rintro e W3 (⟨rfl, hJ4, hk4⟩ | ⟨rfl, hJx4⟩)
      ·have F := hid (show J (comeL d.1 d.2 t x ++ rowL d.1 d.2 t x (k + 1)) W3 ∧ Kr n₀ B2 B3 W W3 from ⟨by rw [HYES.out, ← List.append_assoc]; exact hJ4, hBn.trans hk4⟩)
       clear hJ4 hk4 hBn
       gi_wp2
       go_roundw
       case rel => exact ⟨k + 1, by omega, by simp, F.out.1, F.out.2⟩
       case measure => simp [intOf]; omega
      ·gi_wp2
       refine bodyPost_ret (results_none rfl _ _ _) rfl ?_
       exact ⟨⟨_, rfl⟩, .inr ⟨_, ⟨by simp, HF.out⟩, hJx4⟩⟩
    ·obtain rfl : k = q := by omega
     gi_wp2
     go_roundw
     case rel => exact ⟨x + 1, by omega, by simp, by rw [come_succ, HQ.out]; exact hJk, hBk⟩
     case measure => simp [intOf]; omega
  ·obtain rfl : x = m := by omega
   gi_wp2
   go_end0
   exact ⟨⟨_, rfl⟩, .inl ⟨_, by unfold redL; rw [HTL.out], hJx0⟩⟩
theorem redexes_stops (n : Nat) (hn : 1 ≤ n) (B2 B3 n₀ : Nat) (a v u : Value) (d : Dat sSystem) (t : List Int) (w : World) (hn₀ : n₀ ≤ w.heap.size) (hB2 : B2 < n₀) (hB3 : B3 < n₀) (r2 : Row w B2 65 #[a, v]) (r3 : Row w B3 24 #[u])
  (h : Rd w n₀ sSystem [a, v] d) (ht : Rd w n₀ sI [u] t) (hz : sz sSystem d ≤ 1048576) (hok : rightB d.1 d.2 t = true) :
  SeqStopsK Fence.wide n Tryz.prog 100 #[.pointer (some ⟨B3, 0, none⟩), .pointer (some ⟨B2, 0, none⟩)] (fun x : Nat × Nat => #[Value.int .i64 (x.1 : Int), .int .i64 (x.2 : Int)]) (Below n₀) (fun ys => ys = redL d.1 d.2 t) (fun pre => pre ≠ [] ∧ pre <+: redL d.1 d.2 t) (redL d.1 d.2 t).length w := fun l J Jx W hW hJ hJx hY h0 =>
 redexes_stopsK n hn B2 B3 n₀ a v u d t w hn₀ r2 r3 h ht hz hok l J Jx W hW hJ hJx (fun pre x W1 hj hp => (hY pre x W1 hj (by have := hp.length_le; rw [List.length_append, List.length_singleton] at this; omega)).mono fun e W' hh => hh.imp (fun ⟨h1, h2, h3⟩ => ⟨h1, h2, h3, h3.block _ hB2, h3.block _ hB3⟩) id) h0
end iter
end
section
open Go.Lib (hid)
namespace iter
open Go.RowKit base ints sig term termOk endAt inside marks app sym sub segs segsHelp kinds termFacts matchMath whole takeMath take extended varsOf shape kindsR ruleMath ruleSpec ruleImpl stepMath walkMath stepSpec Go.Shelf stepImpl
set_option maxRecDepth 100000
attribute [local go_sem] Oper.semAt_some
theorem redexesFn (a v : Value) (T : Option Addr) (m c : Nat) (w : World) : Calls Tryz.prog 47 #[.agg #[a, v], .slice T m c] w fun e w' => e = .returned (.func (.func 100) #[] #[.pointer (some ⟨w.heap.size + 1, 0, none⟩), .pointer (some ⟨w.heap.size, 0, none⟩)]) ∧ w' = (w.alloc (.cells #[a, v] 65)).alloc (.cells #[.slice T m c] 24) := by
 have hmf : ∀ (fn : Fn) (first cap : Array Value) (w : World), (Instr.makeFunc fn first cap).run Tryz.prog w = .ok (.func fn first cap) w := fun _ _ _ _ => rfl
 go_enter Tryz.func47, Tryz.ntmps47
 go_wp2
 go_ret
 exact ⟨rfl, rfl⟩
set_option maxHeartbeats 4000000 in
theorem implNormalIn (a v u : Value) (d : Dat sSystem) (t : List Int) (w : World) (h : Rd w w.heap.size sSystem [a, v] d) (ht : Rd w w.heap.size sI [u] t) (hz : sz sSystem d ≤ 1048576) (hz' : sz sI t ≤ 1048576) :
  Calls Tryz.prog 14 #[.agg #[a, v], u] w (AnsB w (normalB d.1 d.2 t)) := by
 refine (callsIn_wide (n := 5)).1 ?_
 have h0 := h
 have ht0 := ht
 obtain ⟨T, m, c, rfl, hT, hcT⟩ := rd_ints.1 ht
 have hm := len_ints hT.1 hz'
 obtain ⟨A, n, cs, V, q, cv, rfl, rfl, hs, hc, hcv, hq, hn, hq1, hrs, hsg, hE⟩ := rd_sys h hz
 obtain ⟨W, hW, rA, rB, bel⟩ := box2 w 29 4 #[.slice A n cs, .slice V q cv] #[.bool false]
 have HW := hid hW
 have LS := hid (systemOf _ _ d W (h0.next bel) hz)
 have LT := hid (fun (w1 : World) (bb : Below w.heap.size w w1) => implTermOk A T n cs m c d.1 t w1 (hs.next bb) (hT.next bb) hn hm)
 have HH := hid (show Rd w w.heap.size sSystem [.slice A n cs, .slice V q cv] d ∧ Rd w w.heap.size sI [.slice T m c] t from ⟨h0, ht0⟩)
 clear hW h h0 ht ht0 hT hcT hs hc hcv hq hrs hsg hE
 cases ok : sysOkB d.1 d.2 with
 | false =>
  have HS := hid ok
  rw [ok] at LS
  have LS := hid (show Calls Tryz.prog 44 #[.agg #[.slice A n cs, .slice V q cv]] W (fun e w' => e = .returned (.tuple #[.agg #[.slice none 0 0, .slice none 0 0], .bool false]) ∧ Below W.heap.size W w') from LS.out)
  clear ok
  refine callsIn_of_wp_marks Tryz.func14 rfl trivial ?_ rfl
  simp only [Tryz.ntmps14, List.size_toArray, List.length_cons, List.length_nil, Nat.reduceAdd, Nat.reduceSub, Array.replicate_succ, Array.replicate_zero, List.push_toArray, List.append_toArray, List.nil_append, List.cons_append]
  gi_wp2_with (refine ⟨trivial, ?_⟩; gi_at_call 44; rw [← HW.out]; refine (callsIn_wide.2 LS.out).mono ?_; rintro e w1 ⟨rfl, bb⟩; refine (?_ : Hid _).out)
  have b1 := next_trans bel bb
  have rB1 := rB.next bb
  clear rA bb bel rB LS
  have b2 : Below w.heap.size w (w1.alloc (.cells #[.slice none 0 0, .slice none 0 0] 65)) := b1.alloc b1.size _
  have y1 : (w1.alloc (.cells #[.slice none 0 0, .slice none 0 0] 65)).cell? ⟨w.heap.size + 1, 0, none⟩ = some (.bool false) := (rB1.alloc _).cell 0
  have g1 := (rB1.alloc (.cells #[.slice none 0 0, .slice none 0 0] 65)).free 0
  have rb := (rB1.alloc (.cells #[.slice none 0 0, .slice none 0 0] 65)).put 0 (.bool false)
  have u0 : ((w1.alloc (.cells #[.slice none 0 0, .slice none 0 0] 65)).setCell ⟨w.heap.size + 1, 0, none⟩ (.bool false)).cell? ⟨w.heap.size + 1, 0, none⟩ = some (.bool false) := rb.cell 0
  have F := hid (show AnsB w (normalB d.1 d.2 t) (.returned (.bool false)) ((w1.alloc (.cells #[.slice none 0 0, .slice none 0 0] 65)).setCell ⟨w.heap.size + 1, 0, none⟩ (.bool false)) from ansB (by unfold normalB rightB; rw [HS.out]; rfl) (b2.setCell (show w.heap.size ≤ w.heap.size + 1 by omega) _))
  clear b1 b2 rb rB1
  refine hid ?_
  gi_wp2
  refine ⟨trivial, ?_⟩
  gi_wp2
  exact ⟨.bool false, by simp [results, Tryz.results14, go_sem, u0], F.out⟩
 | true =>
  have HS := hid ok
  rw [ok] at LS
  have LS := hid (show Calls Tryz.prog 44 #[.agg #[.slice A n cs, .slice V q cv]] W (fun e w' => e = .returned (.tuple #[.agg #[.slice A n cs, .slice V q cv], .bool true]) ∧ Below W.heap.size W w') from LS.out)
  clear ok
  refine callsIn_of_wp_marks Tryz.func14 rfl trivial ?_ rfl
  simp only [Tryz.ntmps14, List.size_toArray, List.length_cons, List.length_nil, Nat.reduceAdd, Nat.reduceSub, Array.replicate_succ, Array.replicate_zero, List.push_toArray, List.append_toArray, List.nil_append, List.cons_append]
  gi_wp2_with (refine ⟨trivial, ?_⟩; gi_at_call 44; rw [← HW.out]; refine (callsIn_wide.2 LS.out).mono ?_; rintro e w1 ⟨rfl, bb⟩; refine (?_ : Hid _).out)
  have b1 := next_trans bel bb
  have rB1 := rB.next bb
  clear rA bb bel rB LS
  have b2 : Below w.heap.size w (w1.alloc (.cells #[.slice A n cs, .slice V q cv] 65)) := b1.alloc b1.size _
  have rB2 := rB1.alloc (.cells #[.slice A n cs, .slice V q cv] 65)
  have rS2 := Row.new w1 65 #[.slice A n cs, .slice V q cv]
  have LT1 := hid (LT.out _ b2)
  cases okt : termOkB d.1 t with
  | false =>
   have HT := hid okt
   have LT1 := hid (show Calls Tryz.prog 45 #[.agg #[.slice A n cs], .slice T m c] (w1.alloc (.cells #[.slice A n cs, .slice V q cv] 65)) (fun e w' => e = .returned (.bool false) ∧ Below (w1.alloc (.cells #[.slice A n cs, .slice V q cv] 65)).heap.size (w1.alloc (.cells #[.slice A n cs, .slice V q cv] 65)) w') from by have := LT1.out; unfold AnsTerm at this; rw [okt] at this; exact this)
   clear okt b1 rB1
   refine hid ?_
   gi_wp2
   refine ⟨trivial, ?_⟩
   refine (callsIn_wide.2 LT1.out).mono ?_
   rintro e w2 ⟨rfl, bb⟩
   have b3 := next_trans b2 bb
   have rB3 := rB2.next bb
   have y1 : w2.cell? ⟨w.heap.size + 1, 0, none⟩ = some (.bool false) := rB3.cell 0
   have g1 := rB3.free 0
   have u0 : (w2.setCell ⟨w.heap.size + 1, 0, none⟩ (.bool false)).cell? ⟨w.heap.size + 1, 0, none⟩ = some (.bool false) := (rB3.put 0 (.bool false)).cell 0
   have F := hid (show AnsB w (normalB d.1 d.2 t) (.returned (.bool false)) (w2.setCell ⟨w.heap.size + 1, 0, none⟩ (.bool false)) from ansB (by unfold normalB rightB; rw [HT.out, Bool.and_false]; rfl) (b3.setCell (show w.heap.size ≤ w.heap.size + 1 by omega) _))
   clear b2 b3 rB2 rB3 bb rS2 LT1 LT
   gi_wp2
   exact ⟨.bool false, by simp [results, Tryz.results14, go_sem, u0], F.out⟩
  | true =>
   have HT := hid okt
   have LT1 := hid (show Calls Tryz.prog 45 #[.agg #[.slice A n cs], .slice T m c] (w1.alloc (.cells #[.slice A n cs, .slice V q cv] 65)) (fun e w' => e = .returned (.bool true) ∧ Below (w1.alloc (.cells #[.slice A n cs, .slice V q cv] 65)).heap.size (w1.alloc (.cells #[.slice A n cs, .slice V q cv] 65)) w') from by have := LT1.out; unfold AnsTerm at this; rw [okt] at this; exact this)
   clear okt b1 rB1
   refine hid ?_
   gi_wp2
   refine ⟨trivial, ?_⟩
   refine (callsIn_wide.2 LT1.out).mono ?_
   rintro e w2 ⟨rfl, bb⟩
   have b3 := next_trans b2 bb
   have rB3 := rB2.next bb
   have rS3 := rS2.next bb
   have k0 : w2.cell? ⟨w1.heap.size, 0, none⟩ = some (.slice A n cs) := rS3.cell 0
   have k1 : w2.cell? ⟨w1.heap.size, 1, none⟩ = some (.slice V q cv) := rS3.cell 1
   clear b2 rB2 bb rS2 LT1 LT
   gi_wp2_with (refine ⟨trivial, ?_⟩; gi_at_call 47; refine (callsIn_wide.2 (redexesFn (.slice A n cs) (.slice V q cv) T m c w2)).mono ?_; rintro e w3 ⟨rfl, hw3⟩; subst hw3)
   obtain ⟨W3, hW3, r4, r5, b34⟩ := box2 w2 65 24 #[.slice A n cs, .slice V q cv] #[.slice T m c]
   have b4 := next_trans b3 b34
   have rB4 := rB3.next b34
   have z3 : w2.heap.size + 1 < W3.heap.size := r5.lt
   have hR : rightB d.1 d.2 t = true := by unfold rightB; rw [HS.out, HT.out]; rfl
   rw [← hW3]
   have HSTOPS := redexes_stops 4 (by decide) w2.heap.size (w2.heap.size + 1) W3.heap.size (.slice A n cs) (.slice V q cv) (.slice T m c) d t W3 (Nat.le_refl _) (by omega) z3 r4 r5 (HH.out.1.next b4) (HH.out.2.next b4) hz hR
   clear hW3 r4 r5 b34 rB3 rS3 k0 k1 b3 HH
   refine wpIn_rangeFunc_ownF rfl (by decide) (gf := 100) (lb := #[.pointer (some ⟨w2.heap.size + 1, 0, none⟩), .pointer (some ⟨w2.heap.size, 0, none⟩)]) rfl trivial (enters_of Tryz.func100 (by kernel_rfl) rfl)
    HSTOPS belowK_t (belowK_b (Nat.le_refl _)) (Below.refl _ _) (fun _ => rfl)
    (fun pre W' => (pre = [] ∧ W'.cell? ⟨w.heap.size + 1, 0, none⟩ = some (.bool false) ∧ W'.frozen? ⟨w.heap.size + 1, 0, none⟩ = false) ∧ Below w.heap.size w W')
    (fun cc pre W' => (cc = .ret ∧ W'.cell? ⟨w.heap.size + 1, 0, none⟩ = some (.bool false)) ∧ Below w.heap.size w W')
    (OwnFrom.and (Own.from (fun s A B row hs hg hr => ⟨hs.1, cell_kept hs.2.1 hg hr, (frozen_kept hs.2.1 hg hr).trans hs.2.2⟩) _) (ownFrom_below (Nat.le_refl _) b4.size))
    (fun cc => OwnFrom.and (Own.from (fun s A B row hs hg hr => ⟨hs.1, cell_kept hs.2 hg hr⟩) _) (ownFrom_below (Nat.le_refl _) b4.size))
    ⟨⟨rfl, rB4.cell 0, rB4.free 0⟩, b4⟩
    (fun x => { tmps := #[.agg #[.slice A n cs, .slice V q cv], .slice T m c, .pointer (some ⟨w.heap.size, 0, none⟩), undef, .pointer (some ⟨w.heap.size + 1, 0, none⟩), .pointer (some ⟨w1.heap.size, 0, none⟩), .bool true, .tuple #[.agg #[.slice A n cs, .slice V q cv], .bool true], .agg #[.slice A n cs, .slice V q cv], .tuple #[.agg #[.slice A n cs, .slice V q cv], .bool true], .agg #[.slice A n cs, .slice V q cv], .bool true, .bool true, .bool false, .bool false, .pointer (some ⟨w1.heap.size, 0, none⟩), .agg #[.slice A n cs], .slice T m c, .bool true, .bool false, .bool false, .agg #[.slice A n cs, .slice V q cv], .slice T m c, .func (.func 100) #[] #[.pointer (some ⟨w2.heap.size + 1, 0, none⟩), .pointer (some ⟨w2.heap.size, 0, none⟩)], .int .i64 (x.1 : Int), .int .i64 (x.2 : Int)], defers := [] }) ?assign ?body ?done ?stop
   case assign =>
    intro l x W' K hK
    gi_wp2
    first | exact hK | simpa using hK
   case body =>
    rintro l pre x W' ⟨⟨hp, hc, hf⟩, hB⟩ _
    gi_wp2
    exact ⟨KeepsOthers.setCell _ _ _, ⟨rfl, World.cell?_setCell_same' _ _ _ (by rw [hc]; rfl)⟩, hB.setCell (p := ⟨w.heap.size + 1, 0, none⟩) (by simp) _⟩
   case done =>
    rintro D ys W' hD rfl ⟨⟨hp, hc, hf⟩, hB⟩ hK
    have hN : normalB d.1 d.2 t = true := by unfold normalB; rw [hR, red_nil.1 hp]; rfl
    have hDw : w.heap.size ≤ D := Nat.le_trans b4.size hD
    gi_wp2
    have hK' := (KeepsOthers.setCell W' ⟨w.heap.size + 1, 0, none⟩ (.bool true)).same D _ hK rfl
    refine ⟨by simp, .inl ⟨_, _, rfl, run_takeDeferred hK', ?_⟩⟩
    have hc5 := cell_kept (World.cell?_setCell_same' W' ⟨w.heap.size + 1, 0, none⟩ (.bool true) (by rw [hc]; rfl)) (grownBy_putObj' _ D (.deferred none)) (fun r e => by cases e; exact ⟨_, hK', rfl⟩)
    refine ⟨.bool true, ?_, ansB hN.symm ((hB.setCell (p := ⟨w.heap.size + 1, 0, none⟩) (by simp) _).trans (belowK_b (w := w) (Nat.le_refl _) _ D _ _ hDw hK' rfl rfl))⟩
    simp [results, Tryz.results14, go_sem, hc5]
   case stop =>
    rintro D cc pre W' hD ⟨hne, hpre⟩ ⟨⟨rfl, hc⟩, hB⟩ hK
    have hN : normalB d.1 d.2 t = false := by
     cases hb : normalB d.1 d.2 t with
     | false => rfl
     | true =>
      unfold normalB at hb
      rw [hR, Bool.true_and] at hb
      rw [red_nil.2 hb] at hpre
      exact absurd (List.prefix_nil.1 hpre) hne
    have hDw : w.heap.size ≤ D := Nat.le_trans b4.size hD
    gi_wp2
    refine ⟨by simp, .inl ⟨_, _, rfl, run_takeDeferred hK, ?_⟩⟩
    have hc5 := cell_kept hc (grownBy_putObj' _ D (.deferred none)) (fun r e => by cases e; exact ⟨_, hK, rfl⟩)
    refine ⟨.bool false, ?_, ansB hN.symm (hB.trans (belowK_b (w := w) (Nat.le_refl _) W' D _ _ hDw hK rfl rfl))⟩
    simp [results, Tryz.results14, go_sem, hc5]
end iter
end
section
namespace rangeGive
open Go.RowKit base segs shape
end rangeGive
end
section
namespace iter
open Go.RowKit base rangeGive
theorem rangePre {α : Type} {n : Nat} {P : Program} {g : Operand} {ps : Array Tmp} {assign body : Code} {Q : Exit → Act → World → Prop} {a : Act} {w w0 : World} {gf : Nat} {lb : Array Value} (hg : a.eval g = .func (.func gf) #[] lb)
  (eg : ∀ args w, (callFunc gf args).run P w = .ok (.enter gf args) w) {encs : α → Array Value} {Kp : World → World → Prop} {xs : List α} (hseq : SeqPre (n - 1) P gf lb encs Kp xs w0) (hb0 : Below w0.heap.size w0 w) (hps : ∀ x, (encs x).size = ps.size)
  (hKt : ∀ {A B C : World}, Kp A B → Kp B C → Kp A C) (hKb : ∀ (W : World) (o o' : Obj), W.heap[w.heap.size + 1]? = some o → Kp W (W.putObj (w.heap.size + 1) o'))
  (I : List α → World → Prop) (hI : OwnFrom w.heap.size I) (h0 : I [] w) (a₁ : α → Act)
  (hassign : ∀ (l : Nat) (x : α) (W : World) (K : Act → World → Prop), K (a₁ x) W → assign.wpIn (Fence.wide.inRound l) (n - 1 - 1) P (Exit.then K (fun _ _ _ => False)) { tmps := (ps.zip (encs x)).foldl (fun t (p, v) => t.setIfInBounds p v) a.tmps, defers := [] } W)
  (hbody : ∀ (l : Nat) (pre : List α) (x : α) (W : World), I pre W → w.heap.size + 2 ≤ W.heap.size → pre ++ [x] <+: xs → body.wpIn (Fence.wide.inRound l) (n - 1 - 1) P (fun e _ W' => e = .normal ∧ KeepsFrom w.heap.size W W' ∧ Kp W W' ∧ I (pre ++ [x]) W') (a₁ x) W)
  (hdone : ∀ (D : Nat) (W : World), w.heap.size ≤ D → I xs W → W.heap[D]? = some (.deferred (some [])) → Q .normal { a with defers := { target := .collected D, args := #[] } :: a.defers } W) :
  (Code.rangeFunc g ps assign body).wpIn Fence.wide n P Q a w := by
 refine wpIn_rangeFunc ?_
 intro fn hfn
 obtain ⟨rec, hrec⟩ : ∃ rec : LoopState → Option Code → Loop, rec = fun st pe => { state := st, pending := pe, fn, tmps := a.tmps, params := ps, assign, body, defers := w.heap.size } := ⟨_, rfl⟩
 obtain ⟨W1, hW1⟩ : ∃ W1, (w.alloc (.deferred (some []))).alloc (.loop (rec .ready none)) = W1 := ⟨_, rfl⟩
 have hsz : W1.heap.size = w.heap.size + 2 := by rw [← hW1]; simp
 have rl : W1.heap[w.heap.size + 1]? = some (.loop (rec .ready none)) := by
  rw [← hW1]
  have := heap_alloc_new (w.alloc (.deferred (some []))) (.loop (rec .ready none))
  rwa [World.size_alloc] at this
 have rd : W1.heap[w.heap.size]? = some (.deferred (some [])) := by
  rw [← hW1]
  exact (Below.heap_alloc _ _ _ (by simp)).trans (heap_alloc_new w _)
 refine ⟨w.heap.size + 1, [{ target := .collected w.heap.size, args := #[] }], W1, { target := .fn (.func gf) lb, args := #[.func (.yield (w.heap.size + 1)) #[] #[]] }, W1, gf, #[.func (.yield (w.heap.size + 1)) #[] #[]] ++ lb, W1, ?_, ?_, fun _ _ => trivial, ?_, (fun h => by cases h), ?_⟩
 ·rw [← hW1, hrec]; exact run_enterLoop_outer _ _ _ _ _
 ·simp only [resolve, hg]
  simp [go_sem]
 ·simp [invoke, go_sem, eg]
 have key := hseq (w.heap.size + 1) (fun pre W => (I pre W ∧ W.heap[w.heap.size + 1]? = some (.loop (rec .ready none))) ∧ W.heap[w.heap.size]? = some (.deferred (some []))) (fun _ _ => False) W1
  (hb0.trans ((by rw [← hW1]; exact (((Below.refl _ w).alloc (Nat.le_refl _) _).alloc (by simp) _ : Below w.heap.size w _) : Below w.heap.size w W1).mono hb0.size))
  (fun s A B row hs hg' hr => ⟨⟨hI s A B row hs.1.1 hg' (fun r e => by obtain ⟨h1, o, ho, hw⟩ := hr r e; exact ⟨by omega, o, ho, Obj.not_cells_of_walk hw⟩), (hg'.block _ (Array.getElem?_eq_some_iff.1 hs.1.2).1 (fun e => by have := (hr _ e.symm).1; omega)).trans hs.1.2⟩, (hg'.block _ (Array.getElem?_eq_some_iff.1 hs.2).1 (fun e => by have := (hr _ e.symm).1; omega)).trans hs.2⟩)
  (fun _ _ _ _ hs _ _ => hs.elim)
  ?_ ⟨⟨by rw [← hW1]; exact hI.alloc _ (hI.alloc _ h0), rl⟩, rd⟩
 ·refine key.mono ?_
  rintro e W2 ⟨⟨v, rfl⟩, (⟨ys, rfl, ⟨hi, hl⟩, hd⟩ | ⟨_, _, hF⟩)⟩
  ·refine ⟨none, _, by have := run_endLoop (P := P) hl (by rw [hrec]; simp); rw [hrec] at this; exact this, hdone _ _ (Nat.le_refl _) (hI.putObj _ hi (by omega) hl rfl) ((World.putObj_heap_other (by omega)).trans hd)⟩
  ·exact hF.elim
 ·rintro pre x W ⟨⟨hi, hl⟩, hd⟩ hpre
  have hy := run_yield (P := P) (args := encs x) hl (by rw [hrec]; exact hps x)
  rw [hrec] at hy
  refine ⟨fn, _, assign, body, hy, roundIn_of_wpIn hfn (hassign _ x W _ ?_)⟩
  have hlt := (Array.getElem?_eq_some_iff.1 hl).1
  refine ⟨_, run_beginRound hl (by rw [hrec]), ?_⟩
  obtain ⟨o2, ho2⟩ : ∃ o2, o2 = Obj.loop { rec .ready none with state := .busy } := ⟨_, rfl⟩
  rw [← ho2]
  have hl2 : (W.putObj (w.heap.size + 1) o2).heap[w.heap.size + 1]? = some o2 := World.putObj_heap_same hlt
  have hd2 : (W.putObj (w.heap.size + 1) o2).heap[w.heap.size]? = some (.deferred (some [])) := (World.putObj_heap_other (by omega)).trans hd
  refine wpIn_mono (hbody _ pre x _ (hI.putObj _ hi (by omega) hl rfl) (by rw [World.putObj_size]; omega) hpre) ?_
  rintro e a3 W3 ⟨rfl, hk3, hkp3, hi3⟩
  have hl3 := hk3.same _ _ (by omega) hl2 (by rw [ho2]; rfl)
  have hd3 := hk3.same _ _ (Nat.le_refl _) hd2 rfl
  rw [ho2] at hl3
  have hr := run_endRound (P := P) none hl3
  refine ⟨_, _, hr, .inl ⟨rfl, ⟨⟨hI.putObj _ hi3 (by omega) hl3 rfl, ?_⟩, (World.putObj_heap_other (by omega)).trans hd3⟩, hKt (hKt (hKb _ _ _ hl) hkp3) (hKb _ _ _ hl3)⟩⟩
  rw [World.putObj_heap_same (Array.getElem?_eq_some_iff.1 hl3).1, hrec]
  rfl
end iter
end
section
namespace iter
open Go.RowKit Go.Shelf base ints sig term termOk endAt endOf marks app sym sub segs segsHelp shifted termFacts shape kindsR kindsW ruleMath ruleSpec stepMath walkMath stepSpec stepImpl rangeGive
set_option maxRecDepth 100000
attribute [local go_sem] Oper.semAt_some
section
variable {sg : List Int} {rs : List Rl} {t : List Int}
end
end iter
end
section
namespace iter
open Go.RowKit Go.Shelf base ints sig term termOk endAt endOf marks app sym sub segs segsHelp shifted termFacts shape kindsR kindsW ruleMath ruleSpec ruleImpl stepMath walkMath stepSpec stepImpl rangeGive ownL
set_option maxRecDepth 100000
attribute [local go_sem] Oper.semAt_some
theorem appLmIn {l k : Nat} {w : World} {ops : Array Oper} {rest : List Oper} {o : Oper} {a : Act} {Q : Exit → Act → World → Prop} (hgd : o.guard = none) (sx x : Operand) (T e : TypeId) (s : Sh) (z : Value) (bytes : Nat) (hT : Tryz.prog.underlying T = some (.slice e))
  (hI : (Tryz.prog.info? e).map (fun i => (i.zero, i.size, i.bytes)) = some (some z, nc s, bytes)) (hzc : z.cells.size = nc s) (hby : bytes ≤ 4096)
  (ho : o.op = .call { callee := .builtin .append, args := #[sx, x], argTypes := #[T, T] })
  (lo hi mid hi2 : Nat) (A : Option Addr) (n c g m c2 : Nat) (D E : List (Dat s)) (hs : a.eval sx = .slice A n c) (hown : OwnL w lo hi e s A n c D) (hxv : a.eval x = .slice (some ⟨g, 0, none⟩) m c2) (hx : OwnL w mid hi2 e s (some ⟨g, 0, none⟩) m c2 E) (hmid : hi ≤ mid) (hlm : lo ≤ mid) (hn : n ≤ 1048576) (hm : m ≤ 1048576) (hlo : lo ≤ w.heap.size) (hpos : 0 < m)
  (h : ∀ g' c' w', OwnL w' lo w'.heap.size e s (some ⟨g', 0, none⟩) (n + m) c' (D ++ E) → w.grownBy w' (blk A) → Below lo w w' → wpListIn (Fence.wide.inRound l) k Tryz.prog ops Q rest (a.put o.dst (.slice (some ⟨g', 0, none⟩) (n + m) c')) w') : wpListIn (Fence.wide.inRound l) k Tryz.prog ops Q (o :: rest) a w :=
 wpListIn_plain hgd fun _ hK => by
  refine ⟨fun _ _ => trivial, ?_⟩
  obtain ⟨A', c', w', hr, h2, h3, h4, h5, h6⟩ := run_appL o.type T e s z bytes hT hI hzc hby lo hi mid hi2 A n c g m c2 D E hown hx hmid hlm hn hm hlo
  obtain ⟨g', rfl⟩ := h6 (.inr hpos)
  rw [Oper.semAt_eq _ _ _ (by simp [ho])]
  unfold execOp
  simp only [ho, resolve, invoke, builtin, Sem.run_bind, Sem.run_pure, Result.andThen_ok, List.map_toArray, List.map_cons, List.map_nil, hs, hxv, hr]
  exact hK _ _ (h g' c' w' h2 h3 h5)
theorem Ow.cells {w : World} : ∀ {s : Sh} {cs : List Value} {d : Dat s} {F : List Nat}, Ow w s cs d F → ∀ k ∈ F, ∃ t c, Row w k t c
 | .num, _, _, _, h, k, hk => by obtain ⟨_, e⟩ := h; rw [e] at hk; cases hk
 | .bit, _, _, _, h, k, hk => by obtain ⟨_, e⟩ := h; rw [e] at hk; cases hk
 | .row e s, _, _, F, h, k, hk => by
  obtain ⟨A, n, c, e1, hl, h1⟩ := h
  rcases h1 with ⟨_, _, _, h1⟩ | ⟨g, cur, E, G, e2, hr, h2, h3, h4, h5, h6⟩
  ·rw [h1] at hk; cases hk
  ·rw [h5] at hk
   rcases List.mem_cons.1 hk with hk | hk
   ·rw [hk]; exact ⟨_, _, hr⟩
   ·obtain ⟨j, hj, hk⟩ := List.mem_flatMap.1 hk
    exact Ow.cells (h6 j (List.mem_range.1 hj)).2.2 k hk
 | .cat a b, _, _, _, h, k, hk => by
  obtain ⟨ca, cb, Fa, Fb, e, e2, h1, h2⟩ := h
  rw [e2] at hk
  rcases List.mem_append.1 hk with hk | hk
  ·exact Ow.cells h1 k hk
  ·exact Ow.cells h2 k hk
theorem row_turn {w w' : World} {row : Option Nat} (hg : w.grownBy w' row) (hr : ∀ r, row = some r → ∃ o : Obj, w.heap[r]? = some o ∧ o.isCells = false) {k : Nat} {t : TypeId} {cs : Array Value} (hrow : Row w k t cs) : w'.heap[k]? = w.heap[k]? :=
 hg.block k hrow.lt (fun e => by
  obtain ⟨o, ho, hc⟩ := hr k e.symm
  unfold Row at hrow
  rw [hrow] at ho
  injection ho with ho
  rw [← ho] at hc
  cases hc)
theorem ownL_turn {w w' : World} {lo hi n c : Nat} {e : TypeId} {s : Sh} {A : Option Addr} {D : List (Dat s)} {row : Option Nat} (h : OwnL w lo hi e s A n c D) (hg : w.grownBy w' row) (hr : ∀ r, row = some r → ∃ o : Obj, w.heap[r]? = some o ∧ o.isCells = false) : OwnL w' lo hi e s A n c D := by
 obtain ⟨q1, q2, vs, G, q3, q4, q5, q6⟩ := h
 refine ⟨q1, q2, vs, G, ⟨q3.1, ?_⟩, q4, q5, fun j hj => ⟨(q6 j hj).1.keep fun k hkG => by obtain ⟨t, cs, hrow⟩ := Ow.cells (q6 j hj).1 k hkG; exact row_turn hg hr hrow, (q6 j hj).2⟩⟩
 rcases q3.2 with q | ⟨g, cap, cur, e1, hg1, hrow, rest⟩
 ·exact .inl q
 ·exact .inr ⟨g, cap, cur, e1, hg1, (row_turn hg hr hrow).trans hrow, rest⟩
theorem ownL_cells {w : World} {lo hi n c k : Nat} {e : TypeId} {s : Sh} {A : Option Addr} {D : List (Dat s)} (h : OwnL w lo hi e s A n c D) (hk : blk A = some k) : ∃ cs, Row w k e cs := by
 obtain ⟨q1, q2, vs, G, q3, q4, q5, q6⟩ := h
 rcases q3.2 with ⟨e1, _⟩ | ⟨g, cap, cur, e1, hg1, hrow, rest⟩
 ·injection e1 with e1
  subst e1
  cases hk
 ·injection e1 with e1
  subst e1
  injection hk with hk
  have hk : g = k := hk
  subst hk
  exact ⟨_, hrow⟩
end iter
end
section
namespace places
open sig term termOk ruleMath stepMath walkMath iter orderMath sortedC varsMath
def atL (ps : List (Nat × Nat)) : List Int := ps.map fun p => (p.1 : Int)
theorem atL_snoc (ps : List (Nat × Nat)) (x : Nat × Nat) : atL (ps ++ [x]) = atL ps ++ [(x.1 : Int)] := by unfold atL; simp
section
variable {sg : List Int} {rs : List Rl} {t : List Int}
theorem row_mem {x k : Nat} {p : Nat × Nat} : p ∈ rowL sg rs t x k ↔ p.1 = x ∧ p.2 < k ∧ redB sg (rs.getD p.2 ([], [])) t x = true := by
 unfold rowL
 rw [List.mem_filterMap]
 constructor
 ·rintro ⟨r, hr, h⟩
  split at h
  ·rename_i hb
   injection h with h
   subst h
   exact ⟨rfl, List.mem_range.1 hr, hb⟩
  ·cases h
 ·rintro ⟨rfl, h2, h3⟩
  exact ⟨p.2, List.mem_range.2 h2, by rw [if_pos h3]⟩
theorem come_mem {x : Nat} {p : Nat × Nat} : p ∈ comeL sg rs t x ↔ p.1 < x ∧ p.2 < rs.length ∧ redB sg (rs.getD p.2 ([], [])) t p.1 = true := by
 unfold comeL
 rw [List.mem_flatMap]
 constructor
 ·rintro ⟨a, ha, h⟩
  obtain ⟨h1, h2, h3⟩ := row_mem.1 h
  subst h1
  exact ⟨List.mem_range.1 ha, h2, h3⟩
 ·rintro ⟨h1, h2, h3⟩
  exact ⟨p.1, List.mem_range.2 h1, row_mem.2 ⟨rfl, h2, h3⟩⟩
theorem come_sorted : ∀ x, (atL (comeL sg rs t x)).Pairwise (· ≤ ·)
 | 0 => List.Pairwise.nil
 | x + 1 => by
  rw [come_succ]
  unfold atL
  rw [List.map_append, List.pairwise_append]
  refine ⟨come_sorted x, ?_, ?_⟩
  ·rw [List.pairwise_map]
   have : ∀ p ∈ rowL sg rs t x rs.length, p.1 = x := fun p hp => (row_mem.1 hp).1
   exact List.Pairwise.imp_of_mem (fun {a b} ha hb _ => by rw [this a ha, this b hb]; exact Int.le_refl _) (List.pairwise_of_forall (R := fun _ _ => True) fun _ _ => trivial)
  ·intro a ha b hb
   obtain ⟨p, hp, rfl⟩ := List.mem_map.1 ha
   obtain ⟨q, hq, rfl⟩ := List.mem_map.1 hb
   have h1 := (come_mem.1 hp).1
   have h2 := (row_mem.1 hq).1
   omega
theorem row_len (x k : Nat) : (rowL sg rs t x k).length ≤ k := by
 unfold rowL
 exact Nat.le_trans (List.length_filterMap_le _ _) (by simp)
theorem come_len : ∀ x, (comeL sg rs t x).length ≤ x * rs.length
 | 0 => Nat.zero_le _
 | x + 1 => by
  rw [come_succ, List.length_append, Nat.add_mul]
  have h1 := come_len x
  have h2 := row_len (sg := sg) (rs := rs) (t := t) x rs.length
  omega
theorem red_len : (redL sg rs t).length ≤ t.length * rs.length := come_len _
theorem has_iff {a : Nat} : hasR sg rs t a = true ↔ ∃ k, k < rs.length ∧ redB sg (rs.getD k ([], [])) t a = true := by
 constructor
 ·intro h
  obtain ⟨k, hk, -, h3, -⟩ := has_rule h
  exact ⟨k, hk, h3⟩
 ·rintro ⟨k, hk, h⟩
  unfold hasR
  rw [List.any_eq_true]
  have e : rs.getD k ([], []) = rs[k] := by rw [List.getD_eq_getElem?_getD, List.getElem?_eq_getElem hk, Option.getD_some]
  rw [e] at h
  exact ⟨rs[k], List.getElem_mem hk, h⟩
theorem compact_places : Lib.compact (atL (redL sg rs t)) = placesL sg rs t := by
 obtain ⟨h1, h2⟩ := compact_sorted (come_sorted (sg := sg) (rs := rs) (t := t) t.length)
 refine rises_unique h1 (pl_sorted _) fun x => ?_
 show x ∈ Lib.compact (atL (comeL sg rs t t.length)) ↔ x ∈ plN sg rs t t.length
 rw [h2, pl_mem]
 constructor
 ·intro h
  obtain ⟨p, hp, rfl⟩ := List.mem_map.1 h
  obtain ⟨a, b, c⟩ := come_mem.1 hp
  exact ⟨p.1, a, has_iff.2 ⟨p.2, b, c⟩, rfl⟩
 ·rintro ⟨a, h3, h4, rfl⟩
  obtain ⟨k, hk, hr⟩ := has_iff.1 h4
  exact List.mem_map.2 ⟨(a, k), come_mem.2 ⟨h3, hk, hr⟩, rfl⟩
end
end places
end
section
open Go.Lib (hid)
namespace iter
open Go.RowKit Go.Shelf base ints sig term termOk endAt endOf marks app sym sub segs segsHelp kinds shifted termFacts varsOf shape kindsR ruleMath ruleSpec stepMath walkMath stepSpec stepImpl rangeGive ownL orderMath sortedC places
set_option maxRecDepth 100000
attribute [local go_sem] Oper.semAt_some
theorem owned_num (w : World) (lo hi : Nat) (x : Int) : Owned w lo hi .num [.int .i64 x] x := ⟨[], ⟨rfl, rfl⟩, List.nodup_nil, fun k hk => by cases hk⟩
def AccI (w : World) (B q : Nat) (L : List Int) (X : World) : Prop := ∃ O on oc, Row X B 24 #[.slice O on oc] ∧ OwnL X q X.heap.size 2 .num O on oc L ∧ Below w.heap.size w X
theorem accI_turn {w X Y : World} {B q B0 : Nat} {L : List Int} {row : Option Nat} (hB0 : w.heap.size ≤ B0) (hs : AccI w B q L X) (hg : X.grownBy Y row) (hr : ∀ r, row = some r → B0 ≤ r ∧ ∃ o : Obj, X.heap[r]? = some o ∧ o.isCells = false) : AccI w B q L Y := by
 obtain ⟨O, on, oc, h1, h2, h3⟩ := hs
 have hr' : ∀ r, row = some r → ∃ o : Obj, X.heap[r]? = some o ∧ o.isCells = false := fun r e => (hr r e).2
 exact ⟨O, on, oc, (row_turn hg hr' h1).trans h1, (ownL_turn h2 hg hr').wider (Nat.le_refl _) hg.size, h3.grown hg h3.size (fun k e => by have := (hr k e).1; omega)⟩
theorem ownL_ints {w : World} {lo hi : Nat} {O : Option Addr} {on oc : Nat} {L : List Int} (h : OwnL w lo hi 2 .num O on oc L) : marks.Own w lo (.slice O on oc) L := by
 have h1 : Owned w lo hi sI [.slice O on oc] L := h.owned
 exact (ow_ints.1 h1).1
set_option maxHeartbeats 4000000 in
theorem places (a v u : Value) (d : Dat sSystem) (t : List Int) (w : World) (h : Rd w w.heap.size sSystem [a, v] d) (ht : Rd w w.heap.size sI [u] t) (hz : sz sSystem d ≤ 1048576) (hok : rightB d.1 d.2 t = true) :
  Calls Tryz.prog 154 #[.agg #[a, v], u] w (AnsList w (placesL d.1 d.2 t)) := by
 refine (callsIn_wide (n := 5)).1 ?_
 obtain ⟨T, m, c, rfl, hT, hcT⟩ := rd_ints.1 ht
 obtain ⟨A, n, cs, V, q, cv, rfl, rfl, -, -, -, hq, -, hq1, -, -, -⟩ := rd_sys h hz
 have hlen : (redL d.1 d.2 t).length ≤ 1048576 := by
  have h60 := (term_len (right_parts hok).2).2
  have h12 := (sys_parts (right_parts hok).1).2.1
  have := red_len (sg := d.1) (rs := d.2) (t := t)
  have : t.length * d.2.length ≤ 60 * 12 := Nat.mul_le_mul h60 h12
  omega
 have HLEN := hid hlen
 obtain ⟨W, hW, rA, rF, bel⟩ := box2 w 65 24 #[.slice A n cs, .slice V q cv] #[.slice none 0 0]
 have HH := hid (show Rd w w.heap.size sSystem [.slice A n cs, .slice V q cv] d ∧ Rd w w.heap.size sI [.slice T m c] t from ⟨h, ht⟩)
 have HOK := hid hok
 have HW := hid hW
 have hsz : w.heap.size + 2 = W.heap.size := by rw [hW]; simp
 clear hW h ht hT hcT hok hq hlen
 refine callsIn_of_wp_marks Tryz.func154 rfl trivial ?_ rfl
 simp only [Tryz.ntmps154, List.size_toArray, List.length_cons, List.length_nil, Nat.reduceAdd, Nat.reduceSub, Array.replicate_succ, Array.replicate_zero, List.push_toArray, List.append_toArray, List.nil_append, List.cons_append]
 gi_wp2_with (refine ⟨trivial, ?_⟩; gi_at_call 47; rw [← HW.out]; refine (callsIn_wide.2 (redexesFn (.slice A n cs) (.slice V q cv) T m c W)).mono ?_; rintro e w3 ⟨rfl, hw3⟩; subst hw3)
 obtain ⟨W3, hW3, r4, r5, b34⟩ := box2 W 65 24 #[.slice A n cs, .slice V q cv] #[.slice T m c]
 rw [← hW3]
 have hsz3 : W.heap.size + 2 = W3.heap.size := by rw [hW3]; simp
 have b4 := next_trans bel b34
 have rF4 := rF.next b34
 have z3 : W.heap.size + 1 < W3.heap.size := r5.lt
 have HPRE := redexes_stopsK 4 (by decide) W.heap.size (W.heap.size + 1) w.heap.size (.slice A n cs) (.slice V q cv) (.slice T m c) d t W3 b4.size r4 r5 (HH.out.1.below b4) (HH.out.2.below b4) hz HOK.out
 clear hW3 r4 r5 b34 rA rF HW HH
 refine rangePre (gf := 100) (lb := #[.pointer (some ⟨W.heap.size + 1, 0, none⟩), .pointer (some ⟨W.heap.size, 0, none⟩)]) rfl (enters_of Tryz.func100 (by kernel_rfl) rfl) HPRE (Below.refl _ _) (fun _ => rfl) Kr.trans
  (fun X o o' ho => ⟨(Below.refl _ X).grown (grownBy_putObj' X _ o') (by have := (Array.getElem?_eq_some_iff.1 ho).1; omega) (fun k e => by cases e; omega), World.putObj_heap_other (by omega), World.putObj_heap_other (by omega)⟩)
  (fun pre X => AccI w (w.heap.size + 1) W3.heap.size (atL pre) X)
  (fun s X Y row hs hg hr => accI_turn (B0 := W3.heap.size) b4.size hs hg hr)
  ⟨none, 0, 0, rF4, OwnL.nil _ _ _ _ _, b4⟩
  (fun x => { tmps := #[.agg #[.slice A n cs, .slice V q cv], .slice T m c, .pointer (some ⟨w.heap.size, 0, none⟩), undef, .slice none 0 0, .pointer (some ⟨w.heap.size + 1, 0, none⟩), .int .i64 (x.1 : Int), .agg #[.slice A n cs, .slice V q cv], .slice T m c, .func (.func 100) #[] #[.pointer (some ⟨W.heap.size + 1, 0, none⟩), .pointer (some ⟨W.heap.size, 0, none⟩)], .int .i64 (x.1 : Int), .int .i64 (x.2 : Int), undef, undef, undef, undef, undef, undef], defers := [] }) ?assign ?body ?done
 case assign =>
  intro l x X K hK
  gi_wp2
  first | exact hK | simpa using hK
 case body =>
  rintro l pre x X ⟨O, on, oc, rO, oO, bO⟩ hX hpre
  have c0 : X.cell? ⟨w.heap.size + 1, 0, none⟩ = some (.slice O on oc) := rO.cell 0
  have hon : on ≤ 1048576 := by
   have h1 : (atL pre).length = on := oO.1
   have h2 := hpre.length_le
   have h3 := HLEN.out
   unfold atL at h1
   rw [List.length_map] at h1
   rw [List.length_append, List.length_singleton] at h2
   omega
  have b1 : Below X.heap.size X (X.alloc (.cells #[.int .i64 (x.1 : Int)] 2)) := (Below.refl _ _).alloc (Nat.le_refl _) _
  have o1 := oO.next b1
  have o2 : OwnL (X.alloc (.cells #[.int .i64 (x.1 : Int)] 2)) X.heap.size (X.heap.size + 1) 2 .num (some ⟨X.heap.size, 0, none⟩) 1 1 [(x.1 : Int)] := OwnL.single (e := 2) (s := .num) (Row.new X 2 #[.int .i64 (x.1 : Int)]) (owned_num _ X.heap.size X.heap.size _) (Nat.le_refl _) (Nat.le_refl _)
  have rX1 := rO.next b1
  have HRX := hid rX1
  clear rO
  gi_wp2_with (gi_at_builtin; refine appLmIn rfl _ _ 24 2 .num _ _ Tryz.underlying24 info_i64 rfl (by decide) rfl W3.heap.size X.heap.size X.heap.size (X.heap.size + 1) O on oc X.heap.size 1 1 (atL pre) [(x.1 : Int)] rfl o1 rfl o2 (Nat.le_refl _) (by omega) hon (by omega) (by simp; omega) (by omega) ?_; intro g' c' w4 oL4 hg4 b4; have r4 := HRX.out.below b4 (show w.heap.size + 1 < W3.heap.size by omega); have y1 : w4.cell? ⟨w.heap.size + 1, 0, none⟩ = some (.slice O on oc) := r4.cell 0; have f1 := r4.free 0)
  have z4 : X.heap.size + 1 ≤ w4.heap.size := by have := b4.size; simpa using hg4.size
  have hkeep : ∀ (k : Nat) (o : Obj), W3.heap.size ≤ k → X.heap[k]? = some o → o.isCells = false → (w4.setCell ⟨w.heap.size + 1, 0, none⟩ (.slice (some ⟨g', 0, none⟩) (on + 1) c')).heap[k]? = some o := fun k o hk ho hc => by
   have hkX := (Array.getElem?_eq_some_iff.1 ho).1
   rw [Below.heap_setCell w4 _ _ k (by show k ≠ w.heap.size + 1; omega)]
   refine (hg4.block k (by simp; omega) (fun e => ?_)).trans ((b1.block k hkX).trans ho)
   obtain ⟨cs, hrow⟩ := ownL_cells oO e.symm
   unfold Row at hrow
   rw [hrow] at ho
   injection ho with ho
   rw [← ho] at hc
   cases hc
  have hk4 : ∀ k, k < W3.heap.size → (w4.setCell ⟨w.heap.size + 1, 0, none⟩ (.slice (some ⟨g', 0, none⟩) (on + 1) c')).heap[k]? = if k = w.heap.size + 1 then (w4.setCell ⟨w.heap.size + 1, 0, none⟩ (.slice (some ⟨g', 0, none⟩) (on + 1) c')).heap[k]? else X.heap[k]? := fun k hk => by
   by_cases e : k = w.heap.size + 1
   ·rw [if_pos e]
   ·rw [if_neg e, Below.heap_setCell w4 _ _ k (by show k ≠ w.heap.size + 1; exact e)]
    exact (b4.block k hk).trans (b1.block k (by omega))
  have hkr : Kr w.heap.size W.heap.size (W.heap.size + 1) X (w4.setCell ⟨w.heap.size + 1, 0, none⟩ (.slice (some ⟨g', 0, none⟩) (on + 1) c')) :=
   ⟨((b1.mono (by omega)).trans (b4.mono (by omega))).setCell (show w.heap.size ≤ w.heap.size + 1 by omega) _, by rw [hk4 _ (by omega), if_neg (by omega)], by rw [hk4 _ (by omega), if_neg (by omega)]⟩
  have F := hid (show KeepsFrom W3.heap.size X (w4.setCell ⟨w.heap.size + 1, 0, none⟩ (.slice (some ⟨g', 0, none⟩) (on + 1) c')) ∧ Kr w.heap.size W.heap.size (W.heap.size + 1) X (w4.setCell ⟨w.heap.size + 1, 0, none⟩ (.slice (some ⟨g', 0, none⟩) (on + 1) c')) ∧ AccI w (w.heap.size + 1) W3.heap.size (atL (pre ++ [x])) (w4.setCell ⟨w.heap.size + 1, 0, none⟩ (.slice (some ⟨g', 0, none⟩) (on + 1) c')) from by
   refine ⟨⟨by simp; omega, hkeep⟩, hkr, some ⟨g', 0, none⟩, on + 1, c', r4.put 0 _, ?_, ((next_trans bO b1).trans (b4.mono (by omega))).setCell (show w.heap.size ≤ w.heap.size + 1 by omega) _⟩
   rw [atL_snoc]
   have o5 : OwnL (w4.setCell ⟨w.heap.size + 1, 0, none⟩ (.slice (some ⟨g', 0, none⟩) (on + 1) c')) W3.heap.size w4.heap.size 2 .num (some ⟨g', 0, none⟩) (on + 1) c' (atL pre ++ [(x.1 : Int)]) := oL4.btw (lo' := w.heap.size + 1) (hi' := w.heap.size + 1 + 1) ⟨rfl, rfl, rfl, by simp, fun k hk ho => Below.heap_setCell w4 _ _ k (by show k ≠ w.heap.size + 1; omega)⟩ (.inr (by omega))
   exact o5.wider (Nat.le_refl _) (by simp))
  clear hkeep hk4 hkr oL4 hg4 b4 r4 o1 o2 rX1 b1 c0 oO
  gi_wp2
  exact F.out
 case done =>
  rintro D X hD hacc hd
  have hDw : w.heap.size + 2 ≤ D := by omega
  obtain ⟨O, on, oc, rO, oO, bO⟩ := hacc
  have K0 : X.cell? ⟨w.heap.size + 1, 0, none⟩ = some (.slice O on oc) := rO.cell 0
  have hon : on ≤ 1048576 := by
   have h1 : (atL (redL d.1 d.2 t)).length = on := oO.1
   have h3 := HLEN.out
   unfold atL at h1
   rw [List.length_map] at h1
   omega
  have LC := hid (compactOwn W3.heap.size O on oc (atL (redL d.1 d.2 t)) X (ownL_ints oO) hon)
  have hblk : ∀ k, blk O = some k → W3.heap.size ≤ k ∧ k ≠ D := fun k hk => ⟨(oO.ge k hk).1, fun e => by
   obtain ⟨cs, hrow⟩ := ownL_cells oO hk
   unfold Row at hrow
   rw [e, hd] at hrow
   cases hrow⟩
  have hDX := (Array.getElem?_eq_some_iff.1 hd).1
  clear rO hon oO
  gi_wp2_with (refine ⟨trivial, ?_⟩; gi_at_call 167; refine (callsIn_wide.2 LC.out).mono ?_; rintro e w5 ⟨c5, rfl, o5, hg5⟩; refine (?_ : Hid _).out)
  have hd5 : w5.heap[D]? = some (.deferred (some [])) := (hg5.block D hDX (fun e => (hblk D e.symm).2 rfl)).trans hd
  have b5 : Below w.heap.size w w5 := bO.grown hg5 bO.size (fun k e => by have := (hblk k e).1; omega)
  have hgP := grownBy_putObj' w5 D (.deferred none)
  have F := hid (show AnsList w (placesL d.1 d.2 t) (.returned (.slice O (Lib.compact (atL (redL d.1 d.2 t))).length c5)) (w5.putObj D (.deferred none)) from by
   refine ⟨O, _, c5, rfl, ?_, b5.grown hgP b5.size (fun k e => by cases e; omega)⟩
   rw [← compact_places]
   refine Own.lower (Go.Proofs.YtmoidijngeijkaaGreat.appAt.Own.kept o5 hgP ?_) (by omega)
   cases hA : blk O with
   | none => exact .inl rfl
   | some k => exact .inr (fun e => by injection e with e; exact (hblk k hA).2 e))
  clear o5 hg5 bO b5 hgP LC
  refine hid ?_
  gi_wp2
  refine ⟨by simp, .inl ⟨_, _, rfl, run_takeDeferred hd5, ?_⟩⟩
  exact ⟨.slice O (Lib.compact (atL (redL d.1 d.2 t))).length c5, by simp [results, Tryz.results154, go_sem], F.out⟩
end iter
end
section
open Go.Lib (hid)
namespace orderImpl
open Go.RowKit base ints sig term termOk endAt endOf marks app sym sub segs segsHelp kinds termFacts shifted shape kindsR ruleMath ruleSpec stepMath walkMath stepsMath varsOf stepSpec orderMath appAt orderSpec sortedC
set_option maxRecDepth 100000
structure Li (w : World) (a v : Value) (A : Option Addr) (n c : Nat) (all : List Int) (O : Option Addr) (on oc : Nat) (L : List Int) (wr : World) : Prop where
 r : Row wr w.heap.size 65 #[a, v]
 o : marks.Own wr (w.heap.size + 1) (.slice O on oc) L
 b : Below w.heap.size w wr
 s : marks.Own wr (w.heap.size + 1) (.slice A n c) all
 ne : ∀ k, blk A = some k → blk O ≠ some k
section
variable {w wr w' : World} {a v : Value} {A O : Option Addr} {n c on oc : Nat} {all L : List Int}
theorem Li.next (h : Li w a v A n c all O on oc L wr) (hb : Below wr.heap.size wr w') : Li w a v A n c all O on oc L w' := ⟨h.r.next hb, Own.next h.o hb, next_trans h.b hb, Own.next h.s hb, h.ne⟩
theorem Li.app {O' : Option Addr} {oc' : Nat} {y : Int} {o : Obj} (h : Li w a v A n c all O on oc L wr) (ho : marks.Own w' (w.heap.size + 1) (.slice O' (on + 1) oc') (L ++ [y])) (hg : (wr.alloc o).grownBy w' (blk O)) (hat : blk O' = blk O ∨ blk O' = some (wr.alloc o).heap.size) : Li w a v A n c all O' (on + 1) oc' (L ++ [y]) w' := by
 have z1 : w.heap.size < wr.heap.size := h.r.lt
 have hb : Below (w.heap.size + 1) wr w' := ((Below.refl (w.heap.size + 1) wr).alloc z1 o).trans ((Below.refl _ _).grown hg (by simp; omega) (fun k hk => (ownLt h.o k hk).1))
 refine ⟨h.r.below hb (Nat.lt_succ_self _), ho, h.b.trans (hb.mono (Nat.le_succ _)), Go.Proofs.YtmoidijngeijkaaGreat.appAt.Own.kept (Go.Proofs.YtmoidijngeijkaaGreat.sym.Own.alloc h.s o) hg ?_, fun k hk e => ?_⟩
 ·cases hA : blk A with
  | none => exact .inl rfl
  | some k => exact .inr fun e => h.ne k hA e.symm
 ·rcases hat with hat | hat
  ·exact h.ne k hk (by rw [← hat]; exact e)
  ·rw [hat] at e
   injection e with e
   have := (ownLt h.s k hk).2
   simp at e
   omega
theorem Li.list (h : Li w a v A n c all O on oc L wr) {L' : List Int} (e : L = L') : AnsList w L' (.returned (.slice O on oc)) wr := ⟨O, on, oc, rfl, by rw [← e]; exact Own.lower h.o (Nat.le_succ _), h.b⟩
end
theorem endIn {W : World} {A T : Option Addr} {n cs m c p : Nat} {sg t : List Int} (h : Seg W W.heap.size A n sg) (h' : Seg W W.heap.size T m t) (hn : n ≤ 1048576) (hm : m ≤ 1048576) (ht : termOkB sg t = true) (hp : p < t.length) :
  Calls Tryz.prog 111 #[.agg #[.slice A n cs], .slice T m c, .int .i64 (p : Int)] W fun e w' => e = .returned (.int .i64 (endR sg t (p : Int))) ∧ Below W.heap.size W w' := by
 have hl := h'.1
 refine (implEndOf A T n cs m c sg t (p : Int) W h h' hn hm (by omega) (by omega)).mono ?_
 rintro e w' ⟨he, hb⟩
 refine ⟨?_, hb⟩
 rw [he]
 unfold endOfI
 rw [if_pos (there_yes ht (by omega) (by omega))]
 rfl
theorem wrap_small {x : Int} (h1 : -1048576 ≤ x) (h2 : x ≤ 1048576) : IntKind.i64.wrap x = x := by
 simp [IntKind.wrap, IntKind.signed, IntKind.bits]
 omega
theorem placesL_eq {sg : List Int} {rs : List Rl} {t : List Int} (h : rightB sg rs t = true) : placesL sg rs t = placesI sg rs t := by unfold placesI; rw [if_pos h]
set_option maxHeartbeats 4000000 in
theorem inmost (a v u : Value) (d : Dat sSystem) (t : List Int) (w : World) (h : Rd w w.heap.size sSystem [a, v] d) (ht : Rd w w.heap.size sI [u] t) (hz : sz sSystem d ≤ 1048576) (hok : rightB d.1 d.2 t = true) :
  Calls Tryz.prog 129 #[.agg #[a, v], u] w (AnsList w (inmostI d.1 d.2 t)) := by
 have htv := ht
 have h0 := h
 obtain ⟨T, m, c, rfl, hT, hcT⟩ := rd_ints.1 ht
 obtain ⟨A0, n0, cs0, V, q, cv, rfl, rfl, hs, hc, hcv, hq, hn, hq1, hrs, hsg, hE⟩ := rd_sys h hz
 have hm : m ≤ 1048576 := by have := (term_len (right_parts hok).2).2; have := hT.1; omega
 obtain ⟨W, hW, rA, bel⟩ := box1 w 65 #[.slice A0 n0 cs0, .slice V q cv]
 have LA := hid (iter.places _ _ _ d t W (h0.next bel) (htv.next bel) hz hok)
 rw [placesL_eq hok] at LA
 have LE := hid (fun (w1 : World) (bb : Below w.heap.size w w1) p hok (hp : p < t.length) => endIn (cs := cs0) (c := c) (hs.next bb) (hT.next bb) hn hm hok hp)
 have K0 : W.cell? ⟨w.heap.size, 0, none⟩ = some (.slice A0 n0 cs0) := rA.cell 0
 have K1 : W.cell? ⟨w.heap.size, 1, none⟩ = some (.slice V q cv) := rA.cell 1
 have HW := hid hW
 clear hW h h0 ht htv hT hcT hs hc hcv hq hrs hsg hE
 go_enter Tryz.func129, Tryz.ntmps129
 go_wp2_with fail
 rw [← HW.out]
 go_wp2_with fail
 refine LA.out.mono ?_
 rintro e w1 ⟨A, n, cA, rfl, oA, bb⟩
 have hnl : (placesI d.1 d.2 t).length = n := (Own.len oA).symm
 have hn60 : n ≤ 60 := by rw [← hnl]; exact placesI_len
 have HNL := hid hnl
 have H1 := hid (show Li w (.slice A0 n0 cs0) (.slice V q cv) A n cA (placesI d.1 d.2 t) none 0 0 [] w1 from
  ⟨rA.next bb, Own.nil _ _, next_trans bel bb, Own.lower oA rA.lt, fun k hk e => by cases e⟩)
 clear oA bb rA bel K0 K1 HW LA hnl
 go_wp2_with fail
 go_loopg [6, 14] n (fun g out i_ wr => ∃ (i on oc : Nat) (O : Option Addr), i_ = .int .i64 i ∧ i + g = n ∧ out = .slice O on oc ∧ on ≤ i ∧ Li w (.slice A0 n0 cs0) (.slice V q cv) A n cA (placesI d.1 d.2 t) O on oc (inN (endR d.1 t) (placesI d.1 d.2 t) i) wr)
 case atStart => exact ⟨0, 0, 0, none, rfl, by omega, rfl, Nat.le_refl _, H1.out⟩
 case round =>
  clear H1
  obtain ⟨i, on, oc, O, rfl, hig, rfl, hon, S⟩ := hrel
  have HI := hid hig
  have HS := hid S
  have K0 : wr.cell? ⟨w.heap.size, 0, none⟩ = some (.slice A0 n0 cs0) := S.r.cell 0
  have K1 : wr.cell? ⟨w.heap.size, 1, none⟩ = some (.slice V q cv) := S.r.cell 1
  by_cases hi : i < n
  ·have h1 : (i : Int) < (n : Int) := by omega
   have h2 : (0 : Int) ≤ (i : Int) := by omega
   obtain ⟨b, off, eA, hbl, ci⟩ := (Own.seg S.s).round hi
   subst eA
   obtain ⟨p, hp, hpt, htok, e, he, he60, hp60⟩ := place_at HNL.out hi
   rw [hp] at ci
   have HP := hid hp
   have HEE := hid he
   have LE1 := hid (fun w1 bb => LE.out w1 bb p htok hpt)
   have zA : w.heap.size < wr.heap.size := S.r.lt
   have zB : b < wr.heap.size := hbl
   obtain ⟨y, hy⟩ : ∃ y, (placesI d.1 d.2 t).getD (i + 1) 0 = y := ⟨_, rfl⟩
   have HY := hid hy
   have hcn : i + 1 < n → wr.cell? ⟨b, off + (i + 1), none⟩ = some (.int .i64 y) := fun hlt => seg_cell (Own.seg S.s) hlt hy
   have HB := hid S.b
   clear S hp he hpt htok hig LE hy
   by_cases hl : i + 1 = n
   ·have qw : IntKind.i64.wrap ((i : Int) + 1) = (i : Int) + 1 := wrap_small (by omega) (by omega)
    have qd : ((i : Int) + 1 == (n : Int)) = true := by simp; omega
    have HC := hid (show i + 1 = (placesI d.1 d.2 t).length ∨ endR d.1 t ((placesI d.1 d.2 t).getD i 0) ≤ (placesI d.1 d.2 t).getD (i + 1) 0 from .inl (by rw [HNL.out]; exact hl))
    clear hcn LE1
    go_wp2_with fail
    go_quiet (fail)
    have S2 := hid (HS.out.next (drewN_below wr nq))
    clear K0 K1 HS HB
    have ho : marks.Own (wr.drewN nq) (w.heap.size + 1) (.slice O on oc) (inN (endR d.1 t) (placesI d.1 d.2 t) i) := S2.out.o
    have hsz : w.heap.size < (wr.drewN nq).heap.size := S2.out.r.lt
    go_wp2_with (at_builtin; refine app1Q rfl _ _ rfl (w.heap.size + 1) O on oc _ rfl (Go.Proofs.YtmoidijngeijkaaGreat.sym.Own.alloc ho _) (wr.drewN nq).heap.size 1 (p : Int) rfl ((Row.new _ _ _).cell 0) (by omega) (by simp; omega) ?_; intro O' oc' w4 ho4 hg4 hat4)
    have F := hid (show Li w (.slice A0 n0 cs0) (.slice V q cv) (some ⟨b, off, none⟩) n cA (placesI d.1 d.2 t) O' (on + 1) oc' (inN (endR d.1 t) (placesI d.1 d.2 t) (i + 1)) w4 from by rw [in_yes HC.out, HP.out]; exact S2.out.app ho4 hg4 hat4)
    clear ho4 hg4 hat4 ho S2 HC
    go_wp2
    go_roundg (gk - 1)
    case measure => have := HI.out; omega
    case rel => exact ⟨i + 1, on + 1, oc', O', by (first | (simp; done) | (simp; omega)), by have := HI.out; omega, rfl, by omega, F.out⟩
   ·have qw : IntKind.i64.wrap ((i : Int) + 1) = (i : Int) + 1 := wrap_small (by omega) (by omega)
    have qd : ((i : Int) + 1 == (n : Int)) = false := by simp; omega
    have q2 : (i : Int) + 1 < (n : Int) := by omega
    have q3 : (0 : Int) ≤ (i : Int) + 1 := by omega
    have cy := hcn (by omega)
    have LE2 := hid (LE1.out wr.drew HB.out.drew)
    clear LE1
    go_wp2_with fail
    go_region_held3 (fun w' => w'.cell? ⟨w.heap.size, 0, none⟩ = some (.slice A0 n0 cs0) ∧ w'.cell? ⟨b, off + (i + 1), none⟩ = some (.int .i64 y))
     (go_keep)
     (first
      | (go_at_call 111; refine LE2.out.mono ?_; rintro e' w2 ⟨rfl, bb⟩; rw [HEE.out]; have k0 : w2.cell? ⟨w.heap.size, 0, none⟩ = some (.slice A0 n0 cs0) := (bb.cell (p := ⟨w.heap.size, 0, none⟩) zA).trans K0; have cy2 : w2.cell? ⟨b, off + (i + 1), none⟩ = some (.int .i64 y) := (bb.cell (p := ⟨b, off + (i + 1), none⟩) zB).trans cy))
    have S2 := hid ((HS.out.next (drew_below wr)).next bb)
    clear K0 K1 HS HB k0 bb LE2 cy hcn
    by_cases hye : (e : Int) ≤ y
    ·have HC := hid (show i + 1 = (placesI d.1 d.2 t).length ∨ endR d.1 t ((placesI d.1 d.2 t).getD i 0) ≤ (placesI d.1 d.2 t).getD (i + 1) 0 from .inr (by rw [HP.out, HEE.out, HY.out]; exact hye))
     have ho : marks.Own w2 (w.heap.size + 1) (.slice O on oc) (inN (endR d.1 t) (placesI d.1 d.2 t) i) := S2.out.o
     have hsz : w.heap.size < w2.heap.size := S2.out.r.lt
     go_wp2_with (at_builtin; refine app1Q rfl _ _ rfl (w.heap.size + 1) O on oc _ rfl (Go.Proofs.YtmoidijngeijkaaGreat.sym.Own.alloc ho _) w2.heap.size 1 (p : Int) rfl ((Row.new _ _ _).cell 0) (by omega) (by simp; omega) ?_; intro O' oc' w4 ho4 hg4 hat4)
     have F := hid (show Li w (.slice A0 n0 cs0) (.slice V q cv) (some ⟨b, off, none⟩) n cA (placesI d.1 d.2 t) O' (on + 1) oc' (inN (endR d.1 t) (placesI d.1 d.2 t) (i + 1)) w4 from by rw [in_yes HC.out, HP.out]; exact S2.out.app ho4 hg4 hat4)
     clear ho4 hg4 hat4 ho S2 HC
     go_wp2
     go_roundg (gk - 1)
     case measure => have := HI.out; omega
     case rel => exact ⟨i + 1, on + 1, oc', O', by (first | (simp; done) | (simp; omega)), by have := HI.out; omega, rfl, by omega, F.out⟩
    ·have HC := hid (show ¬ (i + 1 = (placesI d.1 d.2 t).length ∨ endR d.1 t ((placesI d.1 d.2 t).getD i 0) ≤ (placesI d.1 d.2 t).getD (i + 1) 0) from by rw [HNL.out, HP.out, HEE.out, HY.out]; omega)
     have F := hid (show Li w (.slice A0 n0 cs0) (.slice V q cv) (some ⟨b, off, none⟩) n cA (placesI d.1 d.2 t) O on oc (inN (endR d.1 t) (placesI d.1 d.2 t) (i + 1)) w2 from by rw [in_no HC.out]; exact S2.out)
     clear S2 HC
     go_wp2
     go_roundg (gk - 1)
     case measure => have := HI.out; omega
     case rel => exact ⟨i + 1, on, oc, O, by (first | (simp; done) | (simp; omega)), by have := HI.out; omega, rfl, by omega, F.out⟩
  ·have e1 : i = n := by have := HI.out; omega
   subst e1
   have h1 : ¬ (i : Int) < (i : Int) := by omega
   have F := hid (HS.out.list (show _ = inmostI d.1 d.2 t by unfold inmostI inL; rw [HNL.out]))
   clear HS LE K0 K1 S
   go_wp2
   go_ret
   exact F.out
set_option maxHeartbeats 4000000 in
theorem outmost (a v u : Value) (d : Dat sSystem) (t : List Int) (w : World) (h : Rd w w.heap.size sSystem [a, v] d) (ht : Rd w w.heap.size sI [u] t) (hz : sz sSystem d ≤ 1048576) (hok : rightB d.1 d.2 t = true) :
  Calls Tryz.prog 130 #[.agg #[a, v], u] w (AnsList w (outmostI d.1 d.2 t)) := by
 have htv := ht
 have h0 := h
 obtain ⟨T, m, c, rfl, hT, hcT⟩ := rd_ints.1 ht
 obtain ⟨A0, n0, cs0, V, q, cv, rfl, rfl, hs, hc, hcv, hq, hn, hq1, hrs, hsg, hE⟩ := rd_sys h hz
 have hm : m ≤ 1048576 := by have := (term_len (right_parts hok).2).2; have := hT.1; omega
 obtain ⟨W, hW, rA, bel⟩ := box1 w 65 #[.slice A0 n0 cs0, .slice V q cv]
 have LA := hid (iter.places _ _ _ d t W (h0.next bel) (htv.next bel) hz hok)
 rw [placesL_eq hok] at LA
 have LE := hid (fun (w1 : World) (bb : Below w.heap.size w w1) p hok (hp : p < t.length) => endIn (cs := cs0) (c := c) (hs.next bb) (hT.next bb) hn hm hok hp)
 have K0 : W.cell? ⟨w.heap.size, 0, none⟩ = some (.slice A0 n0 cs0) := rA.cell 0
 have K1 : W.cell? ⟨w.heap.size, 1, none⟩ = some (.slice V q cv) := rA.cell 1
 have HW := hid hW
 clear hW h h0 ht htv hT hcT hs hc hcv hq hrs hsg hE
 go_enter Tryz.func130, Tryz.ntmps130
 go_wp2_with fail
 rw [← HW.out]
 go_wp2_with fail
 refine LA.out.mono ?_
 rintro e w1 ⟨A, n, cA, rfl, oA, bb⟩
 have hnl : (placesI d.1 d.2 t).length = n := (Own.len oA).symm
 have hn60 : n ≤ 60 := by rw [← hnl]; exact placesI_len
 have HNL := hid hnl
 have H1 := hid (show Li w (.slice A0 n0 cs0) (.slice V q cv) A n cA (placesI d.1 d.2 t) none 0 0 [] w1 from
  ⟨rA.next bb, Own.nil _ _, next_trans bel bb, Own.lower oA rA.lt, fun k hk e => by cases e⟩)
 clear oA bb rA bel K0 K1 HW LA hnl
 go_wp2_with fail
 go_loopg [5, 6, 13] n (fun g out end_ i_ wr => ∃ (i on oc : Nat) (O : Option Addr), i_ = .int .i64 i ∧ i + g = n ∧ out = .slice O on oc ∧ on ≤ i ∧ end_ = .int .i64 (outN (endR d.1 t) (placesI d.1 d.2 t) i).2 ∧ Li w (.slice A0 n0 cs0) (.slice V q cv) A n cA (placesI d.1 d.2 t) O on oc (outN (endR d.1 t) (placesI d.1 d.2 t) i).1 wr)
 case atStart => exact ⟨0, 0, 0, none, rfl, by omega, rfl, Nat.le_refl _, rfl, H1.out⟩
 case round =>
  clear H1
  obtain ⟨i, on, oc, O, rfl, hig, rfl, hon, rfl, S⟩ := hrel
  have HI := hid hig
  have HS := hid S
  have K0 : wr.cell? ⟨w.heap.size, 0, none⟩ = some (.slice A0 n0 cs0) := S.r.cell 0
  have K1 : wr.cell? ⟨w.heap.size, 1, none⟩ = some (.slice V q cv) := S.r.cell 1
  obtain ⟨e0, he0⟩ : ∃ e0, (outN (endR d.1 t) (placesI d.1 d.2 t) i).2 = e0 := ⟨_, rfl⟩
  rw [he0]
  have HE0 := hid he0
  clear he0
  by_cases hi : i < n
  ·have h1 : (i : Int) < (n : Int) := by omega
   have h2 : (0 : Int) ≤ (i : Int) := by omega
   obtain ⟨b, off, eA, hbl, ci⟩ := (Own.seg S.s).round hi
   subst eA
   obtain ⟨p, hp, hpt, htok, e, he, he60, hp60⟩ := place_at HNL.out hi
   rw [hp] at ci
   have HP := hid hp
   have HEE := hid he
   have LE1 := hid (fun w1 bb => LE.out w1 bb p htok hpt)
   clear S hp he hpt htok hig LE
   by_cases hye : e0 ≤ (p : Int)
   ·have HC := hid (show (outN (endR d.1 t) (placesI d.1 d.2 t) i).2 ≤ (placesI d.1 d.2 t).getD i 0 from by rw [HE0.out, HP.out]; exact hye)
    have ho : marks.Own wr (w.heap.size + 1) (.slice O on oc) (outN (endR d.1 t) (placesI d.1 d.2 t) i).1 := HS.out.o
    have hsz : w.heap.size < wr.heap.size := HS.out.r.lt
    have HAPP := hid (fun (O' : Option Addr) (oc' : Nat) (o : Obj) (w4 : World) ho4 (hg4 : (wr.alloc o).grownBy w4 (blk O)) hat4 => (HS.out.app (y := (p : Int)) (O' := O') (oc' := oc') ho4 hg4 hat4))
    go_wp2_with (at_builtin; refine app1Q rfl _ _ rfl (w.heap.size + 1) O on oc _ rfl (Go.Proofs.YtmoidijngeijkaaGreat.sym.Own.alloc ho _) wr.heap.size 1 (p : Int) rfl ((Row.new _ _ _).cell 0) (by omega) (by simp; omega) ?_; intro O' oc' w4 ho4 hg4 hat4; have S4 := HAPP.out _ _ _ _ ho4 hg4 hat4; have k0 : w4.cell? ⟨w.heap.size, 0, none⟩ = some (.slice A0 n0 cs0) := S4.r.cell 0)
    have HS4 := hid S4
    have LE2 := hid (LE1.out w4 S4.b)
    clear ho4 hg4 hat4 S4 HS ho HAPP K0 K1 ci LE1
    refine LE2.out.mono ?_
    rintro e' w5 ⟨rfl, bb⟩
    rw [HEE.out]
    have F := hid (show outN (endR d.1 t) (placesI d.1 d.2 t) (i + 1) = ((outN (endR d.1 t) (placesI d.1 d.2 t) i).1 ++ [(p : Int)], (e : Int)) ∧ Li w (.slice A0 n0 cs0) (.slice V q cv) (some ⟨b, off, none⟩) n cA (placesI d.1 d.2 t) O' (on + 1) oc' ((outN (endR d.1 t) (placesI d.1 d.2 t) i).1 ++ [(p : Int)]) w5 from ⟨by rw [out_yes HC.out, HP.out, HEE.out], HS4.out.next bb⟩)
    clear bb HS4 k0 LE2
    go_wp2
    go_roundg (gk - 1)
    case measure => have := HI.out; omega
    case rel => exact ⟨i + 1, on + 1, oc', O', by simp, by have := HI.out; omega, rfl, by omega, by rw [F.out.1], by rw [F.out.1]; exact F.out.2⟩
   ·have HC := hid (show ¬ (outN (endR d.1 t) (placesI d.1 d.2 t) i).2 ≤ (placesI d.1 d.2 t).getD i 0 from by rw [HE0.out, HP.out]; exact hye)
    have F := hid (show Li w (.slice A0 n0 cs0) (.slice V q cv) (some ⟨b, off, none⟩) n cA (placesI d.1 d.2 t) O on oc (outN (endR d.1 t) (placesI d.1 d.2 t) (i + 1)).1 wr from by rw [out_no HC.out]; exact HS.out)
    have F2 := hid (show (outN (endR d.1 t) (placesI d.1 d.2 t) (i + 1)).2 = e0 from by rw [out_no HC.out]; exact HE0.out)
    clear HS HC
    go_wp2
    go_roundg (gk - 1)
    case measure => have := HI.out; omega
    case rel => exact ⟨i + 1, on, oc, O, by simp, by have := HI.out; omega, rfl, by omega, by rw [F2.out], F.out⟩
  ·have e1 : i = n := by have := HI.out; omega
   subst e1
   have h1 : ¬ (i : Int) < (i : Int) := by omega
   have F := hid (HS.out.list (show _ = outmostI d.1 d.2 t by unfold outmostI outL; rw [HNL.out]))
   clear HS LE K0 K1 S
   go_wp2
   go_ret
   exact F.out
set_option maxHeartbeats 2000000 in
theorem backward (a v u : Value) (d : Dat sSystem) (t : List Int) (w : World) (h : Rd w w.heap.size sSystem [a, v] d) (ht : Rd w w.heap.size sI [u] t) (hz : sz sSystem d ≤ 1048576) (hok : rightB d.1 d.2 t = true) :
  Calls Tryz.prog 131 #[.agg #[a, v], u] w (AnsList w (placesI d.1 d.2 t).reverse) := by
 obtain ⟨W, hW, rA, bel⟩ := box1 w 65 #[a, v]
 have LA := hid (iter.places _ _ _ d t W (h.next bel) (ht.next bel) hz hok)
 rw [placesL_eq hok] at LA
 have K0 : W.cell? ⟨w.heap.size, 0, none⟩ = some a := rA.cell 0
 have K1 : W.cell? ⟨w.heap.size, 1, none⟩ = some v := rA.cell 1
 have HW := hid hW
 obtain ⟨T, m, c, rfl, -, -⟩ := rd_ints.1 ht
 clear hW h ht
 go_enter Tryz.func131, Tryz.ntmps131
 go_wp2_with fail
 rw [← HW.out]
 go_wp2_with fail
 refine LA.out.mono ?_
 rintro e w1 ⟨A, n, cA, rfl, oA, bb⟩
 have hn60 : n ≤ 60 := by rw [Own.len oA]; exact placesI_len
 have b1 := next_trans bel bb
 have zW : w.heap.size < W.heap.size := rA.lt
 have LR := hid (reverseOwn W.heap.size A n cA _ w1 oA (by omega))
 clear bb bel rA K0 K1 LA oA
 go_wp2_with fail
 refine LR.out.mono ?_
 rintro e w2 ⟨rfl, oA, hg⟩
 have F := hid (show AnsList w (placesI d.1 d.2 t).reverse (.returned (.slice A n cA)) w2 from ⟨A, n, cA, rfl, Own.lower oA (by omega), b1.grown hg b1.size (fun k e => by have := (ownLt oA k e).1; omega)⟩)
 clear oA hg b1 LR
 go_wp2
 go_ret
 exact F.out
end orderImpl
end
section
open Go.Lib (hid)
namespace strat
open Go.RowKit base ints sig term marks app sym segs kinds shape kindsR ruleSpec orderMath
set_option maxRecDepth 100000
theorem run_find {P : Program} {k : TypeId} {w : World} {l : List MapEntry} (hk : P.underlying k = some (.int .i64)) (x : Int) {r : Option (Nat × Value)} (h : Instr.findNow (.int .i64) (.int .i64 x) l 0 = some r) : (Instr.findKey k (.int .i64 x) l).run P w = .ok r w := by
 unfold Instr.findKey
 simp [run_underlying hk, h, Result.andThen]
theorem run_ins {P : Program} {t k e : TypeId} {w : World} {b clock : Nat} {es : Array MapEntry} (ht : P.underlying t = some (.map k e)) (hk : P.underlying k = some (.int .i64)) (hb : w.heap[b]? = some (.map es clock)) (x : Int) (hx : (Lit.int .i64 x).wf = true) (v : Value) (hne : Instr.findNow (.int .i64) (.int .i64 x) es.toList 0 = some none) :
  (Instr.mapUpdate t (.map (some b)) (.int .i64 x) v).run P w = .ok () (ChangeMaps.setBlock w b (.map (es.push { key := .int .i64 x, val := v, born := clock }) (clock + 1))) := by
 have K : Maps.Keyed P k := Maps.int_keyed hk
 have hkey := Maps.keyOf_int_mk hk hx
 have hf := run_find (w := w) hk x hne
 simp [Instr.mapUpdate, run_underlying ht, MapKept.run_getObj_map hb, K.check w false hkey, hf, MapKept.run_setObj_map _ hb, Result.andThen, ChangeMaps.setBlock]
theorem run_look {P : Program} {t k e : TypeId} {w : World} {b clock : Nat} {es : Array MapEntry} (ht : P.underlying t = some (.map k e)) (hk : P.underlying k = some (.int .i64)) (hb : w.heap[b]? = some (.map es clock)) (x : Int) (hx : (Lit.int .i64 x).wf = true) (z : Value) (hz : (zeroValue e).run P w = .ok z w) (r : Option (Nat × Value)) (hne : Instr.findNow (.int .i64) (.int .i64 x) es.toList 0 = some r) :
  (Instr.lookup t (.map (some b)) (.int .i64 x) true).run P w = .ok (.tuple #[(r.map (·.2)).getD z, .bool r.isSome]) w := by
 have K : Maps.Keyed P k := Maps.int_keyed hk
 have hkey := Maps.keyOf_int_mk hk hx
 have hf := run_find (w := w) hk x hne
 cases r with
 | none => simp [Instr.lookup, run_underlying ht, MapKept.run_getObj_map hb, K.check w _ hkey, hf, hz, Result.andThen]
 | some p => simp [Instr.lookup, run_underlying ht, MapKept.run_getObj_map hb, K.check w _ hkey, hf, Result.andThen]
def pickG (s : Int) : Nat := if s = 1 then 129 else if s = 2 then 130 else 131
def pickV (a v : Value) (s : Int) : Value := if s = 1 then .func (.func 129) #[.agg #[a, v]] #[] else if s = 2 then .func (.func 130) #[.agg #[a, v]] #[] else if s = 3 then .func (.func 131) #[.agg #[a, v]] #[] else .nilFunc
theorem pickV_yes {a v : Value} {s : Int} (h : stratB s = true) : pickV a v s = .func (.func (pickG s)) #[.agg #[a, v]] #[] := by
 have h : 1 ≤ s ∧ s ≤ 3 := of_decide_eq_true h
 have hs : s = 1 ∨ s = 2 ∨ s = 3 := by omega
 rcases hs with rfl | rfl | rfl <;> rfl
def stEs (a v : Value) : Array MapEntry := #[{ key := .int .i64 1, val := .func (.func 129) #[.agg #[a, v]] #[], born := 0 }, { key := .int .i64 2, val := .func (.func 130) #[.agg #[a, v]] #[], born := 1 }, { key := .int .i64 3, val := .func (.func 131) #[.agg #[a, v]] #[], born := 2 }]
theorem look_st (a v : Value) (s : Int) : ∃ r, Instr.findNow (.int .i64) (.int .i64 s) (stEs a v).toList 0 = some r ∧ (r.map (·.2)).getD .nilFunc = pickV a v s ∧ r.isSome = stratB s := by
 unfold stEs pickV stratB
 by_cases h1 : s = 1
 ·subst h1; exact ⟨_, rfl, rfl, rfl⟩
 by_cases h2 : s = 2
 ·subst h2; exact ⟨_, rfl, rfl, rfl⟩
 by_cases h3 : s = 3
 ·subst h3; exact ⟨_, rfl, rfl, rfl⟩
 refine ⟨none, ?_, ?_, ?_⟩
 ·have e1 : (s == 1) = false := by simpa using h1
  have e2 : (s == 2) = false := by simpa using h2
  have e3 : (s == 3) = false := by simpa using h3
  simp [Instr.findNow, Instr.sameNow, e1, e2, e3]
 ·rw [if_neg h1, if_neg h2, if_neg h3]; rfl
 ·symm
  rw [Option.isSome_none, decide_eq_false_iff_not]
  omega
theorem grown_set {w : World} {b clock : Nat} {es : Array MapEntry} (hb : w.heap[b]? = some (.map es clock)) (o : Obj) : w.grownBy (ChangeMaps.setBlock w b o) (some b) :=
 ⟨rfl, rfl, rfl, by simp [ChangeMaps.setBlock], fun i hi hne => ChangeMaps.heap_setBlock_other hb o (fun e => hne (by rw [e]))⟩
set_option maxHeartbeats 1000000 in
theorem strategies (a v : Value) (w : World) : Calls Tryz.prog 88 #[.agg #[a, v]] w fun e w' => ∃ b, e = .returned (.map (some b)) ∧ w'.heap[b]? = some (.map (stEs a v) 3) ∧ Below w.heap.size w w' := by
 have hmm := @run_makeMap Tryz.prog
 have u1 := Tryz.underlying120
 have u2 := Tryz.underlying2
 obtain ⟨W0, hW0⟩ : ∃ W0, W0 = (w.alloc (.cells #[a, v] 65)).alloc (.map #[] 0) := ⟨_, rfl⟩
 have b0 : W0.heap[w.heap.size + 1]? = some (.map #[] 0) := by
  rw [hW0]
  have := (MapKept.heap_alloc (w.alloc (.cells #[a, v] 65)) (.map #[] 0)).1
  simpa using this
 have r0 : Row W0 w.heap.size 65 #[a, v] := by rw [hW0]; exact (Row.new _ _ _).alloc _
 have bel0 : Below w.heap.size w W0 := by rw [hW0]; exact ((Below.refl _ _).alloc (Nat.le_refl _) _).alloc (by simp) _
 obtain ⟨W1, hW1⟩ : ∃ W1, W1 = ChangeMaps.setBlock W0 (w.heap.size + 1) (.map #[{ key := .int .i64 1, val := .func (.func 129) #[.agg #[a, v]] #[], born := 0 }] 1) := ⟨_, rfl⟩
 have h1 := hid (show (Instr.mapUpdate 120 (.map (some (w.heap.size + 1))) (.int .i64 1) (.func (.func 129) #[.agg #[a, v]] #[])).run Tryz.prog W0 = .ok () W1 by rw [hW1]; exact run_ins (P := Tryz.prog) u1 u2 b0 1 (by decide) _ rfl)
 have b1 : W1.heap[w.heap.size + 1]? = some (.map #[{ key := .int .i64 1, val := .func (.func 129) #[.agg #[a, v]] #[], born := 0 }] 1) := by rw [hW1]; exact ChangeMaps.heap_setBlock_same b0 _
 have r1 : Row W1 w.heap.size 65 #[a, v] := by rw [hW1]; exact (ChangeMaps.heap_setBlock_other b0 _ (by omega)).trans r0
 have bel1 : Below w.heap.size w W1 := by rw [hW1]; exact bel0.grown (grown_set b0 _) bel0.size (fun k e => by injection e with e; omega)
 obtain ⟨W2, hW2⟩ : ∃ W2, W2 = ChangeMaps.setBlock W1 (w.heap.size + 1) (.map #[{ key := .int .i64 1, val := .func (.func 129) #[.agg #[a, v]] #[], born := 0 }, { key := .int .i64 2, val := .func (.func 130) #[.agg #[a, v]] #[], born := 1 }] 2) := ⟨_, rfl⟩
 have h2 := hid (show (Instr.mapUpdate 120 (.map (some (w.heap.size + 1))) (.int .i64 2) (.func (.func 130) #[.agg #[a, v]] #[])).run Tryz.prog W1 = .ok () W2 by rw [hW2]; exact run_ins (P := Tryz.prog) u1 u2 b1 2 (by decide) _ rfl)
 have b2 : W2.heap[w.heap.size + 1]? = some (.map #[{ key := .int .i64 1, val := .func (.func 129) #[.agg #[a, v]] #[], born := 0 }, { key := .int .i64 2, val := .func (.func 130) #[.agg #[a, v]] #[], born := 1 }] 2) := by rw [hW2]; exact ChangeMaps.heap_setBlock_same b1 _
 have r2 : Row W2 w.heap.size 65 #[a, v] := by rw [hW2]; exact (ChangeMaps.heap_setBlock_other b1 _ (by omega)).trans r1
 have bel2 : Below w.heap.size w W2 := by rw [hW2]; exact bel1.grown (grown_set b1 _) bel1.size (fun k e => by injection e with e; omega)
 obtain ⟨W3, hW3⟩ : ∃ W3, W3 = ChangeMaps.setBlock W2 (w.heap.size + 1) (.map (stEs a v) 3) := ⟨_, rfl⟩
 have h3 := hid (show (Instr.mapUpdate 120 (.map (some (w.heap.size + 1))) (.int .i64 3) (.func (.func 131) #[.agg #[a, v]] #[])).run Tryz.prog W2 = .ok () W3 by rw [hW3]; exact run_ins (P := Tryz.prog) u1 u2 b2 3 (by decide) _ rfl)
 have F := hid (show ∃ b, Ending.returned (.map (some (w.heap.size + 1))) = .returned (.map (some b)) ∧ W3.heap[b]? = some (.map (stEs a v) 3) ∧ Below w.heap.size w W3 from
  ⟨w.heap.size + 1, rfl, by rw [hW3]; exact ChangeMaps.heap_setBlock_same b2 _, by rw [hW3]; exact bel2.grown (grown_set b2 _) bel2.size (fun k e => by injection e with e; omega)⟩)
 have HW0 := hid hW0
 have HW1 := hid hW1
 have HW2 := hid hW2
 have HW3 := hid hW3
 have k10 : W1.cell? ⟨w.heap.size, 0, none⟩ = some a := r1.cell 0
 have k11 : W1.cell? ⟨w.heap.size, 1, none⟩ = some v := r1.cell 1
 have k20 : W2.cell? ⟨w.heap.size, 0, none⟩ = some a := r2.cell 0
 have k21 : W2.cell? ⟨w.heap.size, 1, none⟩ = some v := r2.cell 1
 clear hW0 hW1 hW2 hW3 b0 b1 b2 r0 r1 r2 bel0 bel1 bel2 u1 u2
 go_enter Tryz.func88, Tryz.ntmps88
 go_wp2_with fail
 rw [← HW0.out, h1.out]
 go_wp2_with fail
 rw [h2.out]
 go_wp2_with fail
 rw [h3.out]
 go_wp2_with fail
 go_ret
 exact F.out
end strat
end
section
open Go.Lib (hid)
open List (setIfInBounds_toArray set_cons_zero set_cons_succ getElem_toArray getElem_cons_zero getElem_cons_succ)
namespace pickImpl
open Go.RowKit base ints sig term termOk endAt endOf marks app sym sub segs segsHelp kinds termFacts shifted shape kindsR ruleMath ruleSpec ruleImpl stepMath walkMath stepsMath varsOf stepSpec stepImpl orderMath appAt orderSpec sortedC strat heldT orderImpl
set_option maxRecDepth 100000
def AnsStr (w : World) (a v : Value) (s : Int) (b : Bool) (e : Ending) (w' : World) : Prop := ∃ A1 n1 c1 A2 n2 c2 f, e = .returned (.tuple #[.agg #[.slice A1 n1 c1, .slice A2 n2 c2], f, .bool b]) ∧ (b = true → .slice A1 n1 c1 = a ∧ .slice A2 n2 c2 = v ∧ f = pickV a v s) ∧ Below w.heap.size w w'
theorem str_no1 {sg : List Int} {rs : List Rl} {t : List Int} {s : Int} (h : sysOkB sg rs = false) : (rightB sg rs t && stratB s) = false := by rw [right_sys h]; rfl
set_option maxHeartbeats 8000000 in
theorem strategyIn (a v u : Value) (d : Dat sSystem) (t : List Int) (s : Int) (w : World) (h : Rd w w.heap.size sSystem [a, v] d) (ht : Rd w w.heap.size sI [u] t) (hz : sz sSystem d ≤ 1048576) (hz' : sz sI t ≤ 1048576) (s1 : -9223372036854775808 ≤ s) (s2 : s ≤ 9223372036854775807) :
  Calls Tryz.prog 35 #[.agg #[a, v], u, .int .i64 s] w (AnsStr w a v s (rightB d.1 d.2 t && stratB s)) := by
 have h0 := h
 obtain ⟨T, m, c, rfl, hT, hcT⟩ := rd_ints.1 ht
 have hm := len_ints hT.1 hz'
 obtain ⟨A, n, cs, V, q, cv, rfl, rfl, hs, hc, hcv, hq, hn, hq1, hrs, hsg, hE⟩ := rd_sys h hz
 have hwf : (Lit.int .i64 s).wf = true := by simp [Lit.wf, IntKind.min, IntKind.max, IntKind.signed, IntKind.bits]; omega
 obtain ⟨W, hW, r0, r1, bel⟩ : ∃ W, W = (w.alloc (.cells #[.slice A n cs, .slice V q cv] 29)).alloc (.cells #[.slice none 0 0, .slice none 0 0] 65) ∧ Row W w.heap.size 29 #[.slice A n cs, .slice V q cv] ∧ Row W (w.heap.size + 1) 65 #[.slice none 0 0, .slice none 0 0] ∧ Below w.heap.size w W := by
  refine ⟨_, rfl, (Row.new w _ _).alloc _, ?_, ((Below.refl _ _).alloc (Nat.le_refl _) _).alloc (by simp) _⟩
  have := Row.new (w.alloc (.cells #[.slice A n cs, .slice V q cv] 29)) 65 #[.slice none 0 0, .slice none 0 0]
  simpa using this
 have HW := hid hW
 have LS := hid (systemOf _ _ d W (h0.next bel) hz)
 have LT := hid (fun (w1 : World) (bb : Below w.heap.size w w1) => implTermOk A T n cs m c d.1 t w1 (hs.next bb) (hT.next bb) hn hm)
 have K0 : W.cell? ⟨w.heap.size, 0, none⟩ = some (.slice A n cs) := r0.cell 0
 have K1 : W.cell? ⟨w.heap.size, 1, none⟩ = some (.slice V q cv) := r0.cell 1
 clear hW h h0 ht hT hcT hs hc hcv hq hrs hsg hE
 cases ok : sysOkB d.1 d.2 with
 | false =>
  have HS := hid (str_no1 (t := t) (s := s) ok)
  rw [ok] at LS
  have LS := hid (show Calls Tryz.prog 44 #[.agg #[.slice A n cs, .slice V q cv]] W (fun e w' => e = .returned (.tuple #[.agg #[.slice none 0 0, .slice none 0 0], .bool false]) ∧ Below W.heap.size W w') from LS.out)
  clear ok LT
  rw [HS.out]
  go_enter Tryz.func35, Tryz.ntmps35
  go_wp2_with fail
  rw [← HW.out]
  go_wp2_with fail
  refine LS.out.mono ?_
  rintro e w1 ⟨rfl, bb⟩
  replace r1 := r1.next bb
  replace bel := next_trans bel bb
  have zz1 : w.heap.size + 1 < w1.heap.size := r1.lt
  obtain ⟨W2, hW2⟩ : ∃ W2, W2 = w1.alloc (.cells #[.slice none 0 0, .slice none 0 0] 65) := ⟨_, rfl⟩
  have rS : Row W2 w1.heap.size 65 #[.slice none 0 0, .slice none 0 0] := by rw [hW2]; exact Row.new _ _ _
  have b2 : Below w1.heap.size w1 W2 := by rw [hW2]; exact (Below.refl _ _).alloc (Nat.le_refl _) _
  have j0 : W2.cell? ⟨w1.heap.size, 0, none⟩ = some (.slice none 0 0) := rS.cell 0
  have j1 : W2.cell? ⟨w1.heap.size, 1, none⟩ = some (.slice none 0 0) := rS.cell 1
  have LX := hid (strategies (.slice none 0 0) (.slice none 0 0) W2)
  have HW2 := hid hW2
  replace r1 := r1.next b2
  replace bel := next_trans bel b2
  clear bb b2 hW2 LS K0 K1 r0 HW
  go_wp2_with fail
  rw [← HW2.out]
  refine LX.out.mono ?_
  rintro e w3 ⟨b, rfl, hb, bb⟩
  obtain ⟨r, hr1, hr2, hr3⟩ := look_st (.slice none 0 0) (.slice none 0 0) s
  have hlk := run_look (P := Tryz.prog) (w := w3) Tryz.underlying120 Tryz.underlying2 hb s hwf .nilFunc (by kernel_rfl) r hr1
  rw [hr2, hr3] at hlk
  obtain ⟨pv, hpv⟩ : ∃ x, pickV (.slice none 0 0) (.slice none 0 0) s = x := ⟨_, rfl⟩
  obtain ⟨bs, hbs⟩ : ∃ x, stratB s = x := ⟨_, rfl⟩
  rw [hpv, hbs] at hlk
  clear hbs
  have HPV := hid hpv
  replace r1 := r1.next bb
  replace rS := rS.next bb
  replace bel := next_trans bel bb
  have zz2 : W2.heap.size ≤ w3.heap.size := bb.size
  clear hr1 hr2 hr3 hpv HW2 LX bb j0 j1 hb
  replace r1 := r1.next (drew_below w3)
  replace rS := rS.next (drew_below w3)
  replace bel := next_trans bel (drew_below w3)
  have c0 : w3.drew.cell? ⟨w1.heap.size, 0, none⟩ = some (.slice none 0 0) := rS.cell 0
  have c1 : w3.drew.cell? ⟨w1.heap.size, 1, none⟩ = some (.slice none 0 0) := rS.cell 1
  have HR1 := hid r1
  have HRS := hid rS
  have JB3 := hid bel
  clear r1 rS bel
  generalize w1.heap.size = B at *
  go_upto_region 3 with (fail)
  clear hlk
  refine AnyT.start (S := (fun w' => w'.cell? ⟨B, 0, none⟩ = some (.slice none 0 0) ∧ w'.cell? ⟨B, 1, none⟩ = some (.slice none 0 0))) (fun _ => false) (by kernel_rfl) ⟨c0, c1⟩ (fun hHeld => ?_)
  generalize w3.drew = w5 at *
  refine AnyT.take (i := 0) (v := ?_) rfl (by kernel_rfl) (by kernel_rfl) (by kernel_rfl) (by kernel_rfl) (fun _ _ _ h => h) (Or.inl ⟨by rfl, ?_⟩) (by assumption) ?_
  rotate_left 1
  ·(intro w0 hSw; (try dsimp only at hSw); go_simp; try with_reducible rfl)
  try simp only [Act.put, setIfInBounds_toArray, set_cons_zero, set_cons_succ, getElem_toArray, getElem_cons_zero, getElem_cons_succ]
  refine AnyT.takeA (i := 1) (v := ?_) rfl (by kernel_rfl) (by kernel_rfl) (by kernel_rfl) (fun _ _ _ h => h) (Or.inl ⟨by rfl, ?_⟩) ?_
  rotate_left 1
  ·(intro w0 _; go_simp; try with_reducible rfl)
  try simp only [Act.put, setIfInBounds_toArray, set_cons_zero, set_cons_succ, getElem_toArray, getElem_cons_zero, getElem_cons_succ]
  refine AnyT.takeA (i := 2) (v := ?_) rfl (by kernel_rfl) (by kernel_rfl) (by kernel_rfl) (fun _ _ _ h => h) (Or.inl ⟨by rfl, ?_⟩) ?_
  rotate_left 1
  ·(intro w0 _; go_simp; try with_reducible rfl)
  try simp only [Act.put, setIfInBounds_toArray, set_cons_zero, set_cons_succ, getElem_toArray, getElem_cons_zero, getElem_cons_succ]
  refine AnyT.takeA (i := 3) (v := ?_) rfl (by kernel_rfl) (by kernel_rfl) (by kernel_rfl) (fun _ _ _ h => h) (Or.inl ⟨by rfl, ?_⟩) ?_
  rotate_left 1
  ·(intro w0 _; go_simp; try with_reducible rfl)
  try simp only [Act.put, setIfInBounds_toArray, set_cons_zero, set_cons_succ, getElem_toArray, getElem_cons_zero, getElem_cons_succ]
  refine AnyT.takeA (i := 4) (v := undef) rfl (by kernel_rfl) (by kernel_rfl) (by kernel_rfl) (fun _ _ _ h => h) (Or.inr ⟨by rfl, rfl⟩) ?_
  try simp only [Act.put, setIfInBounds_toArray, set_cons_zero, set_cons_succ, getElem_toArray, getElem_cons_zero, getElem_cons_succ]
  refine AnyT.takeA (i := 5) (v := ?_) rfl (by kernel_rfl) (by kernel_rfl) (by kernel_rfl) (fun _ _ _ h => h) (Or.inl ⟨by rfl, ?_⟩) ?_
  rotate_left 1
  ·(intro w0 _; go_simp; try with_reducible rfl)
  try simp only [Act.put, setIfInBounds_toArray, set_cons_zero, set_cons_succ, getElem_toArray, getElem_cons_zero, getElem_cons_succ]
  refine AnyT.takeA (i := 6) (v := ?_) rfl (by kernel_rfl) (by kernel_rfl) (by kernel_rfl) (fun _ _ _ h => h) (Or.inl ⟨by rfl, ?_⟩) ?_
  rotate_left 1
  ·(intro w0 _; go_simp; try with_reducible rfl)
  try simp only [Act.put, setIfInBounds_toArray, set_cons_zero, set_cons_succ, getElem_toArray, getElem_cons_zero, getElem_cons_succ]
  refine AnyT.takeA (i := 7) (v := undef) rfl (by kernel_rfl) (by kernel_rfl) (by kernel_rfl) (fun _ _ _ h => h) (Or.inr ⟨by rfl, rfl⟩) ?_
  try simp only [Act.put, setIfInBounds_toArray, set_cons_zero, set_cons_succ, getElem_toArray, getElem_cons_zero, getElem_cons_succ]
  refine AnyT.takeA (i := 8) (v := undef) rfl (by kernel_rfl) (by kernel_rfl) (by kernel_rfl) (fun _ _ _ h => h) (Or.inr ⟨by rfl, rfl⟩) ?_
  try simp only [Act.put, setIfInBounds_toArray, set_cons_zero, set_cons_succ, getElem_toArray, getElem_cons_zero, getElem_cons_succ]
  refine AnyT.takeA (i := 9) (v := undef) rfl (by kernel_rfl) (by kernel_rfl) (by kernel_rfl) (fun _ _ _ h => h) (Or.inr ⟨by rfl, rfl⟩) ?_
  try simp only [Act.put, setIfInBounds_toArray, set_cons_zero, set_cons_succ, getElem_toArray, getElem_cons_zero, getElem_cons_succ]
  refine AnyT.call (i := 10) (by kernel_rfl) rfl (fun K hK => ?_)
  try simp only [Act.put, setIfInBounds_toArray, set_cons_zero, set_cons_succ, getElem_toArray, getElem_cons_zero, getElem_cons_succ]
  rw [if_neg (by intro h; cases h)]
  refine hK.out _ _ (fun _ h => h) (fun _ => ?_)
  clear hK K
  try simp only [Act.put, setIfInBounds_toArray, set_cons_zero, set_cons_succ, getElem_toArray, getElem_cons_zero, getElem_cons_succ]
  refine AnyT.takeA (i := 11) (v := ?_) rfl (by kernel_rfl) (by kernel_rfl) (by kernel_rfl) (fun _ _ _ h => h) (Or.inl ⟨by rfl, ?_⟩) ?_
  rotate_left 1
  ·(intro w0 _; go_simp; try with_reducible rfl)
  try simp only [Act.put, setIfInBounds_toArray, set_cons_zero, set_cons_succ, getElem_toArray, getElem_cons_zero, getElem_cons_succ]
  have r9 := HR1.out
  have q9 := HRS.out
  have g0 := r9.free 0
  have g1 := r9.free 1
  have y0 : w5.cell? ⟨w.heap.size + 1, 0, none⟩ = some (.slice none 0 0) := r9.cell 0
  have y1 : w5.cell? ⟨w.heap.size + 1, 1, none⟩ = some (.slice none 0 0) := r9.cell 1
  have ra := r9.put 0 (.slice none 0 0)
  have y2 : (w5.setCell ⟨w.heap.size + 1, 0, none⟩ (.slice none 0 0)).cell? ⟨w.heap.size + 1, 1, none⟩ = some (.slice none 0 0) := ra.cell 1
  have g2 := ra.free 1
  have rb := ra.put 1 (.slice none 0 0)
  have u0 : ((w5.setCell ⟨w.heap.size + 1, 0, none⟩ (.slice none 0 0)).setCell ⟨w.heap.size + 1, 1, none⟩ (.slice none 0 0)).cell? ⟨w.heap.size + 1, 0, none⟩ = some (.slice none 0 0) := rb.cell 0
  have u1 : ((w5.setCell ⟨w.heap.size + 1, 0, none⟩ (.slice none 0 0)).setCell ⟨w.heap.size + 1, 1, none⟩ (.slice none 0 0)).cell? ⟨w.heap.size + 1, 1, none⟩ = some (.slice none 0 0) := rb.cell 1
  have a3 := (q9.far (show B ≠ w.heap.size + 1 by omega) (p := ⟨w.heap.size + 1, 0, none⟩) (.slice none 0 0)).far (show B ≠ w.heap.size + 1 by omega) (p := ⟨w.heap.size + 1, 1, none⟩) (.slice none 0 0)
  have HA3 := hid a3
  have hb9 : Below w.heap.size w w5 := JB3.out
  have HFZ := hid (show AnsStr w (.slice A n cs) (.slice V q cv) s false (.returned (.tuple #[.agg #[.slice none 0 0, .slice none 0 0], pv, .bool false])) ((w5.setCell ⟨w.heap.size + 1, 0, none⟩ (.slice none 0 0)).setCell ⟨w.heap.size + 1, 1, none⟩ (.slice none 0 0)) from ⟨_, _, _, _, _, _, pv, rfl, (fun e => by cases e), (hb9.setCell (show w.heap.size ≤ w.heap.size + 1 by omega) _).setCell (show w.heap.size ≤ w.heap.size + 1 by omega) _⟩)
  clear ra rb r9 q9 a3 hb9
  refine AnyT.call (i := 12) (by kernel_rfl) rfl (fun K hK => ?_)
  try simp only [Act.put, setIfInBounds_toArray, set_cons_zero, set_cons_succ, getElem_toArray, getElem_cons_zero, getElem_cons_succ]
  rw [if_pos (by rfl)]
  go_simp
  refine hK.out _ _ (fun _ _ => ?_) (fun hKeep => ?_)
  ·exact ⟨HA3.out.cell 0, HA3.out.cell 1⟩
  replace hHeld := hKeep (by first | rfl | trivial) hHeld
  clear hK K hKeep
  try simp only [Act.put, setIfInBounds_toArray, set_cons_zero, set_cons_succ, getElem_toArray, getElem_cons_zero, getElem_cons_succ]
  refine AnyT.takeA (i := 13) (v := ?_) rfl (by kernel_rfl) (by kernel_rfl) (by kernel_rfl) (fun _ _ _ h => h) (Or.inl ⟨by rfl, ?_⟩) ?_
  rotate_left 1
  ·(intro w0 _; go_simp; try with_reducible rfl)
  try simp only [Act.put, setIfInBounds_toArray, set_cons_zero, set_cons_succ, getElem_toArray, getElem_cons_zero, getElem_cons_succ]
  refine AnyT.takeA (i := 14) (v := ?_) rfl (by kernel_rfl) (by kernel_rfl) (by kernel_rfl) (fun _ _ _ h => h) (Or.inl ⟨by rfl, ?_⟩) ?_
  rotate_left 1
  ·(intro w0 _; go_simp; try with_reducible rfl)
  try simp only [Act.put, setIfInBounds_toArray, set_cons_zero, set_cons_succ, getElem_toArray, getElem_cons_zero, getElem_cons_succ]
  refine AnyT.done (by kernel_rfl) ?_ _
  go_wp2
  exact bodyPost_ret (v := .tuple #[.agg #[.slice none 0 0, .slice none 0 0], pv, .bool false]) (by simp [results, Tryz.results35, go_sem, u0, u1]) rfl HFZ.out
 | true =>
  have HS := hid ok
  rw [ok] at LS
  have LS := hid (show Calls Tryz.prog 44 #[.agg #[.slice A n cs, .slice V q cv]] W (fun e w' => e = .returned (.tuple #[.agg #[.slice A n cs, .slice V q cv], .bool true]) ∧ Below W.heap.size W w') from LS.out)
  clear ok
  cases okst : stratB s with
  | false =>
   have HST := hid okst
   clear LT okst
   rw [show (rightB d.1 d.2 t && false) = false by simp]
   go_enter Tryz.func35, Tryz.ntmps35
   go_wp2_with fail
   rw [← HW.out]
   go_wp2_with fail
   refine LS.out.mono ?_
   rintro e w1 ⟨rfl, bb⟩
   replace r1 := r1.next bb
   replace bel := next_trans bel bb
   have zz1 : w.heap.size + 1 < w1.heap.size := r1.lt
   obtain ⟨W2, hW2⟩ : ∃ W2, W2 = w1.alloc (.cells #[.slice A n cs, .slice V q cv] 65) := ⟨_, rfl⟩
   have rS : Row W2 w1.heap.size 65 #[.slice A n cs, .slice V q cv] := by rw [hW2]; exact Row.new _ _ _
   have b2 : Below w1.heap.size w1 W2 := by rw [hW2]; exact (Below.refl _ _).alloc (Nat.le_refl _) _
   have j0 : W2.cell? ⟨w1.heap.size, 0, none⟩ = some (.slice A n cs) := rS.cell 0
   have j1 : W2.cell? ⟨w1.heap.size, 1, none⟩ = some (.slice V q cv) := rS.cell 1
   have LX := hid (strategies (.slice A n cs) (.slice V q cv) W2)
   have HW2 := hid hW2
   replace r1 := r1.next b2
   replace bel := next_trans bel b2
   clear bb b2 hW2 LS K0 K1 r0 HW
   go_wp2_with fail
   rw [← HW2.out]
   refine LX.out.mono ?_
   rintro e w3 ⟨b, rfl, hb, bb⟩
   obtain ⟨r, hr1, hr2, hr3⟩ := look_st (.slice A n cs) (.slice V q cv) s
   have hlk := run_look (P := Tryz.prog) (w := w3) Tryz.underlying120 Tryz.underlying2 hb s hwf .nilFunc (by kernel_rfl) r hr1
   rw [hr2, hr3] at hlk
   obtain ⟨pv, hpv⟩ : ∃ x, pickV (.slice A n cs) (.slice V q cv) s = x := ⟨_, rfl⟩
   rw [hpv, HST.out] at hlk
   have HPV := hid hpv
   replace r1 := r1.next bb
   replace rS := rS.next bb
   replace bel := next_trans bel bb
   have zz2 : W2.heap.size ≤ w3.heap.size := bb.size
   clear hr1 hr2 hr3 hpv HW2 LX bb j0 j1 hb
   replace r1 := r1.next (drew_below w3)
   replace rS := rS.next (drew_below w3)
   replace bel := next_trans bel (drew_below w3)
   have c0 : w3.drew.cell? ⟨w1.heap.size, 0, none⟩ = some (.slice A n cs) := rS.cell 0
   have c1 : w3.drew.cell? ⟨w1.heap.size, 1, none⟩ = some (.slice V q cv) := rS.cell 1
   have HR1 := hid r1
   have HRS := hid rS
   have JB3 := hid bel
   clear r1 rS bel
   generalize w1.heap.size = B at *
   go_upto_region 3 with (fail)
   clear hlk
   refine AnyT.start (S := (fun w' => w'.cell? ⟨B, 0, none⟩ = some (.slice A n cs) ∧ w'.cell? ⟨B, 1, none⟩ = some (.slice V q cv))) (fun _ => false) (by kernel_rfl) ⟨c0, c1⟩ (fun hHeld => ?_)
   generalize w3.drew = w5 at *
   refine AnyT.take (i := 0) (v := ?_) rfl (by kernel_rfl) (by kernel_rfl) (by kernel_rfl) (by kernel_rfl) (fun _ _ _ h => h) (Or.inl ⟨by rfl, ?_⟩) (by assumption) ?_
   rotate_left 1
   ·(intro w0 hSw; (try dsimp only at hSw); go_simp; try with_reducible rfl)
   try simp only [Act.put, setIfInBounds_toArray, set_cons_zero, set_cons_succ, getElem_toArray, getElem_cons_zero, getElem_cons_succ]
   refine AnyT.takeA (i := 1) (v := ?_) rfl (by kernel_rfl) (by kernel_rfl) (by kernel_rfl) (fun _ _ _ h => h) (Or.inl ⟨by rfl, ?_⟩) ?_
   rotate_left 1
   ·(intro w0 _; go_simp; try with_reducible rfl)
   try simp only [Act.put, setIfInBounds_toArray, set_cons_zero, set_cons_succ, getElem_toArray, getElem_cons_zero, getElem_cons_succ]
   refine AnyT.takeA (i := 2) (v := ?_) rfl (by kernel_rfl) (by kernel_rfl) (by kernel_rfl) (fun _ _ _ h => h) (Or.inl ⟨by rfl, ?_⟩) ?_
   rotate_left 1
   ·(intro w0 _; go_simp; try with_reducible rfl)
   try simp only [Act.put, setIfInBounds_toArray, set_cons_zero, set_cons_succ, getElem_toArray, getElem_cons_zero, getElem_cons_succ]
   refine AnyT.takeA (i := 3) (v := ?_) rfl (by kernel_rfl) (by kernel_rfl) (by kernel_rfl) (fun _ _ _ h => h) (Or.inl ⟨by rfl, ?_⟩) ?_
   rotate_left 1
   ·(intro w0 _; go_simp; try with_reducible rfl)
   try simp only [Act.put, setIfInBounds_toArray, set_cons_zero, set_cons_succ, getElem_toArray, getElem_cons_zero, getElem_cons_succ]
   refine AnyT.takeA (i := 4) (v := ?_) rfl (by kernel_rfl) (by kernel_rfl) (by kernel_rfl) (fun _ _ _ h => h) (Or.inl ⟨by rfl, ?_⟩) ?_
   rotate_left 1
   ·(intro w0 _; go_simp; try with_reducible rfl)
   try simp only [Act.put, setIfInBounds_toArray, set_cons_zero, set_cons_succ, getElem_toArray, getElem_cons_zero, getElem_cons_succ]
   refine AnyT.takeA (i := 5) (v := ?_) rfl (by kernel_rfl) (by kernel_rfl) (by kernel_rfl) (fun _ _ _ h => h) (Or.inl ⟨by rfl, ?_⟩) ?_
   rotate_left 1
   ·(intro w0 _; go_simp; try with_reducible rfl)
   try simp only [Act.put, setIfInBounds_toArray, set_cons_zero, set_cons_succ, getElem_toArray, getElem_cons_zero, getElem_cons_succ]
   refine AnyT.takeA (i := 6) (v := ?_) rfl (by kernel_rfl) (by kernel_rfl) (by kernel_rfl) (fun _ _ _ h => h) (Or.inl ⟨by rfl, ?_⟩) ?_
   rotate_left 1
   ·(intro w0 _; go_simp; try with_reducible rfl)
   try simp only [Act.put, setIfInBounds_toArray, set_cons_zero, set_cons_succ, getElem_toArray, getElem_cons_zero, getElem_cons_succ]
   refine AnyT.takeA (i := 7) (v := undef) rfl (by kernel_rfl) (by kernel_rfl) (by kernel_rfl) (fun _ _ _ h => h) (Or.inr ⟨by rfl, rfl⟩) ?_
   try simp only [Act.put, setIfInBounds_toArray, set_cons_zero, set_cons_succ, getElem_toArray, getElem_cons_zero, getElem_cons_succ]
   refine AnyT.takeA (i := 8) (v := undef) rfl (by kernel_rfl) (by kernel_rfl) (by kernel_rfl) (fun _ _ _ h => h) (Or.inr ⟨by rfl, rfl⟩) ?_
   try simp only [Act.put, setIfInBounds_toArray, set_cons_zero, set_cons_succ, getElem_toArray, getElem_cons_zero, getElem_cons_succ]
   refine AnyT.takeA (i := 9) (v := undef) rfl (by kernel_rfl) (by kernel_rfl) (by kernel_rfl) (fun _ _ _ h => h) (Or.inr ⟨by rfl, rfl⟩) ?_
   try simp only [Act.put, setIfInBounds_toArray, set_cons_zero, set_cons_succ, getElem_toArray, getElem_cons_zero, getElem_cons_succ]
   refine AnyT.call (i := 10) (by kernel_rfl) rfl (fun K hK => ?_)
   try simp only [Act.put, setIfInBounds_toArray, set_cons_zero, set_cons_succ, getElem_toArray, getElem_cons_zero, getElem_cons_succ]
   rw [if_neg (by intro h; cases h)]
   refine hK.out _ _ (fun _ h => h) (fun _ => ?_)
   clear hK K
   try simp only [Act.put, setIfInBounds_toArray, set_cons_zero, set_cons_succ, getElem_toArray, getElem_cons_zero, getElem_cons_succ]
   refine AnyT.takeA (i := 11) (v := ?_) rfl (by kernel_rfl) (by kernel_rfl) (by kernel_rfl) (fun _ _ _ h => h) (Or.inl ⟨by rfl, ?_⟩) ?_
   rotate_left 1
   ·(intro w0 _; go_simp; try with_reducible rfl)
   try simp only [Act.put, setIfInBounds_toArray, set_cons_zero, set_cons_succ, getElem_toArray, getElem_cons_zero, getElem_cons_succ]
   have r9 := HR1.out
   have q9 := HRS.out
   have g0 := r9.free 0
   have g1 := r9.free 1
   have y0 : w5.cell? ⟨w.heap.size + 1, 0, none⟩ = some (.slice none 0 0) := r9.cell 0
   have y1 : w5.cell? ⟨w.heap.size + 1, 1, none⟩ = some (.slice none 0 0) := r9.cell 1
   have ra := r9.put 0 (.slice A n cs)
   have y2 : (w5.setCell ⟨w.heap.size + 1, 0, none⟩ (.slice A n cs)).cell? ⟨w.heap.size + 1, 1, none⟩ = some (.slice none 0 0) := ra.cell 1
   have g2 := ra.free 1
   have rb := ra.put 1 (.slice V q cv)
   have u0 : ((w5.setCell ⟨w.heap.size + 1, 0, none⟩ (.slice A n cs)).setCell ⟨w.heap.size + 1, 1, none⟩ (.slice V q cv)).cell? ⟨w.heap.size + 1, 0, none⟩ = some (.slice A n cs) := rb.cell 0
   have u1 : ((w5.setCell ⟨w.heap.size + 1, 0, none⟩ (.slice A n cs)).setCell ⟨w.heap.size + 1, 1, none⟩ (.slice V q cv)).cell? ⟨w.heap.size + 1, 1, none⟩ = some (.slice V q cv) := rb.cell 1
   have a3 := (q9.far (show B ≠ w.heap.size + 1 by omega) (p := ⟨w.heap.size + 1, 0, none⟩) (.slice A n cs)).far (show B ≠ w.heap.size + 1 by omega) (p := ⟨w.heap.size + 1, 1, none⟩) (.slice V q cv)
   have HA3 := hid a3
   have hb9 : Below w.heap.size w w5 := JB3.out
   have HFZ := hid (show AnsStr w (.slice A n cs) (.slice V q cv) s false (.returned (.tuple #[.agg #[.slice A n cs, .slice V q cv], pv, .bool false])) ((w5.setCell ⟨w.heap.size + 1, 0, none⟩ (.slice A n cs)).setCell ⟨w.heap.size + 1, 1, none⟩ (.slice V q cv)) from ⟨_, _, _, _, _, _, pv, rfl, (fun e => by cases e), (hb9.setCell (show w.heap.size ≤ w.heap.size + 1 by omega) _).setCell (show w.heap.size ≤ w.heap.size + 1 by omega) _⟩)
   clear ra rb r9 q9 a3 hb9
   refine AnyT.call (i := 12) (by kernel_rfl) rfl (fun K hK => ?_)
   try simp only [Act.put, setIfInBounds_toArray, set_cons_zero, set_cons_succ, getElem_toArray, getElem_cons_zero, getElem_cons_succ]
   rw [if_pos (by rfl)]
   go_simp
   refine hK.out _ _ (fun _ _ => ?_) (fun hKeep => ?_)
   ·exact ⟨HA3.out.cell 0, HA3.out.cell 1⟩
   replace hHeld := hKeep (by first | rfl | trivial) hHeld
   clear hK K hKeep
   try simp only [Act.put, setIfInBounds_toArray, set_cons_zero, set_cons_succ, getElem_toArray, getElem_cons_zero, getElem_cons_succ]
   refine AnyT.takeA (i := 13) (v := ?_) rfl (by kernel_rfl) (by kernel_rfl) (by kernel_rfl) (fun _ _ _ h => h) (Or.inl ⟨by rfl, ?_⟩) ?_
   rotate_left 1
   ·(intro w0 _; go_simp; try with_reducible rfl)
   try simp only [Act.put, setIfInBounds_toArray, set_cons_zero, set_cons_succ, getElem_toArray, getElem_cons_zero, getElem_cons_succ]
   refine AnyT.takeA (i := 14) (v := ?_) rfl (by kernel_rfl) (by kernel_rfl) (by kernel_rfl) (fun _ _ _ h => h) (Or.inl ⟨by rfl, ?_⟩) ?_
   rotate_left 1
   ·(intro w0 _; go_simp; try with_reducible rfl)
   try simp only [Act.put, setIfInBounds_toArray, set_cons_zero, set_cons_succ, getElem_toArray, getElem_cons_zero, getElem_cons_succ]
   refine AnyT.done (by kernel_rfl) ?_ _
   go_wp2
   exact bodyPost_ret (v := .tuple #[.agg #[.slice A n cs, .slice V q cv], pv, .bool false]) (by simp [results, Tryz.results35, go_sem, u0, u1]) rfl HFZ.out
  | true =>
   have HST := hid okst
   clear okst
   obtain ⟨bt, hbt⟩ : ∃ b, termOkB d.1 t = b := ⟨_, rfl⟩
   have HBT := hid (show rightB d.1 d.2 t = bt by unfold rightB; rw [HS.out, hbt]; rfl)
   rw [HBT.out, Bool.and_true]
   have HBE := hid hbt
   clear hbt
   go_enter Tryz.func35, Tryz.ntmps35
   go_wp2_with fail
   rw [← HW.out]
   go_wp2_with fail
   refine LS.out.mono ?_
   rintro e w1 ⟨rfl, bb⟩
   replace r1 := r1.next bb
   replace bel := next_trans bel bb
   have zz1 : w.heap.size + 1 < w1.heap.size := r1.lt
   obtain ⟨W2, hW2⟩ : ∃ W2, W2 = w1.alloc (.cells #[.slice A n cs, .slice V q cv] 65) := ⟨_, rfl⟩
   have rS : Row W2 w1.heap.size 65 #[.slice A n cs, .slice V q cv] := by rw [hW2]; exact Row.new _ _ _
   have b2 : Below w1.heap.size w1 W2 := by rw [hW2]; exact (Below.refl _ _).alloc (Nat.le_refl _) _
   have j0 : W2.cell? ⟨w1.heap.size, 0, none⟩ = some (.slice A n cs) := rS.cell 0
   have j1 : W2.cell? ⟨w1.heap.size, 1, none⟩ = some (.slice V q cv) := rS.cell 1
   have LX := hid (strategies (.slice A n cs) (.slice V q cv) W2)
   have HW2 := hid hW2
   replace r1 := r1.next b2
   replace bel := next_trans bel b2
   clear bb b2 hW2 LS K0 K1 r0 HW
   go_wp2_with fail
   rw [← HW2.out]
   refine LX.out.mono ?_
   rintro e w3 ⟨b, rfl, hb, bb⟩
   obtain ⟨r, hr1, hr2, hr3⟩ := look_st (.slice A n cs) (.slice V q cv) s
   have hlk := run_look (P := Tryz.prog) (w := w3) Tryz.underlying120 Tryz.underlying2 hb s hwf .nilFunc (by kernel_rfl) r hr1
   rw [hr2, hr3] at hlk
   obtain ⟨pv, hpv⟩ : ∃ x, pickV (.slice A n cs) (.slice V q cv) s = x := ⟨_, rfl⟩
   rw [hpv, HST.out] at hlk
   have HPV := hid hpv
   replace r1 := r1.next bb
   replace rS := rS.next bb
   replace bel := next_trans bel bb
   have zz2 : W2.heap.size ≤ w3.heap.size := bb.size
   clear hr1 hr2 hr3 hpv HW2 LX bb j0 j1 hb
   replace r1 := r1.next (drew_below w3)
   replace rS := rS.next (drew_below w3)
   replace bel := next_trans bel (drew_below w3)
   have c0 : w3.drew.cell? ⟨w1.heap.size, 0, none⟩ = some (.slice A n cs) := rS.cell 0
   have c1 : w3.drew.cell? ⟨w1.heap.size, 1, none⟩ = some (.slice V q cv) := rS.cell 1
   have HR1 := hid r1
   have HRS := hid rS
   have JB3 := hid bel
   clear r1 rS bel
   generalize w1.heap.size = B at *
   go_upto_region 3 with (fail)
   clear hlk
   have LT1 := hid (LT.out w3.drew JB3.out)
   unfold AnsTerm at LT1
   rw [HBE.out] at LT1
   clear LT
   have zB : B < w3.drew.heap.size := HRS.out.lt
   refine AnyT.start (S := (fun w' => w'.cell? ⟨B, 0, none⟩ = some (.slice A n cs) ∧ w'.cell? ⟨B, 1, none⟩ = some (.slice V q cv))) (fun _ => false) (by kernel_rfl) ⟨c0, c1⟩ (fun hHeld => ?_)
   generalize w3.drew = w5 at *
   refine AnyT.take (i := 0) (v := ?_) rfl (by kernel_rfl) (by kernel_rfl) (by kernel_rfl) (by kernel_rfl) (fun _ _ _ h => h) (Or.inl ⟨by rfl, ?_⟩) (by assumption) ?_
   rotate_left 1
   ·(intro w0 hSw; (try dsimp only at hSw); go_simp; try with_reducible rfl)
   try simp only [Act.put, setIfInBounds_toArray, set_cons_zero, set_cons_succ, getElem_toArray, getElem_cons_zero, getElem_cons_succ]
   refine AnyT.takeA (i := 1) (v := ?_) rfl (by kernel_rfl) (by kernel_rfl) (by kernel_rfl) (fun _ _ _ h => h) (Or.inl ⟨by rfl, ?_⟩) ?_
   rotate_left 1
   ·(intro w0 _; go_simp; try with_reducible rfl)
   try simp only [Act.put, setIfInBounds_toArray, set_cons_zero, set_cons_succ, getElem_toArray, getElem_cons_zero, getElem_cons_succ]
   refine AnyT.takeA (i := 2) (v := ?_) rfl (by kernel_rfl) (by kernel_rfl) (by kernel_rfl) (fun _ _ _ h => h) (Or.inl ⟨by rfl, ?_⟩) ?_
   rotate_left 1
   ·(intro w0 _; go_simp; try with_reducible rfl)
   try simp only [Act.put, setIfInBounds_toArray, set_cons_zero, set_cons_succ, getElem_toArray, getElem_cons_zero, getElem_cons_succ]
   refine AnyT.takeA (i := 3) (v := ?_) rfl (by kernel_rfl) (by kernel_rfl) (by kernel_rfl) (fun _ _ _ h => h) (Or.inl ⟨by rfl, ?_⟩) ?_
   rotate_left 1
   ·(intro w0 _; go_simp; try with_reducible rfl)
   try simp only [Act.put, setIfInBounds_toArray, set_cons_zero, set_cons_succ, getElem_toArray, getElem_cons_zero, getElem_cons_succ]
   refine AnyT.takeA (i := 4) (v := ?_) rfl (by kernel_rfl) (by kernel_rfl) (by kernel_rfl) (fun _ _ _ h => h) (Or.inl ⟨by rfl, ?_⟩) ?_
   rotate_left 1
   ·(intro w0 _; go_simp; try with_reducible rfl)
   try simp only [Act.put, setIfInBounds_toArray, set_cons_zero, set_cons_succ, getElem_toArray, getElem_cons_zero, getElem_cons_succ]
   refine AnyT.takeA (i := 5) (v := ?_) rfl (by kernel_rfl) (by kernel_rfl) (by kernel_rfl) (fun _ _ _ h => h) (Or.inl ⟨by rfl, ?_⟩) ?_
   rotate_left 1
   ·(intro w0 _; go_simp; try with_reducible rfl)
   try simp only [Act.put, setIfInBounds_toArray, set_cons_zero, set_cons_succ, getElem_toArray, getElem_cons_zero, getElem_cons_succ]
   refine AnyT.takeA (i := 6) (v := ?_) rfl (by kernel_rfl) (by kernel_rfl) (by kernel_rfl) (fun _ _ _ h => h) (Or.inl ⟨by rfl, ?_⟩) ?_
   rotate_left 1
   ·(intro w0 _; go_simp; try with_reducible rfl)
   try simp only [Act.put, setIfInBounds_toArray, set_cons_zero, set_cons_succ, getElem_toArray, getElem_cons_zero, getElem_cons_succ]
   refine AnyT.takeA (i := 7) (v := ?_) rfl (by kernel_rfl) (by kernel_rfl) (by kernel_rfl) (fun _ _ _ h => h) (Or.inl ⟨by rfl, ?_⟩) ?_
   rotate_left 1
   ·(intro w0 _; go_simp; try with_reducible rfl)
   try simp only [Act.put, setIfInBounds_toArray, set_cons_zero, set_cons_succ, getElem_toArray, getElem_cons_zero, getElem_cons_succ]
   refine AnyT.take (i := 8) (v := ?_) rfl (by kernel_rfl) (by kernel_rfl) (by kernel_rfl) (by kernel_rfl) (fun _ _ _ h => h) (Or.inl ⟨by rfl, ?_⟩) (by assumption) ?_
   rotate_left 1
   ·(intro w0 hSw; (try dsimp only at hSw); go_simp; try with_reducible rfl)
   try simp only [Act.put, setIfInBounds_toArray, set_cons_zero, set_cons_succ, getElem_toArray, getElem_cons_zero, getElem_cons_succ]
   refine AnyT.takeA (i := 9) (v := ?_) rfl (by kernel_rfl) (by kernel_rfl) (by kernel_rfl) (fun _ _ _ h => h) (Or.inl ⟨by rfl, ?_⟩) ?_
   rotate_left 1
   ·(intro w0 _; go_simp; try with_reducible rfl)
   try simp only [Act.put, setIfInBounds_toArray, set_cons_zero, set_cons_succ, getElem_toArray, getElem_cons_zero, getElem_cons_succ]
   refine AnyT.call (i := 10) (by kernel_rfl) rfl (fun K hK => ?_)
   try simp only [Act.put, setIfInBounds_toArray, set_cons_zero, set_cons_succ, getElem_toArray, getElem_cons_zero, getElem_cons_succ]
   rw [if_pos (by rfl)]
   go_simp
   (go_at_call 45; refine LT1.out.mono ?_; rintro e w9 ⟨rfl, bb9⟩; have e0 : w9.cell? ⟨B, 0, none⟩ = some (.slice A n cs) := (bb9.cell (p := ⟨B, 0, none⟩) zB).trans c0; have e1 : w9.cell? ⟨B, 1, none⟩ = some (.slice V q cv) := (bb9.cell (p := ⟨B, 1, none⟩) zB).trans c1; go_wp2_with fail)
   refine hK.out _ _ (fun _ _ => ?_) (fun hKeep => ?_)
   ·exact ⟨e0, e1⟩
   replace hHeld := hKeep (by first | rfl | trivial) hHeld
   clear hK K hKeep
   try simp only [Act.put, setIfInBounds_toArray, set_cons_zero, set_cons_succ, getElem_toArray, getElem_cons_zero, getElem_cons_succ]
   refine AnyT.takeA (i := 11) (v := ?_) rfl (by kernel_rfl) (by kernel_rfl) (by kernel_rfl) (fun _ _ _ h => h) (Or.inl ⟨by rfl, ?_⟩) ?_
   rotate_left 1
   ·(intro w0 _; go_simp; try with_reducible rfl)
   try simp only [Act.put, setIfInBounds_toArray, set_cons_zero, set_cons_succ, getElem_toArray, getElem_cons_zero, getElem_cons_succ]
   have r9 := HR1.out.next bb9
   have q9 := HRS.out.next bb9
   have g0 := r9.free 0
   have g1 := r9.free 1
   have y0 : w9.cell? ⟨w.heap.size + 1, 0, none⟩ = some (.slice none 0 0) := r9.cell 0
   have y1 : w9.cell? ⟨w.heap.size + 1, 1, none⟩ = some (.slice none 0 0) := r9.cell 1
   have ra := r9.put 0 (.slice A n cs)
   have y2 : (w9.setCell ⟨w.heap.size + 1, 0, none⟩ (.slice A n cs)).cell? ⟨w.heap.size + 1, 1, none⟩ = some (.slice none 0 0) := ra.cell 1
   have g2 := ra.free 1
   have rb := ra.put 1 (.slice V q cv)
   have u0 : ((w9.setCell ⟨w.heap.size + 1, 0, none⟩ (.slice A n cs)).setCell ⟨w.heap.size + 1, 1, none⟩ (.slice V q cv)).cell? ⟨w.heap.size + 1, 0, none⟩ = some (.slice A n cs) := rb.cell 0
   have u1 : ((w9.setCell ⟨w.heap.size + 1, 0, none⟩ (.slice A n cs)).setCell ⟨w.heap.size + 1, 1, none⟩ (.slice V q cv)).cell? ⟨w.heap.size + 1, 1, none⟩ = some (.slice V q cv) := rb.cell 1
   have a3 := (q9.far (show B ≠ w.heap.size + 1 by omega) (p := ⟨w.heap.size + 1, 0, none⟩) (.slice A n cs)).far (show B ≠ w.heap.size + 1 by omega) (p := ⟨w.heap.size + 1, 1, none⟩) (.slice V q cv)
   have HA3 := hid a3
   have hb9 : Below w.heap.size w w9 := next_trans JB3.out bb9
   have HFZ := hid (show AnsStr w (.slice A n cs) (.slice V q cv) s bt (.returned (.tuple #[.agg #[.slice A n cs, .slice V q cv], pv, .bool bt])) ((w9.setCell ⟨w.heap.size + 1, 0, none⟩ (.slice A n cs)).setCell ⟨w.heap.size + 1, 1, none⟩ (.slice V q cv)) from ⟨_, _, _, _, _, _, pv, rfl, (fun _ => ⟨rfl, rfl, HPV.out.symm⟩), (hb9.setCell (show w.heap.size ≤ w.heap.size + 1 by omega) _).setCell (show w.heap.size ≤ w.heap.size + 1 by omega) _⟩)
   clear ra rb r9 q9 a3 hb9
   refine AnyT.call (i := 12) (by kernel_rfl) rfl (fun K hK => ?_)
   try simp only [Act.put, setIfInBounds_toArray, set_cons_zero, set_cons_succ, getElem_toArray, getElem_cons_zero, getElem_cons_succ]
   rw [if_pos (by rfl)]
   go_simp
   refine hK.out _ _ (fun _ _ => ?_) (fun hKeep => ?_)
   ·exact ⟨HA3.out.cell 0, HA3.out.cell 1⟩
   replace hHeld := hKeep (by first | rfl | trivial) hHeld
   clear hK K hKeep
   try simp only [Act.put, setIfInBounds_toArray, set_cons_zero, set_cons_succ, getElem_toArray, getElem_cons_zero, getElem_cons_succ]
   refine AnyT.takeA (i := 13) (v := ?_) rfl (by kernel_rfl) (by kernel_rfl) (by kernel_rfl) (fun _ _ _ h => h) (Or.inl ⟨by rfl, ?_⟩) ?_
   rotate_left 1
   ·(intro w0 _; go_simp; try with_reducible rfl)
   try simp only [Act.put, setIfInBounds_toArray, set_cons_zero, set_cons_succ, getElem_toArray, getElem_cons_zero, getElem_cons_succ]
   refine AnyT.takeA (i := 14) (v := ?_) rfl (by kernel_rfl) (by kernel_rfl) (by kernel_rfl) (fun _ _ _ h => h) (Or.inl ⟨by rfl, ?_⟩) ?_
   rotate_left 1
   ·(intro w0 _; go_simp; try with_reducible rfl)
   try simp only [Act.put, setIfInBounds_toArray, set_cons_zero, set_cons_succ, getElem_toArray, getElem_cons_zero, getElem_cons_succ]
   refine AnyT.done (by kernel_rfl) ?_ _
   go_wp2
   exact bodyPost_ret (v := .tuple #[.agg #[.slice A n cs, .slice V q cv], pv, .bool bt]) (by simp [results, Tryz.results35, go_sem, u0, u1]) rfl HFZ.out
def PickFn (g : Nat) (a v : Value) (d : Dat sSystem) (s : Int) (w : World) : Prop := ∀ (W : World) (u : Value) (t : List Int), Below w.heap.size w W → Rd W W.heap.size sI [u] t → rightB d.1 d.2 t = true → ∃ L, L.head? = (selL d.1 d.2 t s).head? ∧ L.length ≤ 60 ∧ Calls Tryz.prog g #[.agg #[a, v], u] W (AnsList W L)
theorem PickFn.next {g : Nat} {a v : Value} {d : Dat sSystem} {s : Int} {w w' : World} (h : PickFn g a v d s w) (hb : Below w.heap.size w w') : PickFn g a v d s w' := fun W u t bb ht hr => h W u t (next_trans hb bb) ht hr
theorem pickFn {a v : Value} {d : Dat sSystem} {w : World} {s : Int} (h : Rd w w.heap.size sSystem [a, v] d) (hz : sz sSystem d ≤ 1048576) (hs : stratB s = true) : (∀ args w, (callFunc (pickG s) args).run Tryz.prog w = .ok (.enter (pickG s) args) w) ∧ PickFn (pickG s) a v d s w := by
 have hs : 1 ≤ s ∧ s ≤ 3 := of_decide_eq_true hs
 have hs : s = 1 ∨ s = 2 ∨ s = 3 := by omega
 rcases hs with rfl | rfl | rfl
 ·refine ⟨enters_of Tryz.func129 (by kernel_rfl) rfl, fun W u t bb ht hr => ?_⟩
  exact ⟨inmostI d.1 d.2 t, by unfold inmostI selL; rw [← placesL_eq hr]; rfl, Nat.le_trans (in_len _ _ _) placesI_len, inmost a v u d t W (h.next bb) ht hz hr⟩
 ·refine ⟨enters_of Tryz.func130 (by kernel_rfl) rfl, fun W u t bb ht hr => ?_⟩
  exact ⟨outmostI d.1 d.2 t, by rw [outI_head]; unfold selL; rw [← placesL_eq hr]; rfl, Nat.le_trans (out_len _ _ _) placesI_len, outmost a v u d t W (h.next bb) ht hz hr⟩
 ·refine ⟨enters_of Tryz.func131 (by kernel_rfl) rfl, fun W u t bb ht hr => ?_⟩
  exact ⟨(placesI d.1 d.2 t).reverse, by unfold selL; rw [← placesL_eq hr]; rfl, by rw [List.length_reverse]; exact placesI_len, backward a v u d t W (h.next bb) ht hz hr⟩
theorem red_pick {sg : List Int} {rs : List Rl} {t : List Int} {p j : Nat} (hr : rightB sg rs t = true) (hp : p < t.length) (hj : j < rs.length) : redexB sg rs t (p : Int) (j : Int) = redB sg (rs.getD j ([], [])) t p := by
 rw [redex_yes (there_mk (right_parts hr).1 (right_parts hr).2 (by omega) (by omega))]
 unfold rl
 rw [Int.toNat_natCast, Int.toNat_natCast]
set_option maxHeartbeats 4000000 in
theorem selected (g : Nat) (eg : ∀ args w, (callFunc g args).run Tryz.prog w = .ok (.enter g args) w) (a v u : Value) (d : Dat sSystem) (t : List Int) (s : Int) (w : World) (h : Rd w w.heap.size sSystem [a, v] d) (ht : Rd w w.heap.size sI [u] t) (hz : sz sSystem d ≤ 1048576) (hok : rightB d.1 d.2 t = true) (hg : PickFn g a v d s w) :
  Calls Tryz.prog 89 #[.agg #[a, v], u, .func (.func g) #[.agg #[a, v]] #[]] w (AnsPick w (pickL d.1 d.2 t s)) := by
 have ht60 := (term_len (right_parts hok).2).2
 have hz' : sz sI t ≤ 1048576 := by rw [sz_ints]; omega
 obtain ⟨W, hW, rA, bel⟩ := box1 w 65 #[a, v]
 have HW := hid hW
 obtain ⟨L, hL1, hL2, hL3⟩ := hg W u t bel (ht.next bel) hok
 have LG := hid hL3
 have LH := hid (fun (w1 : World) (bb : Below w.heap.size w w1) x r => hasRedex a v u d t x r w1 (h.next bb) (ht.next bb) hz hz' (right_parts hok).1)
 obtain ⟨T, m, c, rfl, -, -⟩ := rd_ints.1 ht
 have zW : w.heap.size < W.heap.size := rA.lt
 clear hW h ht hg hL3
 go_enter Tryz.func89, Tryz.ntmps89
 go_wp2_with (go_at_fn g; rw [← HW.out]; refine LG.out.mono ?_; rintro e w1 ⟨O, on, oc, rfl, oO, bb⟩; refine (?_ : Hid _).out)
 have hlen := Own.len oO
 replace rA := rA.next bb
 replace bel := next_trans bel bb
 cases hL : L with
 | nil =>
  rw [hL] at hL1 hlen
  replace hlen : on = 0 := hlen
  subst hlen
  have F := hid (ansPick_none (w := w) (pickL_nil hL1.symm) bel)
  clear oO bb bel rA LG LH HW hL1 hL hL2
  refine hid ?_
  go_wp2
  go_ret3
  exact F.out
 | cons x r =>
  rw [hL] at hL1 hlen hL2
  replace hlen : on = r.length + 1 := hlen
  obtain ⟨p, rfl, hp⟩ := sel_at hL1.symm
  obtain ⟨b, off, y, rfl, hb, cy, ey⟩ := (Own.seg oO).spot (k := 0) (by omega)
  have ey : y = (p : Int) := by have := ey.out; rw [hL] at this; simpa using this.symm
  subst ey
  obtain ⟨pa, k, epk, hpa, hk, hred, hlow, -⟩ := pick_step (s := s) hok (pickL_at hL1.symm)
  obtain ⟨q1, q2⟩ := Prod.mk.inj epk
  have e1 : pa = p := by omega
  have e2 : ruleF d.1 d.2 t p = (k : Int) := by simpa using q2
  subst e1
  have HPK := hid (show pickL d.1 d.2 t s = some ((pa : Int), (k : Int)) by rw [pickL_at hL1.symm]; simp [e2])
  have HLH := hid (fun (w1 : World) (bb : Below w.heap.size w w1) (j : Nat) (hj : j ≤ k) => (show Calls Tryz.prog 132 #[.agg #[a, v], .slice T m c, .int .i64 (pa : Int), .int .i64 (j : Int)] w1 (AnsB w1 (decide (j = k))) from by
   have h1 := LH.out w1 bb (pa : Int) (j : Int)
   rw [red_pick hok hpa (by omega)] at h1
   by_cases hjk : j = k
   ·subst hjk
    rw [hred] at h1
    rw [decide_eq_true rfl]
    exact h1
   ·rw [hlow j (by omega)] at h1
    rw [decide_eq_false hjk]
    exact h1))
  have H0 := hid (show Row w1 w.heap.size 65 #[a, v] ∧ Below w.heap.size w w1 from ⟨rA, bel⟩)
  have cy0 : w1.cell? ⟨b, off, none⟩ = some (.int .i64 (pa : Int)) := cy
  have on0 : 0 < on := by omega
  have on1 : (0 : Int) < (on : Int) := by omega
  have hne : ¬ on = 0 := by omega
  have hne2 : ¬ (on : Int) = 0 := by omega
  have hb0 : ((on : Int) == 0) = false := by simpa using hne2
  have hk12 : k ≤ 12 := by have := (sys_parts (right_parts hok).1).2.1; omega
  clear cy oO hL1 hL bb bel rA LG LH hlen hL2 epk hred hlow e2 q1 q2
  refine hid ?_
  go_wp2_with fail
  go_loopg [7] k (fun G r wr => ∃ j : Nat, r = .int .i64 j ∧ j + G = k ∧ Row wr w.heap.size 65 #[a, v] ∧ Below w.heap.size w wr)
  case atStart => exact ⟨0, rfl, by omega, H0.out.1, H0.out.2⟩
  case round =>
   clear H0 cy0
   obtain ⟨j, rfl, hj, rA, bel⟩ := hrel
   have HJ := hid hj
   have K0 : wr.cell? ⟨w.heap.size, 0, none⟩ = some a := rA.cell 0
   have K1 : wr.cell? ⟨w.heap.size, 1, none⟩ = some v := rA.cell 1
   have LX := hid (HLH.out wr bel j (by omega))
   by_cases hjk : j = k
   ·rw [decide_eq_true hjk] at LX
    subst hjk
    have j0 : (0 : Int) ≤ (j : Int) := by omega
    clear hj
    go_wp2_with fail
    refine LX.out.mono ?_
    rintro e w2 ⟨rfl, bb⟩
    have F := hid (ansPick_some (w := w) HPK.out (next_trans bel bb))
    clear bb bel rA K0 K1 LX
    go_wp2
    go_ret3
    exact F.out
   ·rw [decide_eq_false hjk] at LX
    have j0 : (0 : Int) ≤ (j : Int) := by omega
    have j1 : (j : Int) < 12 := by omega
    clear hj
    go_wp2_with fail
    refine LX.out.mono ?_
    rintro e w2 ⟨rfl, bb⟩
    have HA := hid (rA.next bb)
    have HB := hid (next_trans bel bb)
    clear bb bel rA K0 K1 LX
    go_wp2
    go_roundg (gk - 1)
    case measure => have := HJ.out; omega
    case rel => exact ⟨j + 1, by simp, by have := HJ.out; omega, HA.out, HB.out⟩
end pickImpl
end
end Go.Proofs.YtmoidijngeijkaaGreat
