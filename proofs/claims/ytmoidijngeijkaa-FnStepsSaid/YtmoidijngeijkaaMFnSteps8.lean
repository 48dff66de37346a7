/-
  MERGED: my texts Iter, NormImpl, RangeGive, RangePre, StepsIter, SeqImpl, SeqImplB, SeqX, WFnSteps, one behind the other, as they are. By an AI agent.
-/
import Derived.Test.YtmoidijngeijkaaMFnSteps7
import Derived.RangeFuncNested
import Derived.RangeFuncBound
import Derived.RangeFuncCalls
import Derived.RangeFuncLeaves
import Derived.Shelf.Abstract
import Derived.Shelf.RegionOpen
import Derived.WalkKit
import Derived.OwnWalkIn
import Derived.TacticsInMore
import Derived.LoopNIn
import Derived.LoopIn
import Derived.Deep.LoopGhost
namespace Go.Proofs.Ytmoidijngeijkaa
section
open Go.Lib (hid)
namespace iter
open Go.RowKit Go.Shelf base ints sig term termOk endAt endOf marks app sym sub segs segsHelp matchMath matchSpec whole extended termFacts shape kindsR ruleMath ruleSpec stepMath walkMath stepSpec stepImpl
set_option maxRecDepth 100000
attribute [local go_sem] Oper.semAt_some
def rowL (sg : List Int) (rs : List Rl) (t : List Int) (x k : Nat) : List (Nat × Nat) := (List.range k).filterMap fun r => if redB sg (rs.getD r ([], [])) t x = true then some (x, r) else none
def comeL (sg : List Int) (rs : List Rl) (t : List Int) (x : Nat) : List (Nat × Nat) := (List.range x).flatMap fun a => rowL sg rs t a rs.length
def redL (sg : List Int) (rs : List Rl) (t : List Int) : List (Nat × Nat) := comeL sg rs t t.length
section
variable {sg : List Int} {rs : List Rl} {t : List Int}
theorem row_yes {x k : Nat} (h : redB sg (rs.getD k ([], [])) t x = true) : rowL sg rs t x (k + 1) = rowL sg rs t x k ++ [(x, k)] := by unfold rowL; rw [List.range_succ, List.filterMap_append]; simp only [List.filterMap_cons, List.filterMap_nil, h, if_true]
theorem row_no {x k : Nat} (h : redB sg (rs.getD k ([], [])) t x = false) : rowL sg rs t x (k + 1) = rowL sg rs t x k := by unfold rowL; rw [List.range_succ, List.filterMap_append]; simp only [List.filterMap_cons, List.filterMap_nil, h, Bool.false_eq_true, if_false, List.append_nil]
theorem come_succ (x : Nat) : comeL sg rs t (x + 1) = comeL sg rs t x ++ rowL sg rs t x rs.length := by unfold comeL; rw [List.range_succ, List.flatMap_append]; simp
theorem come_pre {x y : Nat} (h : x ≤ y) : comeL sg rs t x <+: comeL sg rs t y := by
 induction y with
 | zero =>
  obtain rfl : x = 0 := by omega
  exact List.prefix_rfl
 | succ y ih =>
  by_cases e : x = y + 1
  ·subst e; exact List.prefix_rfl
  ·exact (ih (by omega)).trans (by rw [come_succ]; exact List.prefix_append _ _)
theorem row_pre {x k q : Nat} (h : k ≤ q) : rowL sg rs t x k <+: rowL sg rs t x q := by
 induction q with
 | zero =>
  obtain rfl : k = 0 := by omega
  exact List.prefix_rfl
 | succ q ih =>
  by_cases e : k = q + 1
  ·subst e; exact List.prefix_rfl
  ·refine (ih (by omega)).trans ?_
   cases hb : redB sg (rs.getD q ([], [])) t x with
   | false => rw [row_no hb]; exact List.prefix_rfl
   | true => rw [row_yes hb]; exact List.prefix_append _ _
theorem part_pre {x k : Nat} (hx : x < t.length) (hk : k ≤ rs.length) : comeL sg rs t x ++ rowL sg rs t x k <+: redL sg rs t := by
 refine List.IsPrefix.trans ?_ (come_pre (show x + 1 ≤ t.length by omega))
 rw [come_succ]
 exact (List.prefix_append_right_inj _).2 (row_pre hk)
theorem red_nil : redL sg rs t = [] ↔ ((List.range t.length).all fun a => rs.all fun x => !redB sg x t a) = true := by
 unfold redL comeL rowL
 rw [List.flatMap_eq_nil_iff, List.all_eq_true]
 refine forall_congr' fun a => forall_congr' fun _ => ?_
 rw [List.filterMap_eq_nil_iff, List.all_eq_true]
 constructor
 ·intro h y hy
  obtain ⟨i, hi, rfl⟩ := List.getElem_of_mem hy
  have h1 := h i (List.mem_range.2 hi)
  have e : rs.getD i ([], []) = rs[i] := by simp only [List.getD, List.getElem?_eq_getElem hi, Option.getD_some]
  rw [e] at h1
  cases hb : redB sg rs[i] t a
  ·rfl
  ·rw [hb] at h1; simp at h1
 ·intro h i hi
  have hi := List.mem_range.1 hi
  have e : rs.getD i ([], []) = rs[i] := by simp only [List.getD, List.getElem?_eq_getElem hi, Option.getD_some]
  have := h rs[i] (List.getElem_mem hi)
  rw [e, if_neg (by simpa using this)]
end
section
variable {P : Program} {n : Nat} {ops : Array Oper} {rest : List Oper} {o : Oper} {a : Act} {w : World} {Q : Exit → Act → World → Prop}
theorem rowAllocIn (hgd : o.guard = none) (t : TypeId) (ho : o.op = .alloc t) (z : Array Value) (hz : ∀ w, (zeroValue t).run P w = .ok (.agg z) w)
  (h : wpListIn Fence.wide n P ops Q rest (a.put o.dst (.pointer (some ⟨w.heap.size, 0, none⟩))) (w.alloc (.cells z t))) : wpListIn Fence.wide n P ops Q (o :: rest) a w :=
 wpListIn_plain hgd fun _ hK => by
  refine ⟨fun _ _ => trivial, ?_⟩
  show Oper.uponIn _ _ _ _ _ _ _ ((Oper.semAt none a.eval o).run P w)
  rw [Oper.semAt_none]
  unfold execOp
  simp only [ho, Instr.alloc, Sem.run_bind, hz, Result.andThen_ok, newVar, Value.cells]
  exact hK _ _ h
theorem rowStoreIn (hgd : o.guard = none) (ty : TypeId) (x y : Operand) (ho : o.op = .store ty x y) (g : Nat) (cells old : Array Value) (t : TypeId) (hx : a.eval x = .pointer (some ⟨g, 0, none⟩)) (hy : a.eval y = .agg cells)
  (hg : w.heap[g]? = some (.cells old t (0, 0))) (hi : (P.info? ty).map (·.size) = some cells.size) (hs : old.size = cells.size) (h1 : cells.all (·.oneCell') = true)
  (h : wpListIn Fence.wide n P ops Q rest (a.put o.dst undef) (w.setRow g cells)) : wpListIn Fence.wide n P ops Q (o :: rest) a w :=
 wpListIn_plain hgd fun _ hK => by
  refine ⟨fun _ _ => trivial, ?_⟩
  show Oper.uponIn _ _ _ _ _ _ _ ((Oper.semAt none a.eval o).run P w)
  rw [Oper.semAt_none]
  unfold execOp
  simp only [ho, hx, hy, Instr.storeAt, Instr.sureAddr, Sem.run_bind, Sem.run_pure, Result.andThen_ok, run_storeVar_row w g t ty old cells hg hi hs h1]
  exact hK _ _ h
end
def SeqPre {α : Type} (n : Nat) (P : Program) (g : Nat) (lb : Array Value) (encs : α → Array Value) (Kp : World → World → Prop) (xs : List α) (w : World) : Prop :=
 ∀ (l : Nat) (J Jx : List α → World → Prop) (W : World), Below w.heap.size w W → AbidesFrom W.heap.size J → AbidesFrom W.heap.size Jx →
  (∀ pre x W1, J pre W1 → pre ++ [x] <+: xs → YieldAt Fence.wide (n - 1) P l (encs x) W1 fun e W' => (e = .returned (.bool true) ∧ J (pre ++ [x]) W' ∧ Kp W1 W') ∨ (e = .returned (.bool false) ∧ Jx (pre ++ [x]) W')) →
  J [] W → CallsIn Fence.wide n P g (#[.func (.yield l) #[] #[]] ++ lb) W fun e W' => (∃ v, e = .returned v) ∧ ((∃ ys, ys = xs ∧ J ys W') ∨ (∃ pre, (pre ≠ [] ∧ pre <+: xs) ∧ Jx pre W'))
def Kr (n₀ B2 B3 : Nat) (A B : World) : Prop := Below n₀ A B ∧ B.heap[B2]? = A.heap[B2]? ∧ B.heap[B3]? = A.heap[B3]?
theorem Kr.refl (n₀ B2 B3 : Nat) (A : World) : Kr n₀ B2 B3 A A := ⟨Below.refl _ _, rfl, rfl⟩
theorem Kr.trans {n₀ B2 B3 : Nat} {A B C : World} (h : Kr n₀ B2 B3 A B) (k : Kr n₀ B2 B3 B C) : Kr n₀ B2 B3 A C := ⟨h.1.trans k.1, k.2.1.trans h.2.1, k.2.2.trans h.2.2⟩
theorem Kr.of_below {n₀ B2 B3 : Nat} {A B : World} (h : Below A.heap.size A B) (h1 : n₀ ≤ A.heap.size) (h2 : B2 < A.heap.size) (h3 : B3 < A.heap.size) : Kr n₀ B2 B3 A B := ⟨h.mono h1, h.block _ h2, h.block _ h3⟩
theorem Kr.row2 {n₀ B2 B3 : Nat} {A B : World} {t : TypeId} {cs : Array Value} (h : Kr n₀ B2 B3 A B) (r : Row A B2 t cs) : Row B B2 t cs := h.2.1.trans r
theorem Kr.row3 {n₀ B2 B3 : Nat} {A B : World} {t : TypeId} {cs : Array Value} (h : Kr n₀ B2 B3 A B) (r : Row A B3 t cs) : Row B B3 t cs := h.2.2.trans r
set_option maxHeartbeats 4000000 in
theorem redexes_stopsK (n : Nat) (hn : 1 ≤ n) (B2 B3 n₀ : Nat) (a v u : Value) (d : Dat sSystem) (t : List Int) (w : World) (hn₀ : n₀ ≤ w.heap.size) (r2 : Row w B2 50 #[a, v]) (r3 : Row w B3 24 #[u])
  (h : Rd w n₀ sSystem [a, v] d) (ht : Rd w n₀ sI [u] t) (hz : sz sSystem d ≤ 1048576) (hok : rightB d.1 d.2 t = true) :
  SeqPre n Try.prog 56 #[.pointer (some ⟨B3, 0, none⟩), .pointer (some ⟨B2, 0, none⟩)] (fun x : Nat × Nat => #[Value.int .i64 (x.1 : Int), .int .i64 (x.2 : Int)]) (Kr n₀ B2 B3) (redL d.1 d.2 t) w := fun l J Jx W hW hJ hJx hY h0 => by
 have hWn := hW.mono hn₀
 replace r2 := r2.next hW
 replace r3 := r3.next hW
 replace h := h.below hWn
 replace ht := ht.below hWn
 have hsW : n₀ ≤ W.heap.size := Nat.le_trans hn₀ hW.size
 obtain ⟨A, m0, cs, V, q, cv, rfl, rfl, -, -, -, hq, -, hq1, -, -, -⟩ := rd_sys (h.more hsW) hz
 obtain ⟨T, m, c, rfl, hT, hcT⟩ := rd_ints.1 ht
 have htl : t.length = m := hT.1
 have hm60 : m ≤ 60 := by have := (term_len (right_parts hok).2).2; omega
 have hmx : m ≤ 1048576 := by omega
 have K3 : W.cell? ⟨B3, 0, none⟩ = some (.slice T m c) := r3.cell 0
 have HQ := hid hq
 have HTL := hid htl
 have LM := hid (fun (w1 : World) (bb : Below n₀ W w1) (x k : Nat) hx hk => matchAt _ _ _ d t x k w1 ((h.below bb).more (Nat.le_trans hsW bb.size)) ((ht.below bb).more (Nat.le_trans hsW bb.size)) hz hok hx hk)
 have HJ := hid hJ
 have HOK := hid (show (∀ k, k < d.2.length → ruleOkB d.1 (d.2.getD k ([], [])) = true) ∧ termOkB d.1 t = true from ⟨fun k hk => sys_rule (right_parts hok).1 hk, (right_parts hok).2⟩)
 have HR2 := hid r2
 have HR3 := hid r3
 clear hT hcT h ht hz hok hq htl hW hWn hn₀ r2 r3
 refine callsIn_of_wp Try.func56 rfl trivial ?_ rfl
 simp only [Try.ntmps56, List.size_toArray, List.length_cons, List.length_nil, Nat.reduceAdd, Nat.reduceSub, Array.replicate_succ, Array.replicate_zero, List.push_toArray, List.append_toArray, List.nil_append, List.cons_append]
 gi_wp2
 gi_loopw [10] (fun i wr => ∃ x : Nat, x ≤ m ∧ i = .int .i64 x ∧ J (comeL d.1 d.2 t x) wr ∧ Kr n₀ B2 B3 W wr) (fun i _ => m - (intOf i).toNat)
 case atStart => exact ⟨0, Nat.zero_le _, rfl, h0, Kr.refl _ _ _ _⟩
 case round =>
  obtain ⟨x, hx, rfl, hJx0, hB⟩ := hrel
  by_cases hlt : x < m
  ·have K2 : wr.cell? ⟨B2, 1, none⟩ = some (.slice V q cv) := (hB.row2 HR2.out).cell 1
   have hxm : (x : Int) < (m : Int) := by omega
   gi_wp2
   gi_loopw [16] (fun i wq => ∃ k : Nat, k ≤ q ∧ i = .int .i64 k ∧ J (comeL d.1 d.2 t x ++ rowL d.1 d.2 t x k) wq ∧ Kr n₀ B2 B3 W wq) (fun i _ => q - (intOf i).toNat)
   case atStart => exact ⟨0, Nat.zero_le _, rfl, by simpa [rowL] using hJx0, hB⟩
   case round =>
    obtain ⟨k, hk, rfl, hJk, hBk⟩ := hrel
    have K20 : wr.cell? ⟨B2, 0, none⟩ = some (.slice A m0 cs) := (hBk.row2 HR2.out).cell 0
    have K21 : wr.cell? ⟨B2, 1, none⟩ = some (.slice V q cv) := (hBk.row2 HR2.out).cell 1
    have K30 : wr.cell? ⟨B3, 0, none⟩ = some (.slice T m c) := (hBk.row3 HR3.out).cell 0
    by_cases hkq : k < q
    ·have hkm : (k : Int) < (q : Int) := by omega
     have hxl : x < t.length := by rw [HTL.out]; exact hlt
     have hkl : k < d.2.length := by rw [HQ.out]; exact hkq
     have LM1 := hid (LM.out wr hBk.1 x k hxl hkl)
     have HRED := hid (red_at (sg := d.1) (t := t) (a := x) (HOK.out.1 k hkl) HOK.out.2 hxl)
     obtain ⟨R, hR⟩ : ∃ R, mst d.1 t (d.2.getD k ([], [])).1 x s0 = R := ⟨_, rfl⟩
     rw [hR] at LM1 HRED
     clear hR
     have HJK := hid hJk
     have HBK := hid hBk
     clear hJk hBk
     gi_wp2_with (refine ⟨trivial, ?_⟩; gi_at_call 57; refine (callsIn_wide.2 LM1.out).mono ?_; rintro e w3 ⟨rs, rfl, tab, hsz, bb⟩; refine (?_ : Hid _).out)
     have one := hid tab.one
     have h24 := hid tab.1
     obtain ⟨bo, hbo⟩ : ∃ bo, R.isSome = bo := ⟨_, rfl⟩
     rw [hbo] at HRED ⊢
     have b2 : Below wr.heap.size wr (w3.alloc (.cells rs 89)) := bb.alloc bb.size _
     have hJ3 := HJ.out _ wr (w3.alloc (.cells rs 89)) none HJK.out (cursor.grown_below b2 none) (fun r e => by cases e)
     have hBn : Kr n₀ B2 B3 W (w3.alloc (.cells rs 89)) := HBK.out.trans (Kr.of_below b2 (Nat.le_trans hsW HBK.out.1.size) (HBK.out.row2 HR2.out).lt (HBK.out.row3 HR3.out).lt)
     have hfull : comeL d.1 d.2 t x ++ rowL d.1 d.2 t x (k + 1) <+: redL d.1 d.2 t := part_pre hxl hkl
     clear tab hsz bb hbo LM1 b2 K20 K21 K30
     cases bo with
     | false =>
      have F := hid (show J (comeL d.1 d.2 t x ++ rowL d.1 d.2 t x (k + 1)) (w3.alloc (.cells rs 89)) ∧ Kr n₀ B2 B3 W (w3.alloc (.cells rs 89)) from ⟨by rw [row_no HRED.out.symm]; exact hJ3, hBn⟩)
      clear hJ3 hBn hfull
      refine hid ?_
      gi_wp2_with (first
       | (refine rowAllocIn rfl 89 rfl z24 zero_b ?_)
       | (refine rowStoreIn rfl 89 _ _ rfl w3.heap.size rs z24 89 rfl rfl (heap_alloc_new w3 _) (by rw [h24.out]; exact size_b) (by rw [h24.out]; rfl) one.out ?_; rw [World.setRow_alloc_new]))
      refine ⟨fun _ h => (by cases h), ?_⟩
      gi_wp2
      go_roundw
      case rel => exact ⟨k + 1, by omega, by simp, F.out.1, F.out.2⟩
      case measure => simp [intOf]; omega
     | true =>
      have hyes := row_yes (rs := d.2) (x := x) (k := k) HRED.out.symm
      rw [hyes, ← List.append_assoc] at hfull
      obtain ⟨fn, tmps, assign, body, hy, hR⟩ := hY _ (x, k) _ hJ3 hfull
      dsimp only at hy
      have HYES := hid hyes
      have HF := hid hfull
      clear hJ3 hyes hfull hY
      refine hid ?_
      gi_wp2_with (first
       | (refine rowAllocIn rfl 89 rfl z24 zero_b ?_)
       | (refine rowStoreIn rfl 89 _ _ rfl w3.heap.size rs z24 89 rfl rfl (heap_alloc_new w3 _) (by rw [h24.out]; exact size_b) (by rw [h24.out]; rfl) one.out ?_; rw [World.setRow_alloc_new]))
      refine hR.mono ?_
      rintro e W3 (⟨rfl, hJ4, hk4⟩ | ⟨rfl, hJx4⟩)
      ·have F := hid (show J (comeL d.1 d.2 t x ++ rowL d.1 d.2 t x (k + 1)) W3 ∧ Kr n₀ B2 B3 W W3 from ⟨by rw [HYES.out, ← List.append_assoc]; exact hJ4, hBn.trans hk4⟩)
       clear hJ4 hk4 hBn
       gi_wp2
       go_roundw
       case rel => exact ⟨k + 1, by omega, by simp, F.out.1, F.out.2⟩
       case measure => simp [intOf]; omega
      ·gi_wp2
       refine bodyPost_ret (results_none rfl _ _ _) rfl ?_
       exact ⟨⟨_, rfl⟩, .inr ⟨_, ⟨by simp, HF.out⟩, hJx4⟩⟩
    ·obtain rfl : k = q := by omega
     gi_wp2
     go_roundw
     case rel => exact ⟨x + 1, by omega, by simp, by rw [come_succ, HQ.out]; exact hJk, hBk⟩
     case measure => simp [intOf]; omega
  ·obtain rfl : x = m := by omega
   gi_wp2
   go_end0
   exact ⟨⟨_, rfl⟩, .inl ⟨_, by unfold redL; rw [HTL.out], hJx0⟩⟩
theorem redexes_stops (n : Nat) (hn : 1 ≤ n) (B2 B3 n₀ : Nat) (a v u : Value) (d : Dat sSystem) (t : List Int) (w : World) (hn₀ : n₀ ≤ w.heap.size) (hB2 : B2 < n₀) (hB3 : B3 < n₀) (r2 : Row w B2 50 #[a, v]) (r3 : Row w B3 24 #[u])
  (h : Rd w n₀ sSystem [a, v] d) (ht : Rd w n₀ sI [u] t) (hz : sz sSystem d ≤ 1048576) (hok : rightB d.1 d.2 t = true) :
  SeqStopsK Fence.wide n Try.prog 56 #[.pointer (some ⟨B3, 0, none⟩), .pointer (some ⟨B2, 0, none⟩)] (fun x : Nat × Nat => #[Value.int .i64 (x.1 : Int), .int .i64 (x.2 : Int)]) (Below n₀) (fun ys => ys = redL d.1 d.2 t) (fun pre => pre ≠ [] ∧ pre <+: redL d.1 d.2 t) (redL d.1 d.2 t).length w := fun l J Jx W hW hJ hJx hY h0 =>
 redexes_stopsK n hn B2 B3 n₀ a v u d t w hn₀ r2 r3 h ht hz hok l J Jx W hW hJ hJx (fun pre x W1 hj hp => (hY pre x W1 hj (by have := hp.length_le; rw [List.length_append, List.length_singleton] at this; omega)).mono fun e W' hh => hh.imp (fun ⟨h1, h2, h3⟩ => ⟨h1, h2, h3, h3.block _ hB2, h3.block _ hB3⟩) id) h0
end iter
end
section
open Go.Lib (hid)
namespace iter
open Go.RowKit base ints sig term termOk endAt inside marks app sym sub segs segsHelp kinds termFacts matchMath whole takeMath take extended varsOf shape kindsR ruleMath ruleSpec ruleImpl stepMath walkMath stepSpec Go.Shelf stepImpl
set_option maxRecDepth 100000
attribute [local go_sem] Oper.semAt_some
theorem redexesFn (a v : Value) (T : Option Addr) (m c : Nat) (w : World) : Calls Try.prog 31 #[.agg #[a, v], .slice T m c] w fun e w' => e = .returned (.func (.func 56) #[] #[.pointer (some ⟨w.heap.size + 1, 0, none⟩), .pointer (some ⟨w.heap.size, 0, none⟩)]) ∧ w' = (w.alloc (.cells #[a, v] 50)).alloc (.cells #[.slice T m c] 24) := by
 have hmf : ∀ (fn : Fn) (first cap : Array Value) (w : World), (Instr.makeFunc fn first cap).run Try.prog w = .ok (.func fn first cap) w := fun _ _ _ _ => rfl
 go_enter Try.func31, Try.ntmps31
 go_wp2
 go_ret
 exact ⟨rfl, rfl⟩
set_option maxHeartbeats 4000000 in
theorem implNormalIn (a v u : Value) (d : Dat sSystem) (t : List Int) (w : World) (h : Rd w w.heap.size sSystem [a, v] d) (ht : Rd w w.heap.size sI [u] t) (hz : sz sSystem d ≤ 1048576) (hz' : sz sI t ≤ 1048576) :
  Calls Try.prog 8 #[.agg #[a, v], u] w (AnsB w (normalB d.1 d.2 t)) := by
 refine (callsIn_wide (n := 5)).1 ?_
 have h0 := h
 have ht0 := ht
 obtain ⟨T, m, c, rfl, hT, hcT⟩ := rd_ints.1 ht
 have hm := len_ints hT.1 hz'
 obtain ⟨A, n, cs, V, q, cv, rfl, rfl, hs, hc, hcv, hq, hn, hq1, hrs, hsg, hE⟩ := rd_sys h hz
 obtain ⟨W, hW, rA, rB, bel⟩ := box2 w 29 4 #[.slice A n cs, .slice V q cv] #[.bool false]
 have HW := hid hW
 have LS := hid (systemOf _ _ d W (h0.next bel) hz)
 have LT := hid (fun (w1 : World) (bb : Below w.heap.size w w1) => implTermOk A T n cs m c d.1 t w1 (hs.next bb) (hT.next bb) hn hm)
 have HH := hid (show Rd w w.heap.size sSystem [.slice A n cs, .slice V q cv] d ∧ Rd w w.heap.size sI [.slice T m c] t from ⟨h0, ht0⟩)
 clear hW h h0 ht ht0 hT hcT hs hc hcv hq hrs hsg hE
 cases ok : sysOkB d.1 d.2 with
 | false =>
  have HS := hid ok
  rw [ok] at LS
  have LS := hid (show Calls Try.prog 27 #[.agg #[.slice A n cs, .slice V q cv]] W (fun e w' => e = .returned (.tuple #[.agg #[.slice none 0 0, .slice none 0 0], .bool false]) ∧ Below W.heap.size W w') from LS.out)
  clear ok
  refine callsIn_of_wp_marks Try.func8 rfl trivial ?_ rfl
  simp only [Try.ntmps8, List.size_toArray, List.length_cons, List.length_nil, Nat.reduceAdd, Nat.reduceSub, Array.replicate_succ, Array.replicate_zero, List.push_toArray, List.append_toArray, List.nil_append, List.cons_append]
  gi_wp2_with (refine ⟨trivial, ?_⟩; gi_at_call 27; rw [← HW.out]; refine (callsIn_wide.2 LS.out).mono ?_; rintro e w1 ⟨rfl, bb⟩; refine (?_ : Hid _).out)
  have b1 := next_trans bel bb
  have rB1 := rB.next bb
  clear rA bb bel rB LS
  have b2 : Below w.heap.size w (w1.alloc (.cells #[.slice none 0 0, .slice none 0 0] 50)) := b1.alloc b1.size _
  have y1 : (w1.alloc (.cells #[.slice none 0 0, .slice none 0 0] 50)).cell? ⟨w.heap.size + 1, 0, none⟩ = some (.bool false) := (rB1.alloc _).cell 0
  have g1 := (rB1.alloc (.cells #[.slice none 0 0, .slice none 0 0] 50)).free 0
  have rb := (rB1.alloc (.cells #[.slice none 0 0, .slice none 0 0] 50)).put 0 (.bool false)
  have u0 : ((w1.alloc (.cells #[.slice none 0 0, .slice none 0 0] 50)).setCell ⟨w.heap.size + 1, 0, none⟩ (.bool false)).cell? ⟨w.heap.size + 1, 0, none⟩ = some (.bool false) := rb.cell 0
  have F := hid (show AnsB w (normalB d.1 d.2 t) (.returned (.bool false)) ((w1.alloc (.cells #[.slice none 0 0, .slice none 0 0] 50)).setCell ⟨w.heap.size + 1, 0, none⟩ (.bool false)) from ansB (by unfold normalB rightB; rw [HS.out]; rfl) (b2.setCell (show w.heap.size ≤ w.heap.size + 1 by omega) _))
  clear b1 b2 rb rB1
  refine hid ?_
  gi_wp2
  refine ⟨trivial, ?_⟩
  gi_wp2
  exact ⟨.bool false, by simp [results, Try.results8, go_sem, u0], F.out⟩
 | true =>
  have HS := hid ok
  rw [ok] at LS
  have LS := hid (show Calls Try.prog 27 #[.agg #[.slice A n cs, .slice V q cv]] W (fun e w' => e = .returned (.tuple #[.agg #[.slice A n cs, .slice V q cv], .bool true]) ∧ Below W.heap.size W w') from LS.out)
  clear ok
  refine callsIn_of_wp_marks Try.func8 rfl trivial ?_ rfl
  simp only [Try.ntmps8, List.size_toArray, List.length_cons, List.length_nil, Nat.reduceAdd, Nat.reduceSub, Array.replicate_succ, Array.replicate_zero, List.push_toArray, List.append_toArray, List.nil_append, List.cons_append]
  gi_wp2_with (refine ⟨trivial, ?_⟩; gi_at_call 27; rw [← HW.out]; refine (callsIn_wide.2 LS.out).mono ?_; rintro e w1 ⟨rfl, bb⟩; refine (?_ : Hid _).out)
  have b1 := next_trans bel bb
  have rB1 := rB.next bb
  clear rA bb bel rB LS
  have b2 : Below w.heap.size w (w1.alloc (.cells #[.slice A n cs, .slice V q cv] 50)) := b1.alloc b1.size _
  have rB2 := rB1.alloc (.cells #[.slice A n cs, .slice V q cv] 50)
  have rS2 := Row.new w1 50 #[.slice A n cs, .slice V q cv]
  have LT1 := hid (LT.out _ b2)
  cases okt : termOkB d.1 t with
  | false =>
   have HT := hid okt
   have LT1 := hid (show Calls Try.prog 28 #[.agg #[.slice A n cs], .slice T m c] (w1.alloc (.cells #[.slice A n cs, .slice V q cv] 50)) (fun e w' => e = .returned (.bool false) ∧ Below (w1.alloc (.cells #[.slice A n cs, .slice V q cv] 50)).heap.size (w1.alloc (.cells #[.slice A n cs, .slice V q cv] 50)) w') from by have := LT1.out; unfold AnsTerm at this; rw [okt] at this; exact this)
   clear okt b1 rB1
   refine hid ?_
   gi_wp2
   refine ⟨trivial, ?_⟩
   refine (callsIn_wide.2 LT1.out).mono ?_
   rintro e w2 ⟨rfl, bb⟩
   have b3 := next_trans b2 bb
   have rB3 := rB2.next bb
   have y1 : w2.cell? ⟨w.heap.size + 1, 0, none⟩ = some (.bool false) := rB3.cell 0
   have g1 := rB3.free 0
   have u0 : (w2.setCell ⟨w.heap.size + 1, 0, none⟩ (.bool false)).cell? ⟨w.heap.size + 1, 0, none⟩ = some (.bool false) := (rB3.put 0 (.bool false)).cell 0
   have F := hid (show AnsB w (normalB d.1 d.2 t) (.returned (.bool false)) (w2.setCell ⟨w.heap.size + 1, 0, none⟩ (.bool false)) from ansB (by unfold normalB rightB; rw [HT.out, Bool.and_false]; rfl) (b3.setCell (show w.heap.size ≤ w.heap.size + 1 by omega) _))
   clear b2 b3 rB2 rB3 bb rS2 LT1 LT
   gi_wp2
   exact ⟨.bool false, by simp [results, Try.results8, go_sem, u0], F.out⟩
  | true =>
   have HT := hid okt
   have LT1 := hid (show Calls Try.prog 28 #[.agg #[.slice A n cs], .slice T m c] (w1.alloc (.cells #[.slice A n cs, .slice V q cv] 50)) (fun e w' => e = .returned (.bool true) ∧ Below (w1.alloc (.cells #[.slice A n cs, .slice V q cv] 50)).heap.size (w1.alloc (.cells #[.slice A n cs, .slice V q cv] 50)) w') from by have := LT1.out; unfold AnsTerm at this; rw [okt] at this; exact this)
   clear okt b1 rB1
   refine hid ?_
   gi_wp2
   refine ⟨trivial, ?_⟩
   refine (callsIn_wide.2 LT1.out).mono ?_
   rintro e w2 ⟨rfl, bb⟩
   have b3 := next_trans b2 bb
   have rB3 := rB2.next bb
   have rS3 := rS2.next bb
   have k0 : w2.cell? ⟨w1.heap.size, 0, none⟩ = some (.slice A n cs) := rS3.cell 0
   have k1 : w2.cell? ⟨w1.heap.size, 1, none⟩ = some (.slice V q cv) := rS3.cell 1
   clear b2 rB2 bb rS2 LT1 LT
   gi_wp2_with (refine ⟨trivial, ?_⟩; gi_at_call 31; refine (callsIn_wide.2 (redexesFn (.slice A n cs) (.slice V q cv) T m c w2)).mono ?_; rintro e w3 ⟨rfl, hw3⟩; subst hw3)
   obtain ⟨W3, hW3, r4, r5, b34⟩ := box2 w2 50 24 #[.slice A n cs, .slice V q cv] #[.slice T m c]
   have b4 := next_trans b3 b34
   have rB4 := rB3.next b34
   have z3 : w2.heap.size + 1 < W3.heap.size := r5.lt
   have hR : rightB d.1 d.2 t = true := by unfold rightB; rw [HS.out, HT.out]; rfl
   rw [← hW3]
   have HSTOPS := redexes_stops 4 (by decide) w2.heap.size (w2.heap.size + 1) W3.heap.size (.slice A n cs) (.slice V q cv) (.slice T m c) d t W3 (Nat.le_refl _) (by omega) z3 r4 r5 (HH.out.1.next b4) (HH.out.2.next b4) hz hR
   clear hW3 r4 r5 b34 rB3 rS3 k0 k1 b3 HH
   refine wpIn_rangeFunc_ownF rfl (by decide) (gf := 56) (lb := #[.pointer (some ⟨w2.heap.size + 1, 0, none⟩), .pointer (some ⟨w2.heap.size, 0, none⟩)]) rfl trivial (enters_of Try.func56 (by kernel_rfl) rfl)
    HSTOPS belowK_t (belowK_b (Nat.le_refl _)) (Below.refl _ _) (fun _ => rfl)
    (fun pre W' => (pre = [] ∧ W'.cell? ⟨w.heap.size + 1, 0, none⟩ = some (.bool false) ∧ W'.frozen? ⟨w.heap.size + 1, 0, none⟩ = false) ∧ Below w.heap.size w W')
    (fun cc pre W' => (cc = .ret ∧ W'.cell? ⟨w.heap.size + 1, 0, none⟩ = some (.bool false)) ∧ Below w.heap.size w W')
    (OwnFrom.and (Own.from (fun s A B row hs hg hr => ⟨hs.1, cell_kept hs.2.1 hg hr, (frozen_kept hs.2.1 hg hr).trans hs.2.2⟩) _) (ownFrom_below (Nat.le_refl _) b4.size))
    (fun cc => OwnFrom.and (Own.from (fun s A B row hs hg hr => ⟨hs.1, cell_kept hs.2 hg hr⟩) _) (ownFrom_below (Nat.le_refl _) b4.size))
    ⟨⟨rfl, rB4.cell 0, rB4.free 0⟩, b4⟩
    (fun x => { tmps := #[.agg #[.slice A n cs, .slice V q cv], .slice T m c, .pointer (some ⟨w.heap.size, 0, none⟩), undef, .pointer (some ⟨w.heap.size + 1, 0, none⟩), .pointer (some ⟨w1.heap.size, 0, none⟩), .bool true, .tuple #[.agg #[.slice A n cs, .slice V q cv], .bool true], .agg #[.slice A n cs, .slice V q cv], .tuple #[.agg #[.slice A n cs, .slice V q cv], .bool true], .agg #[.slice A n cs, .slice V q cv], .bool true, .bool true, .bool false, .bool false, .pointer (some ⟨w1.heap.size, 0, none⟩), .agg #[.slice A n cs], .slice T m c, .bool true, .bool false, .bool false, .agg #[.slice A n cs, .slice V q cv], .slice T m c, .func (.func 56) #[] #[.pointer (some ⟨w2.heap.size + 1, 0, none⟩), .pointer (some ⟨w2.heap.size, 0, none⟩)], .int .i64 (x.1 : Int), .int .i64 (x.2 : Int)], defers := [] }) ?assign ?body ?done ?stop
   case assign =>
    intro l x W' K hK
    gi_wp2
    first | exact hK | simpa using hK
   case body =>
    rintro l pre x W' ⟨⟨hp, hc, hf⟩, hB⟩ _
    gi_wp2
    exact ⟨KeepsOthers.setCell _ _ _, ⟨rfl, World.cell?_setCell_same' _ _ _ (by rw [hc]; rfl)⟩, hB.setCell (p := ⟨w.heap.size + 1, 0, none⟩) (by simp) _⟩
   case done =>
    rintro D ys W' hD rfl ⟨⟨hp, hc, hf⟩, hB⟩ hK
    have hN : normalB d.1 d.2 t = true := by unfold normalB; rw [hR, red_nil.1 hp]; rfl
    have hDw : w.heap.size ≤ D := Nat.le_trans b4.size hD
    gi_wp2
    have hK' := (KeepsOthers.setCell W' ⟨w.heap.size + 1, 0, none⟩ (.bool true)).same D _ hK rfl
    refine ⟨by simp, .inl ⟨_, _, rfl, run_takeDeferred hK', ?_⟩⟩
    have hc5 := cell_kept (World.cell?_setCell_same' W' ⟨w.heap.size + 1, 0, none⟩ (.bool true) (by rw [hc]; rfl)) (grownBy_putObj' _ D (.deferred none)) (fun r e => by cases e; exact ⟨_, hK', rfl⟩)
    refine ⟨.bool true, ?_, ansB hN.symm ((hB.setCell (p := ⟨w.heap.size + 1, 0, none⟩) (by simp) _).trans (belowK_b (w := w) (Nat.le_refl _) _ D _ _ hDw hK' rfl rfl))⟩
    simp [results, Try.results8, go_sem, hc5]
   case stop =>
    rintro D cc pre W' hD ⟨hne, hpre⟩ ⟨⟨rfl, hc⟩, hB⟩ hK
    have hN : normalB d.1 d.2 t = false := by
     cases hb : normalB d.1 d.2 t with
     | false => rfl
     | true =>
      unfold normalB at hb
      rw [hR, Bool.true_and] at hb
      rw [red_nil.2 hb] at hpre
      exact absurd (List.prefix_nil.1 hpre) hne
    have hDw : w.heap.size ≤ D := Nat.le_trans b4.size hD
    gi_wp2
    refine ⟨by simp, .inl ⟨_, _, rfl, run_takeDeferred hK, ?_⟩⟩
    have hc5 := cell_kept hc (grownBy_putObj' _ D (.deferred none)) (fun r e => by cases e; exact ⟨_, hK, rfl⟩)
    refine ⟨.bool false, ?_, ansB hN.symm (hB.trans (belowK_b (w := w) (Nat.le_refl _) W' D _ _ hDw hK rfl rfl))⟩
    simp [results, Try.results8, go_sem, hc5]
end iter
end
section
namespace rangeGive
open Go.RowKit base segs shape
def Kps (n₀ m q : Nat) (A B : World) : Prop := Below n₀ A B ∧ KeepsFrom m A B ∧ ∀ k, m ≤ k → k < q → B.heap[k]? = A.heap[k]?
theorem Kps.trans {n₀ m q : Nat} {A B C : World} (h : Kps n₀ m q A B) (k : Kps n₀ m q B C) : Kps n₀ m q A C := ⟨h.1.trans k.1, h.2.1.trans k.2.1, fun i h1 h2 => (k.2.2 i h1 h2).trans (h.2.2 i h1 h2)⟩
theorem Kps.mono {n₀ m m' q : Nat} {A B : World} (h : Kps n₀ m q A B) (hm : m ≤ m') : Kps n₀ m' q A B := ⟨h.1, ⟨h.2.1.size, fun k o hk => h.2.1.same k o (Nat.le_trans hm hk)⟩, fun k h1 h2 => h.2.2 k (Nat.le_trans hm h1) h2⟩
theorem Kps.of_below {n₀ m q : Nat} {A B : World} (h : Below A.heap.size A B) (h1 : n₀ ≤ A.heap.size) (h2 : q ≤ A.heap.size) : Kps n₀ m q A B := ⟨h.mono h1, KeepsFrom.of_grownBy (row := none) ⟨h.os, h.tape, h.output, h.size, fun i hi _ => h.block i hi⟩ (fun j e => by cases e), fun k _ hk => h.block k (by omega)⟩
theorem kps_turn {n₀ m q l : Nat} {W : World} {o o' : Obj} (h1 : n₀ ≤ l) (h2 : l < m) (hl : W.heap[l]? = some o) : Kps n₀ m q W (W.putObj l o') :=
 ⟨(Below.refl n₀ W).grown (grownBy_putObj' W l o') (by have := (Array.getElem?_eq_some_iff.1 hl).1; omega) (fun k e => by cases e; exact h1), KeepsFrom.of_grownBy (grownBy_putObj' W l o') (fun j e => by cases e; exact h2), fun k hk _ => World.putObj_heap_other (by omega)⟩
def SeqGive (n : Nat) (P : Program) (g : Nat) (lb : Array Value) (s : Sh) (n₀ : Nat) (xs : List (Dat s)) (w : World) : Prop :=
 ∀ (l : Nat) (J : Nat → List (Dat s) → World → Prop) (W : World), Below w.heap.size w W → (∀ q, OwnFrom W.heap.size (J q)) →
  (∀ q pre y V W1 es, W.heap.size ≤ q → q ≤ V.heap.size → J q pre V → Below V.heap.size V W1 → Owned W1 V.heap.size W1.heap.size s es y → pre ++ [y] <+: xs → YieldAt Fence.wide (n - 1) P l #[.agg es.toArray] W1 fun e W' => e = .returned (.bool true) ∧ J q (pre ++ [y]) W' ∧ Kps n₀ W.heap.size q W1 W') →
  (∀ q, J q [] W) → CallsIn Fence.wide n P g (#[.func (.yield l) #[] #[]] ++ lb) W fun e W' => (∃ v, e = .returned v) ∧ ∃ q, W.heap.size ≤ q ∧ J q xs W'
theorem below_turn {l : Nat} {V W : World} {o : Obj} (h : Below V.heap.size V W) (hl : l < V.heap.size) : Below (V.putObj l o).heap.size (V.putObj l o) (W.putObj l o) := by
 have hs := h.size
 refine ⟨h.os, h.tape, h.output, by simpa using hs, fun k hk => ?_⟩
 rw [World.putObj_size] at hk
 by_cases e : k = l
 ·subst e
  rw [World.putObj_heap_same hl, World.putObj_heap_same (by omega)]
 ·rw [World.putObj_heap_other e, World.putObj_heap_other e]
  exact h.block k hk
theorem rangeGive {n : Nat} {P : Program} {g : Operand} {p : Tmp} {assign body : Code} {Q : Exit → Act → World → Prop} {a : Act} {w w0 : World} {gf : Nat} {lb : Array Value} (hg : a.eval g = .func (.func gf) #[] lb)
  (eg : ∀ args w, (callFunc gf args).run P w = .ok (.enter gf args) w) {s : Sh} {t : TypeId} {xs : List (Dat s)} {n₀ : Nat} (hn₀ : n₀ ≤ w.heap.size) (hseq : SeqGive (n - 1) P gf lb s n₀ xs w0) (hb0 : Below w0.heap.size w0 w)
  (I : Nat → List (Dat s) → World → Prop) (hI : ∀ q, OwnFrom w.heap.size (I q)) (h0 : ∀ q, I q [] w) (a₁ : List Value → Nat → Act)
  (hassign : ∀ (l : Nat) (es : List Value) (y : Dat s) (lo : Nat) (W : World) (K : Act → World → Prop), Owned W lo W.heap.size s es y → K (a₁ es W.heap.size) (W.alloc (.cells es.toArray t)) →
   assign.wpIn (Fence.wide.inRound l) (n - 1 - 1) P (Exit.then K (fun _ _ _ => False)) { tmps := a.tmps.setIfInBounds p (.agg es.toArray), defers := [] } W)
  (hbody : ∀ (l q : Nat) (pre : List (Dat s)) (y : Dat s) (V W : World) (B : Nat) (es : List Value), w.heap.size + 2 ≤ q → q ≤ V.heap.size → I q pre V → Below V.heap.size V W → V.heap.size ≤ B → Row W B t es.toArray → W.heap.size = B + 1 → Owned W V.heap.size B s es y → pre ++ [y] <+: xs →
   body.wpIn (Fence.wide.inRound l) (n - 1 - 1) P (fun e _ W' => e = .normal ∧ Kps n₀ w.heap.size q W W' ∧ I q (pre ++ [y]) W') (a₁ es B) W)
  (hdone : ∀ (D q : Nat) (W : World), w.heap.size ≤ D → w.heap.size + 2 ≤ q → I q xs W → W.heap[D]? = some (.deferred (some [])) → Q .normal { a with defers := { target := .collected D, args := #[] } :: a.defers } W) :
  (Code.rangeFunc g #[p] assign body).wpIn Fence.wide n P Q a w := by
 refine wpIn_rangeFunc ?_
 intro fn hfn
 obtain ⟨rec, hrec⟩ : ∃ rec : LoopState → Option Code → Loop, rec = fun st pe => { state := st, pending := pe, fn, tmps := a.tmps, params := #[p], assign, body, defers := w.heap.size } := ⟨_, rfl⟩
 obtain ⟨W1, hW1⟩ : ∃ W1, (w.alloc (.deferred (some []))).alloc (.loop (rec .ready none)) = W1 := ⟨_, rfl⟩
 have hsz : W1.heap.size = w.heap.size + 2 := by rw [← hW1]; simp
 have rl : W1.heap[w.heap.size + 1]? = some (.loop (rec .ready none)) := by
  rw [← hW1]
  have := heap_alloc_new (w.alloc (.deferred (some []))) (.loop (rec .ready none))
  rwa [World.size_alloc] at this
 have rd : W1.heap[w.heap.size]? = some (.deferred (some [])) := by
  rw [← hW1]
  exact (Below.heap_alloc _ _ _ (by simp)).trans (heap_alloc_new w _)
 refine ⟨w.heap.size + 1, [{ target := .collected w.heap.size, args := #[] }], W1, { target := .fn (.func gf) lb, args := #[.func (.yield (w.heap.size + 1)) #[] #[]] }, W1, gf, #[.func (.yield (w.heap.size + 1)) #[] #[]] ++ lb, W1, ?_, ?_, fun _ _ => trivial, ?_, (fun h => by cases h), ?_⟩
 ·rw [← hW1, hrec]; exact run_enterLoop_outer _ _ _ _ _
 ·simp only [resolve, hg]
  simp [go_sem]
 ·simp [invoke, go_sem, eg]
 have key := hseq (w.heap.size + 1) (fun q pre W => (I q pre W ∧ W.heap[w.heap.size + 1]? = some (.loop (rec .ready none))) ∧ W.heap[w.heap.size]? = some (.deferred (some []))) W1
  (hb0.trans ((by rw [← hW1]; exact (((Below.refl _ w).alloc (Nat.le_refl _) _).alloc (by simp) _ : Below w.heap.size w _) : Below w.heap.size w W1).mono hb0.size))
  (fun q s A B row hs hg' hr => ⟨⟨hI q s A B row hs.1.1 hg' (fun r e => ⟨by have := (hr r e).1; omega, (hr r e).2⟩), (hg'.block _ (Array.getElem?_eq_some_iff.1 hs.1.2).1 (fun e => by have := (hr _ e.symm).1; omega)).trans hs.1.2⟩, (hg'.block _ (Array.getElem?_eq_some_iff.1 hs.2).1 (fun e => by have := (hr _ e.symm).1; omega)).trans hs.2⟩)
  ?_ (fun q => ⟨⟨by rw [← hW1]; exact (hI q).alloc _ ((hI q).alloc _ (h0 q)), rl⟩, rd⟩)
 ·refine key.mono ?_
  rintro e W2 ⟨⟨v, rfl⟩, q, hq, ⟨hi, hl⟩, hd⟩
  refine ⟨none, _, by have := run_endLoop (P := P) hl (by rw [hrec]; simp); rw [hrec] at this; exact this, hdone _ q _ (Nat.le_refl _) (by omega) ((hI q).putObj _ hi (by omega) hl rfl) ((World.putObj_heap_other (by omega)).trans hd)⟩
 ·rintro q pre y V W es hq hV ⟨⟨hi, hl⟩, hd⟩ hbV hown hpre
  have hltV : w.heap.size + 1 < V.heap.size := by omega
  have hlW : W.heap[w.heap.size + 1]? = some (.loop (rec .ready none)) := (hbV.block _ hltV).trans hl
  have hdW : W.heap[w.heap.size]? = some (.deferred (some [])) := (hbV.block _ (by omega)).trans hd
  have hy : (Instr.yield (w.heap.size + 1) #[.agg es.toArray]).run P W = .ok (.round (w.heap.size + 1) fn (a.tmps.setIfInBounds p (.agg es.toArray)) assign body) W := by
   have := run_yield (P := P) (args := #[.agg es.toArray]) hlW (by rw [hrec]; rfl)
   rw [hrec] at this
   rw [this]
   simp
  refine ⟨fn, _, assign, body, hy, roundIn_of_wpIn hfn (hassign _ es y _ W _ hown ?_)⟩
  have hszW := hbV.size
  have bA : Below W.heap.size W (W.alloc (.cells es.toArray t)) := (Below.refl _ _).alloc (Nat.le_refl _) _
  have hlA : (W.alloc (.cells es.toArray t)).heap[w.heap.size + 1]? = some (.loop (rec .ready none)) := (bA.block _ (by omega)).trans hlW
  have hdA : (W.alloc (.cells es.toArray t)).heap[w.heap.size]? = some (.deferred (some [])) := (bA.block _ (by omega)).trans hdW
  have bVA : Below V.heap.size V (W.alloc (.cells es.toArray t)) := hbV.trans (bA.mono hszW)
  refine ⟨_, run_beginRound hlA (by rw [hrec]), ?_⟩
  obtain ⟨o2, ho2⟩ : ∃ o2, o2 = Obj.loop { rec .ready none with state := .busy } := ⟨_, rfl⟩
  rw [← ho2]
  have hl2 : ((W.alloc (.cells es.toArray t)).putObj (w.heap.size + 1) o2).heap[w.heap.size + 1]? = some o2 := World.putObj_heap_same (by simp; omega)
  have hd2 : ((W.alloc (.cells es.toArray t)).putObj (w.heap.size + 1) o2).heap[w.heap.size]? = some (.deferred (some [])) := (World.putObj_heap_other (by omega)).trans hdA
  refine wpIn_mono (hbody _ q pre y (V.putObj (w.heap.size + 1) o2) _ W.heap.size es (by omega) (by rw [World.putObj_size]; omega) ((hI q).putObj _ hi (by omega) hl rfl) (below_turn bVA hltV) (by rw [World.putObj_size]; exact hszW)
   ((World.putObj_heap_other (by omega)).trans (Row.new W t es.toArray)) (by simp)
   (by rw [World.putObj_size]; exact (hown.next bA).btw (Btw.of_grown (grownBy_putObj' _ (w.heap.size + 1) o2) (lo := w.heap.size + 1) (hi := w.heap.size + 2) (fun k e => by cases e; omega)) (.inr (by omega))) hpre) ?_
  rintro e a3 W3 ⟨rfl, hk3, hi3⟩
  have hl3 := hk3.2.1.same _ _ (by omega) hl2 (by rw [ho2]; rfl)
  have hd3 := hk3.2.1.same _ _ (Nat.le_refl _) hd2 rfl
  rw [ho2] at hl3
  have hr := run_endRound (P := P) none hl3
  refine ⟨_, _, hr, rfl, ⟨⟨(hI q).putObj _ hi3 (by omega) hl3 rfl, ?_⟩, (World.putObj_heap_other (by omega)).trans hd3⟩, ?_⟩
  ·rw [World.putObj_heap_same (Array.getElem?_eq_some_iff.1 hl3).1, hrec]
   rfl
  ·have k0 : Kps n₀ W1.heap.size q W (W.alloc (.cells es.toArray t)) := Kps.of_below bA (by omega) (by omega)
   have t1 : Kps n₀ W1.heap.size q (W.alloc (.cells es.toArray t)) ((W.alloc (.cells es.toArray t)).putObj (w.heap.size + 1) o2) := kps_turn (by omega) (by omega) hlA
   have k3 : Kps n₀ W1.heap.size q _ W3 := hk3.mono (by omega)
   exact ((k0.trans t1).trans k3).trans (kps_turn (by omega) (by omega) hl3)
end rangeGive
end
section
namespace iter
open Go.RowKit base rangeGive
theorem rangePre {α : Type} {n : Nat} {P : Program} {g : Operand} {ps : Array Tmp} {assign body : Code} {Q : Exit → Act → World → Prop} {a : Act} {w w0 : World} {gf : Nat} {lb : Array Value} (hg : a.eval g = .func (.func gf) #[] lb)
  (eg : ∀ args w, (callFunc gf args).run P w = .ok (.enter gf args) w) {encs : α → Array Value} {Kp : World → World → Prop} {xs : List α} (hseq : SeqPre (n - 1) P gf lb encs Kp xs w0) (hb0 : Below w0.heap.size w0 w) (hps : ∀ x, (encs x).size = ps.size)
  (hKt : ∀ {A B C : World}, Kp A B → Kp B C → Kp A C) (hKb : ∀ (W : World) (o o' : Obj), W.heap[w.heap.size + 1]? = some o → Kp W (W.putObj (w.heap.size + 1) o'))
  (I : List α → World → Prop) (hI : OwnFrom w.heap.size I) (h0 : I [] w) (a₁ : α → Act)
  (hassign : ∀ (l : Nat) (x : α) (W : World) (K : Act → World → Prop), K (a₁ x) W → assign.wpIn (Fence.wide.inRound l) (n - 1 - 1) P (Exit.then K (fun _ _ _ => False)) { tmps := (ps.zip (encs x)).foldl (fun t (p, v) => t.setIfInBounds p v) a.tmps, defers := [] } W)
  (hbody : ∀ (l : Nat) (pre : List α) (x : α) (W : World), I pre W → w.heap.size + 2 ≤ W.heap.size → pre ++ [x] <+: xs → body.wpIn (Fence.wide.inRound l) (n - 1 - 1) P (fun e _ W' => e = .normal ∧ KeepsFrom w.heap.size W W' ∧ Kp W W' ∧ I (pre ++ [x]) W') (a₁ x) W)
  (hdone : ∀ (D : Nat) (W : World), w.heap.size ≤ D → I xs W → W.heap[D]? = some (.deferred (some [])) → Q .normal { a with defers := { target := .collected D, args := #[] } :: a.defers } W) :
  (Code.rangeFunc g ps assign body).wpIn Fence.wide n P Q a w := by
 refine wpIn_rangeFunc ?_
 intro fn hfn
 obtain ⟨rec, hrec⟩ : ∃ rec : LoopState → Option Code → Loop, rec = fun st pe => { state := st, pending := pe, fn, tmps := a.tmps, params := ps, assign, body, defers := w.heap.size } := ⟨_, rfl⟩
 obtain ⟨W1, hW1⟩ : ∃ W1, (w.alloc (.deferred (some []))).alloc (.loop (rec .ready none)) = W1 := ⟨_, rfl⟩
 have hsz : W1.heap.size = w.heap.size + 2 := by rw [← hW1]; simp
 have rl : W1.heap[w.heap.size + 1]? = some (.loop (rec .ready none)) := by
  rw [← hW1]
  have := heap_alloc_new (w.alloc (.deferred (some []))) (.loop (rec .ready none))
  rwa [World.size_alloc] at this
 have rd : W1.heap[w.heap.size]? = some (.deferred (some [])) := by
  rw [← hW1]
  exact (Below.heap_alloc _ _ _ (by simp)).trans (heap_alloc_new w _)
 refine ⟨w.heap.size + 1, [{ target := .collected w.heap.size, args := #[] }], W1, { target := .fn (.func gf) lb, args := #[.func (.yield (w.heap.size + 1)) #[] #[]] }, W1, gf, #[.func (.yield (w.heap.size + 1)) #[] #[]] ++ lb, W1, ?_, ?_, fun _ _ => trivial, ?_, (fun h => by cases h), ?_⟩
 ·rw [← hW1, hrec]; exact run_enterLoop_outer _ _ _ _ _
 ·simp only [resolve, hg]
  simp [go_sem]
 ·simp [invoke, go_sem, eg]
 have key := hseq (w.heap.size + 1) (fun pre W => (I pre W ∧ W.heap[w.heap.size + 1]? = some (.loop (rec .ready none))) ∧ W.heap[w.heap.size]? = some (.deferred (some []))) (fun _ _ => False) W1
  (hb0.trans ((by rw [← hW1]; exact (((Below.refl _ w).alloc (Nat.le_refl _) _).alloc (by simp) _ : Below w.heap.size w _) : Below w.heap.size w W1).mono hb0.size))
  (fun s A B row hs hg' hr => ⟨⟨hI s A B row hs.1.1 hg' (fun r e => by obtain ⟨h1, o, ho, hw⟩ := hr r e; exact ⟨by omega, o, ho, Obj.not_cells_of_walk hw⟩), (hg'.block _ (Array.getElem?_eq_some_iff.1 hs.1.2).1 (fun e => by have := (hr _ e.symm).1; omega)).trans hs.1.2⟩, (hg'.block _ (Array.getElem?_eq_some_iff.1 hs.2).1 (fun e => by have := (hr _ e.symm).1; omega)).trans hs.2⟩)
  (fun _ _ _ _ hs _ _ => hs.elim)
  ?_ ⟨⟨by rw [← hW1]; exact hI.alloc _ (hI.alloc _ h0), rl⟩, rd⟩
 ·refine key.mono ?_
  rintro e W2 ⟨⟨v, rfl⟩, (⟨ys, rfl, ⟨hi, hl⟩, hd⟩ | ⟨_, _, hF⟩)⟩
  ·refine ⟨none, _, by have := run_endLoop (P := P) hl (by rw [hrec]; simp); rw [hrec] at this; exact this, hdone _ _ (Nat.le_refl _) (hI.putObj _ hi (by omega) hl rfl) ((World.putObj_heap_other (by omega)).trans hd)⟩
  ·exact hF.elim
 ·rintro pre x W ⟨⟨hi, hl⟩, hd⟩ hpre
  have hy := run_yield (P := P) (args := encs x) hl (by rw [hrec]; exact hps x)
  rw [hrec] at hy
  refine ⟨fn, _, assign, body, hy, roundIn_of_wpIn hfn (hassign _ x W _ ?_)⟩
  have hlt := (Array.getElem?_eq_some_iff.1 hl).1
  refine ⟨_, run_beginRound hl (by rw [hrec]), ?_⟩
  obtain ⟨o2, ho2⟩ : ∃ o2, o2 = Obj.loop { rec .ready none with state := .busy } := ⟨_, rfl⟩
  rw [← ho2]
  have hl2 : (W.putObj (w.heap.size + 1) o2).heap[w.heap.size + 1]? = some o2 := World.putObj_heap_same hlt
  have hd2 : (W.putObj (w.heap.size + 1) o2).heap[w.heap.size]? = some (.deferred (some [])) := (World.putObj_heap_other (by omega)).trans hd
  refine wpIn_mono (hbody _ pre x _ (hI.putObj _ hi (by omega) hl rfl) (by rw [World.putObj_size]; omega) hpre) ?_
  rintro e a3 W3 ⟨rfl, hk3, hkp3, hi3⟩
  have hl3 := hk3.same _ _ (by omega) hl2 (by rw [ho2]; rfl)
  have hd3 := hk3.same _ _ (Nat.le_refl _) hd2 rfl
  rw [ho2] at hl3
  have hr := run_endRound (P := P) none hl3
  refine ⟨_, _, hr, .inl ⟨rfl, ⟨⟨hI.putObj _ hi3 (by omega) hl3 rfl, ?_⟩, (World.putObj_heap_other (by omega)).trans hd3⟩, hKt (hKt (hKb _ _ _ hl) hkp3) (hKb _ _ _ hl3)⟩⟩
  rw [World.putObj_heap_same (Array.getElem?_eq_some_iff.1 hl3).1, hrec]
  rfl
end iter
end
section
open Go.Lib (hid)
namespace iter
open Go.RowKit Go.Shelf base ints sig term termOk endAt endOf marks app sym sub segs segsHelp shifted termFacts shape kindsR kindsW ruleMath ruleSpec stepMath walkMath stepSpec stepImpl rangeGive
set_option maxRecDepth 100000
attribute [local go_sem] Oper.semAt_some
def stepsOf (sg : List Int) (rs : List Rl) (t : List Int) (ps : List (Nat × Nat)) : List St := ps.filterMap fun p => (stepO sg (rs.getD p.2 ([], [])) t p.1).map fun v => ((p.1 : Int), (p.2 : Int), v)
section
variable {sg : List Int} {rs : List Rl} {t : List Int}
theorem stepsOf_no {ps : List (Nat × Nat)} {x k : Nat} (h : stepO sg (rs.getD k ([], [])) t x = none) : stepsOf sg rs t (ps ++ [(x, k)]) = stepsOf sg rs t ps := by unfold stepsOf; rw [List.filterMap_append]; simp only [List.filterMap_cons, List.filterMap_nil, h, Option.map_none, List.append_nil]
theorem stepsOf_yes {ps : List (Nat × Nat)} {x k : Nat} {v : List Int} (h : stepO sg (rs.getD k ([], [])) t x = some v) : stepsOf sg rs t (ps ++ [(x, k)]) = stepsOf sg rs t ps ++ [((x : Int), (k : Int), v)] := by unfold stepsOf; rw [List.filterMap_append]; simp only [List.filterMap_cons, List.filterMap_nil, h, Option.map_some]
theorem step_red {x : Rl} {a : Nat} {v : List Int} (h : stepO sg x t a = some v) : redB sg x t a = true := by
 unfold redB
 unfold stepO at h
 split at h
 ·cases h
 ·rename_i hm; rw [hm]; rfl
theorem row_steps (a : Nat) : ∀ k, stepsOf sg rs t (rowL sg rs t a k) = (List.range k).filterMap fun r => (stepO sg (rs.getD r ([], [])) t a).map fun v => ((a : Int), (r : Int), v)
 | 0 => rfl
 | k + 1 => by
  rw [List.range_succ, List.filterMap_append, ← row_steps a k]
  cases hb : redB sg (rs.getD k ([], [])) t a with
  | false =>
   have hn : stepO sg (rs.getD k ([], [])) t a = none := by
    cases hs : stepO sg (rs.getD k ([], [])) t a with
    | none => rfl
    | some v => rw [step_red hs] at hb; cases hb
   rw [row_no hb]
   simp only [List.filterMap_cons, List.filterMap_nil, hn, Option.map_none, List.append_nil]
  | true =>
   rw [row_yes hb]
   cases hs : stepO sg (rs.getD k ([], [])) t a with
   | none => rw [stepsOf_no hs]; simp only [List.filterMap_cons, List.filterMap_nil, hs, Option.map_none, List.append_nil]
   | some v => rw [stepsOf_yes hs]; simp only [List.filterMap_cons, List.filterMap_nil, hs, Option.map_some]
theorem stepsOf_all : stepsOf sg rs t (redL sg rs t) = stepsL sg rs t := by
 have key : ∀ x, stepsOf sg rs t (comeL sg rs t x) = (List.range x).flatMap fun a => (List.range rs.length).filterMap fun r => (stepO sg (rs.getD r ([], [])) t a).map fun v => ((a : Int), (r : Int), v) := by
  intro x
  induction x with
  | zero => rfl
  | succ x ih =>
   rw [come_succ, List.range_succ, List.flatMap_append]
   have e : stepsOf sg rs t (comeL sg rs t x ++ rowL sg rs t x rs.length) = stepsOf sg rs t (comeL sg rs t x) ++ stepsOf sg rs t (rowL sg rs t x rs.length) := by unfold stepsOf; rw [List.filterMap_append]
   rw [e, ih, row_steps]
   simp
 exact key t.length
theorem red_in {x k : Nat} {ps : List (Nat × Nat)} (h : ps ++ [(x, k)] <+: redL sg rs t) : x < t.length ∧ k < rs.length ∧ redB sg (rs.getD k ([], [])) t x = true := by
 have hm : (x, k) ∈ redL sg rs t := h.subset (by simp)
 unfold redL comeL rowL at hm
 obtain ⟨a, ha, hm⟩ := List.mem_flatMap.1 hm
 obtain ⟨r, hr, hm⟩ := List.mem_filterMap.1 hm
 split at hm
 ·rename_i hb
  injection hm with hm
  injection hm with e1 e2
  subst e1 e2
  exact ⟨List.mem_range.1 ha, List.mem_range.1 hr, hb⟩
 ·cases hm
theorem pre_steps {ps : List (Nat × Nat)} (h : ps <+: redL sg rs t) : stepsOf sg rs t ps <+: stepsL sg rs t := by rw [← stepsOf_all]; unfold stepsOf; exact h.filterMap _
end
theorem ownFrom_kps {β : Type} {n₀ m : Nat} {V : World} (h : n₀ ≤ V.heap.size) : OwnFrom V.heap.size (fun (_ : β) W => Kps n₀ m V.heap.size V W) := fun s A B row hs hg hr => ⟨ownFrom_below (β := β) h h s A B row hs.1 hg hr, ownFrom_keepsFrom (β := β) (Nat.le_refl _) s A B row hs.2.1 hg hr, fun k h1 h2 => (hg.block k (Nat.lt_of_lt_of_le h2 hs.1.size) (fun e => by have := (hr k e.symm).1; omega)).trans (hs.2.2 k h1 h2)⟩
theorem Kps.refl (n₀ m q : Nat) (A : World) : Kps n₀ m q A A := ⟨Below.refl _ _, KeepsFrom.refl _ _, fun _ _ _ => rfl⟩
theorem roundIn_any {k k' li l f : Nat} {P : Program} {tm : Array Value} {asg bd : Code} {w : World} {R : Ending → World → Prop} (h : RoundIn Fence.wide k P l f tm asg bd w R) : RoundIn (Fence.wide.inRound li) k' P l f tm asg bd w R := ⟨trivial, fun c cs _ => h.2 c cs (room_wide _)⟩
set_option maxHeartbeats 4000000 in
theorem steps_give (n : Nat) (hn : 2 ≤ n) (B1 B2 n₀ : Nat) (a v u : Value) (d : Dat sSystem) (t : List Int) (w : World) (hn₀ : n₀ ≤ w.heap.size) (hB1 : B1 < n₀) (hB2 : B2 < n₀) (r1 : Row w B1 50 #[a, v]) (r2 : Row w B2 24 #[u])
  (h : Rd w n₀ sSystem [a, v] d) (ht : Rd w n₀ sI [u] t) (hz : sz sSystem d ≤ 1048576) (hok : rightB d.1 d.2 t = true) :
  SeqGive n Try.prog 54 #[.pointer (some ⟨B1, 0, none⟩), .pointer (some ⟨B2, 0, none⟩)] sStep n₀ (stepsL d.1 d.2 t) w := fun l J W hW hJ hY h0 => by
 have hWn := hW.mono hn₀
 replace r1 := r1.next hW
 replace r2 := r2.next hW
 replace h := h.below hWn
 replace ht := ht.below hWn
 have hsW : n₀ ≤ W.heap.size := Nat.le_trans hn₀ hW.size
 obtain ⟨A, m0, cs, V, q, cv, rfl, rfl, -, -, -, hq, -, hq1, -, -, -⟩ := rd_sys (h.more hsW) hz
 obtain ⟨T, m, c, rfl, hT, hcT⟩ := rd_ints.1 ht
 have K10 : (W.alloc (.cells #[.func (.yield l) #[] #[]] 86)).cell? ⟨B1, 0, none⟩ = some (.slice A m0 cs) := (r1.alloc _).cell 0
 have K11 : (W.alloc (.cells #[.func (.yield l) #[] #[]] 86)).cell? ⟨B1, 1, none⟩ = some (.slice V q cv) := (r1.alloc _).cell 1
 have K20 : (W.alloc (.cells #[.func (.yield l) #[] #[]] 86)).cell? ⟨B2, 0, none⟩ = some (.slice T m c) := (r2.alloc _).cell 0
 have HH := hid (show Rd W n₀ sSystem [.slice A m0 cs, .slice V q cv] d ∧ Rd W n₀ sI [.slice T m c] t from ⟨h, ht⟩)
 have HK := hid (show Row W B1 50 #[.slice A m0 cs, .slice V q cv] ∧ Row W B2 24 #[.slice T m c] from ⟨r1, r2⟩)
 have HOK := hid hok
 have HY := hid hY
 have HJ := hid hJ
 have H0 := hid h0
 clear hT hcT h ht hok hq hW hWn hn₀ r1 r2 hY hJ h0
 refine callsIn_of_wp_marks Try.func54 rfl trivial ?_ rfl
 simp only [Try.ntmps54, List.size_toArray, List.length_cons, List.length_nil, Nat.reduceAdd, Nat.reduceSub, Array.replicate_succ, Array.replicate_zero, List.push_toArray, List.append_toArray, List.nil_append, List.cons_append]
 gi_wp2_with (refine ⟨trivial, (fun h => (by cases h)), ?_⟩; gi_at_call 31; refine (callsIn_wide.2 (redexesFn (.slice A m0 cs) (.slice V q cv) T m c _)).mono ?_; rintro e w3 ⟨rfl, hw3⟩; subst hw3)
 obtain ⟨W3, hW3⟩ : ∃ W3, W3 = ((W.alloc (.cells #[.func (.yield l) #[] #[]] 86)).alloc (.cells #[.slice A m0 cs, .slice V q cv] 50)).alloc (.cells #[.slice T m c] 24) := ⟨_, rfl⟩
 rw [← hW3]
 have b3 : Below W.heap.size W W3 := by rw [hW3]; exact (((Below.refl _ W).alloc (Nat.le_refl _) _).alloc (by simp) _).alloc (by simp; omega) _
 have z3 : W.heap.size + 3 ≤ W3.heap.size := by rw [hW3]; simp
 have rY : Row W3 W.heap.size 86 #[.func (.yield l) #[] #[]] := by rw [hW3]; exact ((Row.new W _ _).alloc _).alloc _
 have rS : Row W3 (W.heap.size + 1) 50 #[.slice A m0 cs, .slice V q cv] := by
  rw [hW3]
  have := (Row.new (W.alloc (.cells #[.func (.yield l) #[] #[]] 86)) 50 #[.slice A m0 cs, .slice V q cv]).alloc (.cells #[.slice T m c] 24)
  simpa using this
 have rT : Row W3 (W.heap.size + 1 + 1) 24 #[.slice T m c] := by
  rw [hW3]
  have := Row.new ((W.alloc (.cells #[.func (.yield l) #[] #[]] 86)).alloc (.cells #[.slice A m0 cs, .slice V q cv] 50)) 24 #[.slice T m c]
  simpa using this
 clear hW3 K10 K11 K20
 have HPRE := redexes_stopsK (n - 1) (by omega) (W.heap.size + 1) (W.heap.size + 1 + 1) n₀ (.slice A m0 cs) (.slice V q cv) (.slice T m c) d t W3 (by omega) rS rT (HH.out.1.below (b3.mono hsW)) (HH.out.2.below (b3.mono hsW)) hz HOK.out
 refine rangePre (gf := 56) (lb := #[.pointer (some ⟨W.heap.size + 1 + 1, 0, none⟩), .pointer (some ⟨W.heap.size + 1, 0, none⟩)]) rfl (enters_of Try.func56 (by kernel_rfl) rfl) HPRE (Below.refl _ _) (fun _ => rfl) Kr.trans
  (fun X o o' ho => ⟨(Below.refl n₀ X).grown (grownBy_putObj' X _ o') (by have := (Array.getElem?_eq_some_iff.1 ho).1; omega) (fun k e => by cases e; omega), World.putObj_heap_other (by omega), World.putObj_heap_other (by omega)⟩)
  (fun pre X => J W3.heap.size (stepsOf d.1 d.2 t pre) X ∧ Kps n₀ W.heap.size W3.heap.size W3 X)
  (OwnFrom.and (fun s X Y row hs hg hr => HJ.out _ _ X Y row hs hg (fun r e => ⟨by have := (hr r e).1; omega, (hr r e).2⟩)) (ownFrom_kps (by omega)))
  ⟨HJ.out _ _ W W3 none (H0.out _) (cursor.grown_below b3 none) (fun r e => by cases e), Kps.refl _ _ _ _⟩
  (fun x => { tmps := #[.func (.yield l) #[] #[], .pointer (some ⟨B1, 0, none⟩), .pointer (some ⟨B2, 0, none⟩), .pointer (some ⟨W.heap.size, 0, none⟩), .int .i64 (x.1 : Int), .int .i64 (x.2 : Int), undef, undef, .agg #[.slice A m0 cs, .slice V q cv], .slice T m c, .func (.func 56) #[] #[.pointer (some ⟨W.heap.size + 1 + 1, 0, none⟩), .pointer (some ⟨W.heap.size + 1, 0, none⟩)], .int .i64 (x.1 : Int), .int .i64 (x.2 : Int), undef, undef, undef, undef, undef, undef, undef, undef, undef, undef, undef, undef, undef, undef, undef, undef, undef, undef], defers := [] }) ?assign ?body ?done
 case assign =>
  intro li x X K hK
  gi_wp2
  first | exact hK | simpa using hK
 case body =>
  rintro li pre ⟨x, k⟩ X ⟨hj, hkp⟩ hX hpre
  obtain ⟨hx, hkr, hred⟩ := red_in hpre
  have b0 : Below n₀ W X := (b3.mono hsW).trans hkp.1
  have hXn : n₀ ≤ X.heap.size := by omega
  have q1 := HK.out.1.below b0 hB1
  have q2 := HK.out.2.below b0 hB2
  have qY : Row X W.heap.size 86 #[.func (.yield l) #[] #[]] := (hkp.2.2 _ (Nat.le_refl _) (by omega)).trans rY
  have K10 : X.cell? ⟨B1, 0, none⟩ = some (.slice A m0 cs) := q1.cell 0
  have K11 : X.cell? ⟨B1, 1, none⟩ = some (.slice V q cv) := q1.cell 1
  have K20 : X.cell? ⟨B2, 0, none⟩ = some (.slice T m c) := q2.cell 0
  have LR := reduced (.slice A m0 cs) (.slice V q cv) (.slice T m c) d t x k X ((HH.out.1.below b0).more hXn) ((HH.out.2.below b0).more hXn) hz HOK.out hx hkr hred
  have HPR := hid hpre
  have hzY := qY.lt
  clear q1 q2 hpre b0 HPRE hred
  cases hs : stepO d.1 (d.2.getD k ([], [])) t x with
  | none =>
   have L2 := hid (LR.mono (R' := fun e w' => ∃ U un uc, e = .returned (.tuple #[.slice U un uc, .bool false]) ∧ Below X.heap.size X w') (by rintro e w' ⟨U, un, uc, he, _, hb⟩; rw [hs] at he; exact ⟨U, un, uc, he, hb⟩))
   clear LR
   gi_wp2_with (refine ⟨trivial, (fun h => (by cases h)), ?_⟩; gi_at_call 55; refine (CallsIn.inRound li (callsIn_wide.2 L2.out)).mono ?_; rintro e V2 ⟨U, un, uc, rfl, bb⟩; refine (?_ : Hid _).out)
   have kb : Kps n₀ W.heap.size W3.heap.size X V2 := Kps.of_below bb hXn (by omega)
   have F := hid (show J W3.heap.size (stepsOf d.1 d.2 t (pre ++ [(x, k)])) V2 from by rw [stepsOf_no hs]; exact HJ.out _ _ X V2 none hj (cursor.grown_below bb none) (fun r e => by cases e))
   clear bb hj K10 K11 K20 L2
   refine hid ?_
   gi_wp2
   refine ⟨fun _ h => (by cases h), ?_⟩
   gi_wp2
   exact ⟨(kb.mono (by omega)).2.1, ⟨kb.1, kb.2.2 _ (by omega) (by omega), kb.2.2 _ (by omega) (by omega)⟩, F.out, hkp.trans kb⟩
  | some v =>
   have L2 := hid (LR.mono (R' := fun e w' => ∃ U un uc, e = .returned (.tuple #[.slice U un uc, .bool true]) ∧ marks.Own w' X.heap.size (.slice U un uc) v ∧ Below X.heap.size X w') (by rintro e w' ⟨U, un, uc, he, ho, hb⟩; rw [hs] at he ho; exact ⟨U, un, uc, he, ho, hb⟩))
   clear LR
   gi_wp2_with (refine ⟨trivial, (fun h => (by cases h)), ?_⟩; gi_at_call 55; refine (CallsIn.inRound li (callsIn_wide.2 L2.out)).mono ?_; rintro e V2 ⟨U, un, uc, rfl, oU, bb⟩; refine (?_ : Hid _).out)
   have kb : Kps n₀ W.heap.size W3.heap.size X V2 := Kps.of_below bb hXn (by omega)
   have KY : V2.cell? ⟨W.heap.size, 0, none⟩ = some (.func (.yield l) #[] #[]) := (qY.next bb).cell 0
   obtain ⟨fn, tm, asg, bd, hy, hR⟩ := HY.out W3.heap.size (stepsOf d.1 d.2 t pre) ((x : Int), (k : Int), v) X V2 [.int .i64 (x : Int), .int .i64 (k : Int), .slice U un uc] (by omega) (by omega) hj bb (owned_step oU _ _) (by rw [← stepsOf_yes hs]; exact pre_steps HPR.out)
   clear bb hj K10 K11 K20 L2 oU qY
   refine hid ?_
   gi_wp2
   refine ⟨fun h => (by cases h), (roundIn_any hR).mono ?_⟩
   rintro e V3 ⟨rfl, hj3, hk3⟩
   have F := hid (show J W3.heap.size (stepsOf d.1 d.2 t (pre ++ [(x, k)])) V3 from by rw [stepsOf_yes hs]; exact hj3)
   have kb2 := kb.trans hk3
   clear hj3 hk3 kb KY hy hR
   gi_wp2
   exact ⟨(kb2.mono (by omega)).2.1, ⟨kb2.1, kb2.2.2 _ (by omega) (by omega), kb2.2.2 _ (by omega) (by omega)⟩, F.out, hkp.trans kb2⟩
 case done =>
  rintro D X hD ⟨hj, hk⟩ hd
  rw [stepsOf_all] at hj
  have hj2 := (HJ.out W3.heap.size).putObj (.deferred none) hj (by omega) hd rfl
  gi_wp2
  refine ⟨by simp, .inl ⟨_, _, rfl, run_takeDeferred hd, ?_⟩⟩
  exact ⟨_, results_none rfl _ _ _, ⟨_, rfl⟩, W3.heap.size, by omega, hj2⟩
end iter
end
section
namespace iter
open Go.RowKit Go.Shelf base ints sig term termOk endAt endOf marks app sym sub segs segsHelp shifted termFacts shape kindsR kindsW ruleMath ruleSpec ruleImpl stepMath walkMath stepSpec stepImpl rangeGive ownL
set_option maxRecDepth 100000
attribute [local go_sem] Oper.semAt_some
theorem appLmIn {l k : Nat} {w : World} {ops : Array Oper} {rest : List Oper} {o : Oper} {a : Act} {Q : Exit → Act → World → Prop} (hgd : o.guard = none) (sx x : Operand) (T e : TypeId) (s : Sh) (z : Value) (bytes : Nat) (hT : Try.prog.underlying T = some (.slice e))
  (hI : (Try.prog.info? e).map (fun i => (i.zero, i.size, i.bytes)) = some (some z, nc s, bytes)) (hzc : z.cells.size = nc s) (hby : bytes ≤ 4096)
  (ho : o.op = .call { callee := .builtin .append, args := #[sx, x], argTypes := #[T, T] })
  (lo hi mid hi2 : Nat) (A : Option Addr) (n c g m c2 : Nat) (D E : List (Dat s)) (hs : a.eval sx = .slice A n c) (hown : OwnL w lo hi e s A n c D) (hxv : a.eval x = .slice (some ⟨g, 0, none⟩) m c2) (hx : OwnL w mid hi2 e s (some ⟨g, 0, none⟩) m c2 E) (hmid : hi ≤ mid) (hlm : lo ≤ mid) (hn : n ≤ 1048576) (hm : m ≤ 1048576) (hlo : lo ≤ w.heap.size) (hpos : 0 < m)
  (h : ∀ g' c' w', OwnL w' lo w'.heap.size e s (some ⟨g', 0, none⟩) (n + m) c' (D ++ E) → w.grownBy w' (blk A) → Below lo w w' → wpListIn (Fence.wide.inRound l) k Try.prog ops Q rest (a.put o.dst (.slice (some ⟨g', 0, none⟩) (n + m) c')) w') : wpListIn (Fence.wide.inRound l) k Try.prog ops Q (o :: rest) a w :=
 wpListIn_plain hgd fun _ hK => by
  refine ⟨fun _ _ => trivial, ?_⟩
  obtain ⟨A', c', w', hr, h2, h3, h4, h5, h6⟩ := run_appL o.type T e s z bytes hT hI hzc hby lo hi mid hi2 A n c g m c2 D E hown hx hmid hlm hn hm hlo
  obtain ⟨g', rfl⟩ := h6 (.inr hpos)
  rw [Oper.semAt_eq _ _ _ (by simp [ho])]
  unfold execOp
  simp only [ho, resolve, invoke, builtin, Sem.run_bind, Sem.run_pure, Result.andThen_ok, List.map_toArray, List.map_cons, List.map_nil, hs, hxv, hr]
  exact hK _ _ (h g' c' w' h2 h3 h5)
theorem Ow.cells {w : World} : ∀ {s : Sh} {cs : List Value} {d : Dat s} {F : List Nat}, Ow w s cs d F → ∀ k ∈ F, ∃ t c, Row w k t c
 | .num, _, _, _, h, k, hk => by obtain ⟨_, e⟩ := h; rw [e] at hk; cases hk
 | .bit, _, _, _, h, k, hk => by obtain ⟨_, e⟩ := h; rw [e] at hk; cases hk
 | .row e s, _, _, F, h, k, hk => by
  obtain ⟨A, n, c, e1, hl, h1⟩ := h
  rcases h1 with ⟨_, _, _, h1⟩ | ⟨g, cur, E, G, e2, hr, h2, h3, h4, h5, h6⟩
  ·rw [h1] at hk; cases hk
  ·rw [h5] at hk
   rcases List.mem_cons.1 hk with hk | hk
   ·rw [hk]; exact ⟨_, _, hr⟩
   ·obtain ⟨j, hj, hk⟩ := List.mem_flatMap.1 hk
    exact Ow.cells (h6 j (List.mem_range.1 hj)).2.2 k hk
 | .cat a b, _, _, _, h, k, hk => by
  obtain ⟨ca, cb, Fa, Fb, e, e2, h1, h2⟩ := h
  rw [e2] at hk
  rcases List.mem_append.1 hk with hk | hk
  ·exact Ow.cells h1 k hk
  ·exact Ow.cells h2 k hk
theorem row_turn {w w' : World} {row : Option Nat} (hg : w.grownBy w' row) (hr : ∀ r, row = some r → ∃ o : Obj, w.heap[r]? = some o ∧ o.isCells = false) {k : Nat} {t : TypeId} {cs : Array Value} (hrow : Row w k t cs) : w'.heap[k]? = w.heap[k]? :=
 hg.block k hrow.lt (fun e => by
  obtain ⟨o, ho, hc⟩ := hr k e.symm
  unfold Row at hrow
  rw [hrow] at ho
  injection ho with ho
  rw [← ho] at hc
  cases hc)
theorem ownL_turn {w w' : World} {lo hi n c : Nat} {e : TypeId} {s : Sh} {A : Option Addr} {D : List (Dat s)} {row : Option Nat} (h : OwnL w lo hi e s A n c D) (hg : w.grownBy w' row) (hr : ∀ r, row = some r → ∃ o : Obj, w.heap[r]? = some o ∧ o.isCells = false) : OwnL w' lo hi e s A n c D := by
 obtain ⟨q1, q2, vs, G, q3, q4, q5, q6⟩ := h
 refine ⟨q1, q2, vs, G, ⟨q3.1, ?_⟩, q4, q5, fun j hj => ⟨(q6 j hj).1.keep fun k hkG => by obtain ⟨t, cs, hrow⟩ := Ow.cells (q6 j hj).1 k hkG; exact row_turn hg hr hrow, (q6 j hj).2⟩⟩
 rcases q3.2 with q | ⟨g, cap, cur, e1, hg1, hrow, rest⟩
 ·exact .inl q
 ·exact .inr ⟨g, cap, cur, e1, hg1, (row_turn hg hr hrow).trans hrow, rest⟩
theorem ownL_cells {w : World} {lo hi n c k : Nat} {e : TypeId} {s : Sh} {A : Option Addr} {D : List (Dat s)} (h : OwnL w lo hi e s A n c D) (hk : blk A = some k) : ∃ cs, Row w k e cs := by
 obtain ⟨q1, q2, vs, G, q3, q4, q5, q6⟩ := h
 rcases q3.2 with ⟨e1, _⟩ | ⟨g, cap, cur, e1, hg1, hrow, rest⟩
 ·injection e1 with e1
  subst e1
  cases hk
 ·injection e1 with e1
  subst e1
  injection hk with hk
  have hk : g = k := hk
  subst hk
  exact ⟨_, hrow⟩
def AnsL (w : World) (L : List St) (e : Ending) (w' : World) : Prop := ∃ A n c, e = .returned (.slice A n c) ∧ OwnL w' w.heap.size w'.heap.size 39 sStep A n c L ∧ Below w.heap.size w w'
def Acc (w : World) (q : Nat) (pre : List St) (X : World) : Prop := ∃ O on oc, Row X w.heap.size 32 #[.slice O on oc] ∧ OwnL X q X.heap.size 39 sStep O on oc pre ∧ Below w.heap.size w X
set_option maxHeartbeats 4000000 in
theorem appendSeq (gf : Nat) (lb : Array Value) (eg : ∀ args w, (callFunc gf args).run Try.prog w = .ok (.enter gf args) w) (n₀ : Nat) (xs : List St) (w : World) (hn₀ : n₀ ≤ w.heap.size) (hseq : SeqGive 4 Try.prog gf lb sStep n₀ xs w) (hlen : xs.length ≤ 1048576) :
  Calls Try.prog 53 #[.slice none 0 0, .func (.func gf) #[] lb] w (AnsL w xs) := by
 refine (callsIn_wide (n := 5)).1 ?_
 obtain ⟨W, hW, rW, bW⟩ := box1 w 32 #[.slice none 0 0]
 have hsz : w.heap.size + 1 ≤ W.heap.size ∧ W.heap.size ≤ w.heap.size + 1 := by rw [hW]; simp
 have hszA := hsz.1
 have hszB := hsz.2
 clear hsz
 refine callsIn_of_wp_marks Try.func53 rfl trivial ?_ rfl
 simp only [Try.ntmps53, List.size_toArray, List.length_cons, List.length_nil, Nat.reduceAdd, Nat.reduceSub, Array.replicate_succ, Array.replicate_zero, List.push_toArray, List.append_toArray, List.nil_append, List.cons_append]
 gi_wp2
 rw [← hW]
 clear hW
 refine rangeGive (gf := gf) (lb := lb) (t := 39) rfl eg (by omega) hseq bW (fun q pre X => Acc w q pre X)
  (fun q s X Y row hs hg hr => by
   obtain ⟨O, on, oc, h1, h2, h3⟩ := hs
   have hr' : ∀ r, row = some r → ∃ o : Obj, X.heap[r]? = some o ∧ o.isCells = false := fun r e => (hr r e).2
   exact ⟨O, on, oc, (row_turn hg hr' h1).trans h1, (ownL_turn h2 hg hr').wider (Nat.le_refl _) hg.size, h3.grown hg h3.size (fun k e => by have := (hr k e).1; omega)⟩)
  (fun q => ⟨none, 0, 0, rW, OwnL.nil _ _ _ _ _, bW⟩)
  (fun es B => { tmps := #[.slice none 0 0, .func (.func gf) #[] lb, .pointer (some ⟨w.heap.size, 0, none⟩), undef, .slice none 0 0, .pointer (some ⟨B, 0, none⟩), .func (.func gf) #[] lb, .agg es.toArray, undef, undef, undef, undef, undef], defers := [] }) ?assign ?body ?done
 case assign =>
  intro l es y lo X K ho hK
  obtain ⟨v0, rfl⟩ := cells_Step ho.rd
  obtain ⟨-, -, p2⟩ := parts_Step ho.rd
  obtain ⟨U, un, uc, rfl, -, -⟩ := rd_ints.1 p2
  clear ho p2
  gi_wp2
  first | exact hK | simpa using hK
 case body =>
  rintro l q pre y V X B es hq2 hV ⟨O, on, oc, rO, oO, bO⟩ hb hB rB hsz2 hown hpre
  have hs1 := Nat.le_of_eq hsz2
  have hs2 := Nat.le_of_eq hsz2.symm
  clear hsz2
  obtain ⟨v0, rfl⟩ := cells_Step hown.rd
  obtain ⟨-, -, p2⟩ := parts_Step hown.rd
  obtain ⟨U, un, uc, rfl, -, -⟩ := rd_ints.1 p2
  have rX := rO.next hb
  have oX := oO.next hb
  have bX : Below w.heap.size w X := next_trans bO hb
  have c0 : X.cell? ⟨w.heap.size, 0, none⟩ = some (.slice O on oc) := rX.cell 0
  have e0 : X.cell? ⟨B, 0, none⟩ = some (.int .i64 y.1) := rB.cell 0
  have e1 : X.cell? ⟨B, 1, none⟩ = some (.int .i64 y.2.1) := rB.cell 1
  have e2 : X.cell? ⟨B, 2, none⟩ = some (.slice U un uc) := rB.cell 2
  have hon : on ≤ 1048576 := by
   have h1 : pre.length = on := oX.1
   have := hpre.length_le
   rw [List.length_append, List.length_singleton] at this
   omega
  have b1 : Below X.heap.size X (X.alloc (.cells #[.int .i64 y.1, .int .i64 y.2.1, .slice U un uc] 39)) := (Below.refl _ _).alloc (Nat.le_refl _) _
  have o1 := oX.next b1
  have o2 : OwnL (X.alloc (.cells #[.int .i64 y.1, .int .i64 y.2.1, .slice U un uc] 39)) V.heap.size (X.heap.size + 1) 39 sStep (some ⟨X.heap.size, 0, none⟩) 1 1 [y] := OwnL.single (e := 39) (s := sStep) (Row.new X 39 #[.int .i64 y.1, .int .i64 y.2.1, .slice U un uc]) ((hown.next b1).wider (Nat.le_refl _) (by omega)) (Nat.le_refl _) (by omega)
  have rX1 := rX.next b1
  have HRX := Lib.hid rX1
  have zz : q ≤ X.heap.size := by omega
  clear p2 rO oO bO hown rB
  gi_wp2_with (gi_at_builtin; refine appLmIn rfl _ _ 32 39 sStep _ _ Try.underlying32 info_StepS rfl (by decide) rfl q V.heap.size V.heap.size (X.heap.size + 1) O on oc X.heap.size 1 1 pre [y] rfl o1 rfl o2 (Nat.le_refl _) hV hon (by omega) (by simp; omega) (by omega) ?_; intro g' c' w4 oL4 hg4 b4; have r4 := HRX.out.below b4 (show w.heap.size < q by omega); have y1 : w4.cell? ⟨w.heap.size, 0, none⟩ = some (.slice O on oc) := r4.cell 0; have f1 := r4.free 0)
  have z4 : X.heap.size + 1 ≤ w4.heap.size := by have := b4.size; simpa using this
  have hkeep : ∀ (k : Nat) (o : Obj), W.heap.size ≤ k → X.heap[k]? = some o → o.isCells = false → (w4.setCell ⟨w.heap.size, 0, none⟩ (.slice (some ⟨g', 0, none⟩) (on + 1) c')).heap[k]? = some o := fun k o hk ho hc => by
   have hkX := (Array.getElem?_eq_some_iff.1 ho).1
   rw [Below.heap_setCell w4 _ _ k (by show k ≠ w.heap.size; omega)]
   refine (hg4.block k (by simp; omega) (fun e => ?_)).trans ((b1.block k hkX).trans ho)
   obtain ⟨cs, hrow⟩ := ownL_cells oX e.symm
   unfold Row at hrow
   rw [hrow] at ho
   injection ho with ho
   rw [← ho] at hc
   cases hc
  have F := Lib.hid (show Kps n₀ W.heap.size q X (w4.setCell ⟨w.heap.size, 0, none⟩ (.slice (some ⟨g', 0, none⟩) (on + 1) c')) ∧ Acc w q (pre ++ [y]) (w4.setCell ⟨w.heap.size, 0, none⟩ (.slice (some ⟨g', 0, none⟩) (on + 1) c')) from by
   refine ⟨⟨((b1.mono (by omega)).trans (b4.mono (by omega))).setCell (show n₀ ≤ w.heap.size from hn₀) _, ⟨by simp; omega, hkeep⟩, fun k h1 h2 => ?_⟩, ?_⟩
   ·rw [Below.heap_setCell w4 _ _ k (by show k ≠ w.heap.size; omega)]
    exact (b4.block k h2).trans (b1.block k (by omega))
   ·refine ⟨some ⟨g', 0, none⟩, on + 1, c', r4.put 0 _, ?_, ((next_trans bX b1).trans (b4.mono (by omega))).setCell (show w.heap.size ≤ w.heap.size from Nat.le_refl _) _⟩
    have o5 : OwnL (w4.setCell ⟨w.heap.size, 0, none⟩ (.slice (some ⟨g', 0, none⟩) (on + 1) c')) q w4.heap.size 39 sStep (some ⟨g', 0, none⟩) (on + 1) c' (pre ++ [y]) := oL4.btw (lo' := w.heap.size) (hi' := w.heap.size + 1) ⟨rfl, rfl, rfl, by simp, fun k hk ho => Below.heap_setCell w4 _ _ k (by show k ≠ w.heap.size; omega)⟩ (.inr (by omega))
    exact o5.wider (Nat.le_refl _) (by simp))
  clear hkeep oL4 hg4 b4 r4 o1 o2 oX bX rX rX1 hb b1 c0 e0 e1 e2
  gi_wp2
  exact F.out
 case done =>
  rintro D q X hD hq ⟨O, on, oc, rO, oO, bO⟩ hd
  have hDw : w.heap.size ≤ D := by omega
  have K0 : X.cell? ⟨w.heap.size, 0, none⟩ = some (.slice O on oc) := rO.cell 0
  have hgP := grownBy_putObj' X D (.deferred none)
  have hrP : ∀ r, some D = some r → ∃ o : Obj, X.heap[r]? = some o ∧ o.isCells = false := fun r e => by cases e; exact ⟨_, hd, rfl⟩
  have F := Lib.hid (show AnsL w xs (.returned (.slice O on oc)) (X.putObj D (.deferred none)) from ⟨O, on, oc, rfl, ((ownL_turn oO hgP hrP).wider (by omega) (by simp)), bO.grown hgP bO.size (fun k e => by cases e; exact hDw)⟩)
  clear rO oO bO hgP hrP
  gi_wp2
  refine ⟨by simp, .inl ⟨_, _, rfl, run_takeDeferred hd, ?_⟩⟩
  exact ⟨.slice O on oc, by simp [results, Try.results53, go_sem], F.out⟩
end iter
end
section
open Go.Lib (hid)
namespace iter
open Go.RowKit Go.Shelf base ints sig term termOk endAt endOf marks app sym sub segs segsHelp shifted termFacts shape kindsR kindsW ruleMath ruleSpec ruleImpl stepMath walkMath stepSpec stepImpl rangeGive ownL
set_option maxRecDepth 100000
theorem collect (gf : Nat) (lb : Array Value) (eg : ∀ args w, (callFunc gf args).run Try.prog w = .ok (.enter gf args) w) (n₀ : Nat) (xs : List St) (w : World) (hn₀ : n₀ ≤ w.heap.size) (hseq : SeqGive 4 Try.prog gf lb sStep n₀ xs w) (hlen : xs.length ≤ 1048576) :
  Calls Try.prog 29 #[.func (.func gf) #[] lb] w (AnsL w xs) := by
 have L := hid (appendSeq gf lb eg n₀ xs w hn₀ hseq hlen)
 clear hseq
 go_enter Try.func29, Try.ntmps29
 go_wp2_with fail
 refine L.out.mono ?_
 rintro e w1 ⟨O, on, oc, rfl, oO, bb⟩
 have F := hid (show AnsL w xs (.returned (.slice O on oc)) w1 from ⟨O, on, oc, rfl, oO, bb⟩)
 clear oO bb L
 go_wp2
 go_ret
 exact F.out
theorem stepsFn (a v : Value) (T : Option Addr) (m c : Nat) (w : World) : Calls Try.prog 30 #[.agg #[a, v], .slice T m c] w fun e w' => e = .returned (.func (.func 54) #[] #[.pointer (some ⟨w.heap.size, 0, none⟩), .pointer (some ⟨w.heap.size + 1, 0, none⟩)]) ∧ w' = (w.alloc (.cells #[a, v] 50)).alloc (.cells #[.slice T m c] 24) := by
 have hmf : ∀ (fn : Fn) (first cap : Array Value) (w : World), (Instr.makeFunc fn first cap).run Try.prog w = .ok (.func fn first cap) w := fun _ _ _ _ => rfl
 go_enter Try.func30, Try.ntmps30
 go_wp2
 go_ret
 exact ⟨rfl, rfl⟩
theorem ansSteps_nil {w w' : World} {L : List St} (h : L = []) (hb : Below w.heap.size w w') : AnsSteps w L (.returned (.slice none 0 0)) w' := ⟨none, 0, 0, rfl, by rw [h]; exact OwnL.nil _ _ _ _ _, hb⟩
set_option maxHeartbeats 4000000 in
theorem implStepsFrom (a v u : Value) (d : Dat sSystem) (t : List Int) (w : World) (h : Rd w w.heap.size sSystem [a, v] d) (ht : Rd w w.heap.size sI [u] t) (hz : sz sSystem d ≤ 1048576) (hz' : sz sI t ≤ 1048576) :
  Calls Try.prog 7 #[.agg #[a, v], u] w (AnsSteps w (stepsI d.1 d.2 t)) := by
 have h0 := h
 have ht0 := ht
 obtain ⟨T, m, c, rfl, hT, hcT⟩ := rd_ints.1 ht
 have hm := len_ints hT.1 hz'
 obtain ⟨A, n, cs, V, q, cv, rfl, rfl, hs, hc, hcv, hq, hn, hq1, hrs, hsg, hE⟩ := rd_sys h hz
 obtain ⟨W, hW, rA, bel⟩ := box1 w 29 #[.slice A n cs, .slice V q cv]
 have HW := hid hW
 have LS := hid (systemOf _ _ d W (h0.next bel) hz)
 have LT := hid (fun (w1 : World) (bb : Below w.heap.size w w1) => implTermOk A T n cs m c d.1 t w1 (hs.next bb) (hT.next bb) hn hm)
 have HH := hid (show Rd w w.heap.size sSystem [.slice A n cs, .slice V q cv] d ∧ Rd w w.heap.size sI [.slice T m c] t from ⟨h0, ht0⟩)
 clear hW h h0 ht ht0 hT hcT hs hc hcv hq hrs hsg hE
 cases ok : sysOkB d.1 d.2 with
 | false =>
  have HS := hid ok
  clear ok
  go_enter Try.func7, Try.ntmps7
  go_wp2_with fail
  rw [← HW.out]
  refine LS.out.mono ?_
  rintro e w1 ⟨he, bb⟩
  rw [HS.out] at he
  have he : e = .returned (.tuple #[.agg #[.slice none 0 0, .slice none 0 0], .bool false]) := he
  subst he
  have F := hid (fun o => ansSteps_nil (L := stepsI d.1 d.2 t) (by unfold stepsI rightB; rw [HS.out]; rfl) ((next_trans bel bb).alloc (next_trans bel bb).size o))
  clear bb bel rA LT
  go_wp2
  go_ret
  exact F.out _
 | true =>
  have HS := hid ok
  clear ok
  cases okt : termOkB d.1 t with
  | false =>
   have HT := hid okt
   clear okt
   go_enter Try.func7, Try.ntmps7
   go_wp2_with fail
   rw [← HW.out]
   refine LS.out.mono ?_
   rintro e w1 ⟨he, bb⟩
   rw [HS.out] at he
   have he : e = .returned (.tuple #[.agg #[.slice A n cs, .slice V q cv], .bool true]) := he
   subst he
   have b2 := (next_trans bel bb).alloc (next_trans bel bb).size (.cells #[.slice A n cs, .slice V q cv] 50)
   have LT1 := hid (LT.out _ b2)
   have B2 := hid b2
   clear bb bel rA b2 LS LT
   go_wp2_with fail
   refine LT1.out.mono ?_
   rintro e w2 ⟨he, bb⟩
   rw [HT.out] at he
   subst he
   have F := hid (ansSteps_nil (L := stepsI d.1 d.2 t) (by unfold stepsI rightB; rw [HT.out, Bool.and_false]; rfl) (next_trans B2.out bb))
   clear bb B2 LT1
   go_wp2
   go_ret
   exact F.out
  | true =>
   have HT := hid okt
   clear okt
   have hR : rightB d.1 d.2 t = true := by unfold rightB; rw [HS.out, HT.out]; rfl
   go_enter Try.func7, Try.ntmps7
   go_wp2_with fail
   rw [← HW.out]
   refine LS.out.mono ?_
   rintro e w1 ⟨he, bb⟩
   rw [HS.out] at he
   have he : e = .returned (.tuple #[.agg #[.slice A n cs, .slice V q cv], .bool true]) := he
   subst he
   have rS := Row.new w1 50 #[.slice A n cs, .slice V q cv]
   have b2 := (next_trans bel bb).alloc (next_trans bel bb).size (.cells #[.slice A n cs, .slice V q cv] 50)
   have LT1 := hid (LT.out _ b2)
   have B2 := hid b2
   have RS := hid rS
   clear bb bel rA b2 LS LT rS
   go_wp2_with fail
   refine LT1.out.mono ?_
   rintro e w2 ⟨he, bb⟩
   rw [HT.out] at he
   subst he
   have b3 := next_trans B2.out bb
   have r3 := RS.out.next bb
   have k0 : w2.cell? ⟨w1.heap.size, 0, none⟩ = some (.slice A n cs) := r3.cell 0
   have k1 : w2.cell? ⟨w1.heap.size, 1, none⟩ = some (.slice V q cv) := r3.cell 1
   have LSF := hid (stepsFn (.slice A n cs) (.slice V q cv) T m c w2)
   obtain ⟨W4, hW4, q1, q2, b4⟩ := box2 w2 50 24 #[.slice A n cs, .slice V q cv] #[.slice T m c]
   have hlen : (stepsL d.1 d.2 t).length ≤ 1048576 := by
    have h1 := stepsMath.st_len (sg := d.1) (rs := d.2) (t := t) (i := t.length) (k := 0)
    rw [stepsMath.st_all] at h1
    have h2 := (term_len HT.out).2
    have h3 := (sys_parts HS.out).2.1
    have h4 : t.length * List.length d.2 ≤ 60 * 12 := Nat.mul_le_mul h2 h3
    omega
   have LC := hid (collect 54 #[.pointer (some ⟨w2.heap.size, 0, none⟩), .pointer (some ⟨w2.heap.size + 1, 0, none⟩)] (enters_of Try.func54 (by kernel_rfl) rfl) W4.heap.size (stepsL d.1 d.2 t) W4 (Nat.le_refl _)
    (steps_give 4 (by decide) w2.heap.size (w2.heap.size + 1) W4.heap.size (.slice A n cs) (.slice V q cv) (.slice T m c) d t W4 (Nat.le_refl _) q1.lt q2.lt q1 q2 (HH.out.1.next (next_trans b3 b4)) (HH.out.2.next (next_trans b3 b4)) hz hR) hlen)
   have B4 := hid (next_trans b3 b4)
   have HW4 := hid hW4
   clear bb b3 r3 q1 q2 b4 hW4 B2 RS LT1 hlen
   go_wp2_with fail
   refine LSF.out.mono ?_
   rintro e w3 ⟨rfl, hw3⟩
   rw [← HW4.out] at hw3
   subst hw3
   clear k0 k1 LSF
   go_wp2_with fail
   refine LC.out.mono ?_
   rintro e w5 ⟨O, on, oc, rfl, oO, bb⟩
   have F := hid (show AnsSteps w (stepsI d.1 d.2 t) (.returned (.slice O on oc)) w5 from ⟨O, on, oc, rfl, by unfold stepsI; rw [if_pos hR]; exact oO.wider B4.out.size (Nat.le_refl _), next_trans B4.out bb⟩)
   clear oO bb LC
   go_wp2
   go_ret
   exact F.out
end iter
end
section
namespace seqX
open Go.RowKit base sig term termOk termFacts segs shape kindsR kindsW ruleMath ruleSpec stepMath walkMath stepSpec iter
theorem seq_sz {L : List St} {C : Nat} (h : ∀ s ∈ L, s.2.2.length ≤ C) : sz sStepS L ≤ L.length * (C + 1) := by
 induction L with
 | nil => exact Nat.zero_le _
 | cons x r ih =>
  have h1 := ih (fun s hs => h s (List.mem_cons_of_mem _ hs))
  have h2 := h x (List.mem_cons_self ..)
  have e : sz sStepS (x :: r) = (r.length + 1) + ((0 + (0 + sz sI x.2.2)) + (r.map (sz sStep)).sum) := rfl
  have e2 : sz sStepS r = r.length + (r.map (sz sStep)).sum := rfl
  rw [e, sz_ints, List.length_cons, Nat.add_mul]
  rw [e2] at h1
  omega
theorem step_60 {sg : List Int} {x : Rl} {t v : List Int} {a : Nat} (h : stepO sg x t a = some v) : v.length ≤ 60 := by
 unfold stepO at h
 split at h
 ·cases h
 ·split at h
  ·rename_i hf
   injection h with h
   rw [← h]
   exact hf.2
  ·cases h
theorem stepsI_sz {sg : List Int} {rs : List Rl} {t : List Int} : sz sStepS (stepsI sg rs t) ≤ 1048576 := by
 cases h : rightB sg rs t with
 | false =>
  unfold stepsI
  rw [if_neg (by rw [h]; simp)]
  exact Nat.zero_le _
 | true =>
  unfold stepsI
  rw [if_pos h]
  obtain ⟨h1, h2⟩ := right_parts h
  have a := seq_sz (L := stepsL sg rs t) (C := 60) (fun s hs => by
   obtain ⟨a, r, _, _, _, _, e⟩ := steps_mem.1 hs
   exact step_60 e)
  have b := stepsMath.st_len (sg := sg) (rs := rs) (t := t) (i := t.length) (k := 0)
  rw [stepsMath.st_all] at b
  have c : t.length * rs.length ≤ 60 * 12 := Nat.mul_le_mul (term_len h2).2 (sys_parts h1).2.1
  have d : (stepsL sg rs t).length * (60 + 1) ≤ 720 * 61 := Nat.mul_le_mul (by omega) (Nat.le_refl _)
  omega
theorem specStepsFromX (a v u : Value) (d : Dat sSystem) (t : List Int) (w : World) (h : Rd w w.heap.size sSystem [a, v] d) (ht : Rd w w.heap.size sI [u] t) (hz : sz sSystem d ≤ 1048576) (hz' : sz sI t ≤ 1048576) :
  Calls Try.prog 10 #[.agg #[a, v], u] w (Copy1 w sStepS (stepsI d.1 d.2 t)) := (specStepsFrom a v u d t w h ht hz hz').mono fun _ _ hh => hh.copy
theorem implStepsFromX (a v u : Value) (d : Dat sSystem) (t : List Int) (w : World) (h : Rd w w.heap.size sSystem [a, v] d) (ht : Rd w w.heap.size sI [u] t) (hz : sz sSystem d ≤ 1048576) (hz' : sz sI t ≤ 1048576) :
  Calls Try.prog 7 #[.agg #[a, v], u] w (Copy1 w sStepS (stepsI d.1 d.2 t)) := (implStepsFrom a v u d t w h ht hz hz').mono fun _ _ hh => hh.copy
end seqX
end
section
open Go.Lib (hid)
namespace wFnSteps
open Go.RowKit base ints sig term termOk termFacts cursor marks app sym segs dice bigs drawL7 shape kinds kindsR kindsW varsOf shifted ruleMath ruleSpec stepMath walkMath stepSpec stepImpl walkSpec seqX iter same lawS w5
set_option maxRecDepth 100000
theorem same_yes {w : World} {A A' : Option Addr} {n c m c' : Nat} {xs : List Int} (h : Seg w w.heap.size A n xs) (h' : Seg w w.heap.size A' m xs) (hn : n ≤ 1048576) (hm : m ≤ 1048576) :
  Calls Try.prog 13 #[.slice A n c, .slice A' m c'] w (fun e w' => e = .returned (.bool true) ∧ Below w.heap.size w w') :=
 (implSame A A' n m c c' xs xs w h h' hn hm).mono fun _ _ ⟨he, d, hd⟩ => ⟨by rw [he, decide_eq_true rfl], by rw [hd]; exact drewN_below w d⟩
set_option maxHeartbeats 4000000 in
theorem law (A : Option Addr) (n c : Nat) (_ : List Int) (w : World) (h : SegB w w.heap.size A n) (hN : n ≤ 9223372036854775807) :
  Calls Try.prog 3 #[.slice A n c] w (Fine w) := by
 by_cases hbig : n ≤ 4096
 ·have LB := hid (bigAns A n c false w (by simp; omega) hN)
  go_enter Try.func3, Try.ntmps3
  go_wp2_with fail
  refine LB.out.mono ?_
  rintro e w' ⟨rfl, rfl⟩
  clear LB
  go_wp2_with fail
  refine (drawStepsFrom A n c w h hbig).mono ?_
  rintro e w2 ⟨S, sn, sc, R, rn, rc, d, U, un, uc, t, rfl, sd, hz0, td, ht65, b2⟩
  clear h
  have hz : sz sSystem d ≤ 1048576 := by omega
  have hzt : sz sI t ≤ 1048576 := by rw [sz_ints]; omega
  obtain ⟨o, ho⟩ : ∃ o, w2.heap.size = o := ⟨_, rfl⟩
  obtain ⟨W, hW⟩ : ∃ W, W = w2.alloc (.cells #[.slice S sn sc, .slice R rn rc] 29) := ⟨_, rfl⟩
  have T : Sy w o S sn sc R rn rc d (.slice U un uc) t W := by
   have bb : Below w2.heap.size w2 W := by rw [hW]; exact (Below.refl _ _).alloc (Nat.le_refl _) _
   exact ⟨sd.next bb, td.next bb, by rw [hW, ← ho]; exact Row.new _ _ _, next_trans b2 bb⟩
  have HW := hid hW
  have HO := hid ho
  clear sd td b2 hW ho
  have c0 : W.cell? ⟨o, 0, none⟩ = some (.slice S sn sc) := T.c0
  have c1 : W.cell? ⟨o, 1, none⟩ = some (.slice R rn rc) := T.c1
  have HZ := hid (And.intro hz hzt)
  clear hz hzt hz0 ht65
  go_wp2_with fail
  rw [← HW.out, HO.out]
  refine (implStepsFromX _ _ _ d t W T.s T.t HZ.out.1 HZ.out.2).mono ?_
  rintro e w3 ⟨L, ln, lc, rfl, oL, bb⟩
  replace T := T.next bb
  have rL := oL.rd
  clear bb c0 c1 HW HO oL
  have c0 : w3.cell? ⟨o, 0, none⟩ = some (.slice S sn sc) := T.c0
  have c1 : w3.cell? ⟨o, 1, none⟩ = some (.slice R rn rc) := T.c1
  go_wp2_with fail
  refine (implNormalIn _ _ _ d t w3 T.s T.t HZ.out.1 HZ.out.2).mono ?_
  rintro e w4 ⟨rfl, bb⟩
  replace T := T.next bb
  replace rL := rL.next bb
  clear bb c0 c1
  have c0 : w4.cell? ⟨o, 0, none⟩ = some (.slice S sn sc) := T.c0
  have c1 : w4.cell? ⟨o, 1, none⟩ = some (.slice R rn rc) := T.c1
  obtain ⟨nb, hnb⟩ : ∃ b, normalB d.1 d.2 t = b := ⟨_, rfl⟩
  rw [hnb]
  have HNB := hid hnb
  clear hnb
  go_wp2_with fail
  refine (specStepsFromX _ _ _ d t w4 T.s T.t HZ.out.1 HZ.out.2).mono ?_
  rintro e w5 ⟨L', ln', lc', rfl, oL', bb⟩
  replace T := T.next bb
  replace rL := rL.next bb
  have LW := hid (w5Yes _ _ _ w5 rL oL'.rd stepsI_sz)
  clear bb c0 c1 oL'
  go_wp2_with fail
  refine LW.out.mono ?_
  rintro e w6 ⟨rfl, bb⟩
  replace T := T.next bb
  replace rL := rL.next bb
  clear bb LW
  have c0 : w6.cell? ⟨o, 0, none⟩ = some (.slice S sn sc) := T.c0
  have c1 : w6.cell? ⟨o, 1, none⟩ = some (.slice R rn rc) := T.c1
  have en : (nb != nb) = false := by simp
  have LNS := hid (specNormalIn _ _ _ d t w6 T.s T.t HZ.out.1 HZ.out.2)
  go_wp2_with fail
  refine LNS.out.mono ?_
  rintro e w7 ⟨he, bb⟩
  rw [HNB.out] at he
  subst he
  replace T := T.next bb
  replace rL := rL.next bb
  clear bb c0 c1 LNS
  obtain ⟨LL, hLL⟩ : ∃ l, stepsI d.1 d.2 t = l := ⟨_, rfl⟩
  rw [hLL] at rL
  obtain ⟨L0, lc0, e0, hcapL⟩ := rL.slice
  injection e0 with e01 e02 e03
  subst e01 e02 e03
  have hlnl : LL.length ≤ 1048576 := by have := sz_len (show sz sStepS LL ≤ 1048576 by rw [← hLL]; exact stepsI_sz); exact this
  have hall : ∀ x ∈ LL, stepAtO d.1 d.2 t x.1 x.2.1 = some x.2.2 := fun x hx => by
   rw [← hLL] at hx
   unfold stepsI at hx
   split at hx
   ·rename_i hr
    exact steps_at (right_parts hr).1 (right_parts hr).2 hx
   ·cases hx
  have hnone : nb = true → LL.length = 0 := fun e => by rw [← hLL, normal_none (HNB.out.trans e)]; rfl
  have HALL := hid hall
  obtain ⟨ln, hln⟩ : ∃ l, LL.length = l := ⟨_, rfl⟩
  rw [hln] at hnone hlnl rL ⊢
  have HLN := hid hln
  have HT := hid T
  have HRL := hid rL
  have HNN := hid hnone
  clear hLL hall hln T rL hcapL hnone
  have fin : Hid (∀ wr, Sy w o S sn sc R rn rc d (.slice U un uc) t wr → Rd wr wr.heap.size sStepS [.slice L ln lc] LL → True) := hid (fun _ _ _ => trivial)
  clear fin
  have hpos : nb = true → decide ((0 : Int) < (ln : Int)) = false := fun e => by rw [HNN.out e]; rfl
  cases nb with
  | true =>
   have hp0 : decide ((0 : Int) < (ln : Int)) = false := hpos rfl
   have hl0 : ln = 0 := HNN.out rfl
   clear hpos en
   subst hl0
   have F := hid HT.out.b
   clear HT HRL HNN HALL HLN
   go_wp2_with fail
   go_loopg [7] 0 (fun g i wr => i = .int .i64 0 ∧ Below w.heap.size w wr)
   case atStart => exact ⟨rfl, F.out⟩
   case round =>
    obtain ⟨rfl, bw⟩ := hrel
    have F2 := hid bw
    clear bw F
    go_wp2
    go_ret
    exact ⟨rfl, F2.out⟩
  | false =>
   clear hpos en
   go_wp2_with fail
   go_loopg [7] ln (fun g i wr => ∃ k : Nat, i = .int .i64 k ∧ k + g = ln ∧ Sy w o S sn sc R rn rc d (.slice U un uc) t wr ∧ Rd wr wr.heap.size sStepS [.slice L ln lc] LL)
   case atStart => exact ⟨0, rfl, by omega, HT.out, HRL.out⟩
   case round =>
    clear HT HRL
    obtain ⟨k, rfl, hkg, T, rL⟩ := hrel
    have HK := hid hkg
    clear hkg
    by_cases hk : k < ln
    ·obtain ⟨b, off, v, x, eA, hb, ex, q0, q1, q2, hv⟩ := rd_step rL (Below.refl _ _) HLN.out hk
     subst eA
     obtain ⟨V, vn, vc, rfl, hV, hcV⟩ := rd_ints.1 hv
     have hmem : x ∈ LL := by
      rw [← ex.out, List.getD_eq_getElem?_getD, List.getElem?_eq_getElem (by rw [HLN.out]; exact hk), Option.getD_some]
      exact List.getElem_mem _
     have hst := HALL.out x hmem
     have hred := stepAt_redex hst
     have hth := there_parts (stepAt_parts hst).1
     obtain ⟨xa, xr, xv⟩ := x
     dsimp only at hst hred hth q0 q1 q2 hV
     have hx60 : xv.length ≤ 60 := by have := stepAt_ok hst; exact (term_len this).2
     have hvn : vn ≤ 60 := by have := hV.1; omega
     have hth1 : 0 ≤ xa ∧ xa < 60 := by have h1 := (term_len hth.2.1).2; omega
     have hth2 : 0 ≤ xr ∧ xr < 12 := by have h1 := (sys_parts hth.1).2.1; omega
     obtain ⟨xa1, xa2⟩ := hth1
     obtain ⟨xr1, xr2⟩ := hth2
     have i0 : (0 : Int) ≤ (k : Int) := by omega
     have i1 : (k : Int) < (ln : Int) := by omega
     have LA := hid ((implStepAt _ _ _ d t xa xr wr.drew T.drew.s T.drew.t HZ.out.1 HZ.out.2 (by omega) (by omega) (by omega) (by omega)))
     rw [hst] at LA
     have LA := hid (show Calls Try.prog 12 #[.agg #[.slice S sn sc, .slice R rn rc], .slice U un uc, .int .i64 xa, .int .i64 xr] wr.drew (fun e w' => ∃ X xn xc, e = .returned (.tuple #[.slice X xn xc, .bool true]) ∧ marks.Own w' wr.drew.heap.size (.slice X xn xc) xv ∧ Below wr.drew.heap.size wr.drew w') from LA.out)
     have LR := hid (fun (w9 : World) (T9 : Sy w o S sn sc R rn rc d (.slice U un uc) t w9) => implRedexAt _ _ _ d t xa xr w9 T9.s T9.t HZ.out.1 HZ.out.2 (by omega) (by omega) (by omega) (by omega))
     rw [hred] at LR
     have c0 : wr.cell? ⟨o, 0, none⟩ = some (.slice S sn sc) := T.c0
     have c1 : wr.cell? ⟨o, 1, none⟩ = some (.slice R rn rc) := T.c1
     have zo : o < wr.heap.size := T.r.lt
     have HTD := hid T.drew
     have HRD := hid (rL.next (drew_below wr))
     have HV := hid (hV.next (drew_below wr))
     clear T rL hv hcV hst hred hth hmem ex hV
     go_wp2_with fail
     go_region_held3 (fun w' => w'.cell? ⟨o, 0, none⟩ = some (.slice S sn sc) ∧ w'.cell? ⟨o, 1, none⟩ = some (.slice R rn rc) ∧ w'.cell? ⟨b, off + k * 3, none⟩ = some (.int .i64 xa) ∧ w'.cell? ⟨b, off + k * 3 + 1, none⟩ = some (.int .i64 xr) ∧ w'.cell? ⟨b, off + k * 3 + 2, none⟩ = some (.slice V vn vc))
      (go_keep)
      (first
       | (go_at_call 12; refine LA.out.mono ?_; rintro e w8 ⟨X, xn, xc, rfl, oX, bb⟩; have c0_8 : w8.cell? ⟨o, 0, none⟩ = some (.slice S sn sc) := (bb.cell (p := ⟨o, 0, none⟩) zo).trans c0; have c1_8 : w8.cell? ⟨o, 1, none⟩ = some (.slice R rn rc) := (bb.cell (p := ⟨o, 1, none⟩) zo).trans c1; have q0_8 : w8.cell? ⟨b, off + k * 3, none⟩ = some (.int .i64 xa) := (bb.cell (p := ⟨b, off + k * 3, none⟩) hb).trans q0; have q1_8 : w8.cell? ⟨b, off + k * 3 + 1, none⟩ = some (.int .i64 xr) := (bb.cell (p := ⟨b, off + k * 3 + 1, none⟩) hb).trans q1; have q2_8 : w8.cell? ⟨b, off + k * 3 + 2, none⟩ = some (.slice V vn vc) := (bb.cell (p := ⟨b, off + k * 3 + 2, none⟩) hb).trans q2))
     have T8 := HTD.out.next bb
     have R8 := HRD.out.next bb
     have LST := hid (same_yes (c := xc) (c' := vc) ((Own.seg oX).next (drew_below w8)) ((HV.out.next bb).next (drew_below w8)) (by have := Own.len oX; omega) (by omega))
     have HT8 := hid T8.drew
     have HR8 := hid (R8.next (drew_below w8))
     have zo8 : o < w8.heap.size := T8.r.lt
     have hb8 : b < w8.heap.size := by have := bb.size; have : wr.drew.heap.size = wr.heap.size := rfl; omega
     clear c0 c1 q0 q1 q2 bb oX T8 R8 LA HTD HRD HV
     go_wp2_with fail
     go_region_held3 (fun w' => w'.cell? ⟨o, 0, none⟩ = some (.slice S sn sc) ∧ w'.cell? ⟨o, 1, none⟩ = some (.slice R rn rc) ∧ w'.cell? ⟨b, off + k * 3, none⟩ = some (.int .i64 xa) ∧ w'.cell? ⟨b, off + k * 3 + 1, none⟩ = some (.int .i64 xr) ∧ w'.cell? ⟨b, off + k * 3 + 2, none⟩ = some (.slice V vn vc))
      (go_keep)
      (first
       | (go_at_call 13; refine LST.out.mono ?_; rintro e w10 ⟨rfl, bb⟩; have T10 := HT8.out.next bb; have R10 := HR8.out.next bb; have c0_10 : w10.cell? ⟨o, 0, none⟩ = some (.slice S sn sc) := T10.c0; have c1_10 : w10.cell? ⟨o, 1, none⟩ = some (.slice R rn rc) := T10.c1; have q0_10 : w10.cell? ⟨b, off + k * 3, none⟩ = some (.int .i64 xa) := (bb.cell (p := ⟨b, off + k * 3, none⟩) hb8).trans q0_8; have q1_10 : w10.cell? ⟨b, off + k * 3 + 1, none⟩ = some (.int .i64 xr) := (bb.cell (p := ⟨b, off + k * 3 + 1, none⟩) hb8).trans q1_8; have q2_10 : w10.cell? ⟨b, off + k * 3 + 2, none⟩ = some (.slice V vn vc) := (bb.cell (p := ⟨b, off + k * 3 + 2, none⟩) hb8).trans q2_8; have hb10 : b < w10.heap.size := Nat.lt_of_lt_of_le hb8 bb.size)
       | (go_at_call 14; refine (LR.out w10 T10).mono ?_; rintro e w11 ⟨rfl, b11⟩; have c0_11 : w11.cell? ⟨o, 0, none⟩ = some (.slice S sn sc) := (T10.next b11).c0; have c1_11 : w11.cell? ⟨o, 1, none⟩ = some (.slice R rn rc) := (T10.next b11).c1; have q0_11 : w11.cell? ⟨b, off + k * 3, none⟩ = some (.int .i64 xa) := (b11.cell (p := ⟨b, off + k * 3, none⟩) hb10).trans q0_10; have q1_11 : w11.cell? ⟨b, off + k * 3 + 1, none⟩ = some (.int .i64 xr) := (b11.cell (p := ⟨b, off + k * 3 + 1, none⟩) hb10).trans q1_10; have q2_11 : w11.cell? ⟨b, off + k * 3 + 2, none⟩ = some (.slice V vn vc) := (b11.cell (p := ⟨b, off + k * 3 + 2, none⟩) hb10).trans q2_10))
     have HT11 := hid (T10.next b11)
     have HR11 := hid (R10.next b11)
     clear c0_8 c1_8 q0_8 q1_8 q2_8 c0_10 c1_10 q0_10 q1_10 q2_10 bb b11 T10 R10 LST LR HT8 HR8 c0_11 c1_11 q0_11 q1_11 q2_11
     go_wp2
     go_roundg (gk - 1)
     case measure => have := HK.out; omega
     case rel => exact ⟨k + 1, by simp, by have := HK.out; omega, HT11.out, HR11.out⟩
    ·have e1 : k = ln := by have := HK.out; omega
     subst e1
     have F := hid T.b
     have h1 : ¬ (k : Int) < (k : Int) := by omega
     clear T rL
     go_wp2
     go_ret
     exact ⟨rfl, F.out⟩
 ·have LB := hid (bigAns A n c true w (by simp; omega) hN)
  clear h
  go_enter Try.func3, Try.ntmps3
  go_wp2_with fail
  refine LB.out.mono ?_
  rintro e w' ⟨rfl, rfl⟩
  go_wp2
  go_ret
  exact ⟨rfl, Below.refl _ _⟩
end wFnSteps
end
end Go.Proofs.Ytmoidijngeijkaa
