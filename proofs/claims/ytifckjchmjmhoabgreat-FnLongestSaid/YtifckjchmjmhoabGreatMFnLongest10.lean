/-
  MERGED: my texts Iter, RangeGive, RangePre, RangeX, Marks9, NormImpl, StepsIter, SeqImpl, StepsIterX, After, Longest, SearchIn, LongImpl, LongX, one behind the other, as they are. By an AI agent.
-/
import Derived.Test.YtifckjchmjmhoabGreatMFnLongest9
import Derived.RangeFuncNested
import Derived.RangeFuncBound
import Derived.RangeFuncCalls
import Derived.RangeFuncLeaves
import Derived.Shelf.Abstract
import Derived.Shelf.RegionOpen
import Derived.WalkKit
import Derived.OwnWalkIn
import Derived.TacticsInMore
import Derived.LoopNIn
import Derived.LoopIn
import Derived.Maps.OwnIn
namespace Go.Proofs.YtifckjchmjmhoabGreat
section
namespace iter
open Go.RowKit Go.Shelf base ints sig term termOk endAt endOf marks app sym sub segs segsHelp matchMath matchSpec whole extended termFacts shape kindsR ruleMath ruleSpec stepMath walkMath stepSpec stepImpl
set_option maxRecDepth 100000
attribute [local go_sem] Oper.semAt_some
def rowL (sg : List Int) (rs : List Rl) (t : List Int) (x k : Nat) : List (Nat × Nat) := (List.range k).filterMap fun r => if redB sg (rs.getD r ([], [])) t x = true then some (x, r) else none
def comeL (sg : List Int) (rs : List Rl) (t : List Int) (x : Nat) : List (Nat × Nat) := (List.range x).flatMap fun a => rowL sg rs t a rs.length
def redL (sg : List Int) (rs : List Rl) (t : List Int) : List (Nat × Nat) := comeL sg rs t t.length
section
variable {sg : List Int} {rs : List Rl} {t : List Int}
theorem row_yes {x k : Nat} (h : redB sg (rs.getD k ([], [])) t x = true) : rowL sg rs t x (k + 1) = rowL sg rs t x k ++ [(x, k)] := by unfold rowL; rw [List.range_succ, List.filterMap_append]; simp only [List.filterMap_cons, List.filterMap_nil, h, if_true]
theorem row_no {x k : Nat} (h : redB sg (rs.getD k ([], [])) t x = false) : rowL sg rs t x (k + 1) = rowL sg rs t x k := by unfold rowL; rw [List.range_succ, List.filterMap_append]; simp only [List.filterMap_cons, List.filterMap_nil, h, Bool.false_eq_true, if_false, List.append_nil]
theorem come_succ (x : Nat) : comeL sg rs t (x + 1) = comeL sg rs t x ++ rowL sg rs t x rs.length := by unfold comeL; rw [List.range_succ, List.flatMap_append]; simp
theorem come_pre {x y : Nat} (h : x ≤ y) : comeL sg rs t x <+: comeL sg rs t y := by
 induction y with
 | zero => obtain rfl : x = 0 := by omega
           exact List.prefix_rfl
 | succ y ih =>
   by_cases e : x = y + 1
   · subst e; exact List.prefix_rfl
   · exact (ih (by omega)).trans (by rw [come_succ]; exact List.prefix_append _ _)
theorem row_pre {x k q : Nat} (h : k ≤ q) : rowL sg rs t x k <+: rowL sg rs t x q := by
 induction q with
 | zero => obtain rfl : k = 0 := by omega
           exact List.prefix_rfl
 | succ q ih =>
   by_cases e : k = q + 1
   · subst e; exact List.prefix_rfl
   · refine (ih (by omega)).trans ?_
     cases hb : redB sg (rs.getD q ([], [])) t x with
     | false => rw [row_no hb]; exact List.prefix_rfl
     | true => rw [row_yes hb]; exact List.prefix_append _ _
theorem part_pre {x k : Nat} (hx : x < t.length) (hk : k ≤ rs.length) : comeL sg rs t x ++ rowL sg rs t x k <+: redL sg rs t := by
 refine List.IsPrefix.trans ?_ (come_pre (show x + 1 ≤ t.length by omega))
 rw [come_succ]
 exact (List.prefix_append_right_inj _).2 (row_pre hk)
theorem red_nil : redL sg rs t = [] ↔ ((List.range t.length).all fun a => rs.all fun x => !redB sg x t a) = true := by
 unfold redL comeL rowL
 rw [List.flatMap_eq_nil_iff, List.all_eq_true]
 refine forall_congr' fun a => forall_congr' fun _ => ?_
 rw [List.filterMap_eq_nil_iff, List.all_eq_true]
 constructor
 · intro h y hy
   obtain ⟨i, hi, rfl⟩ := List.getElem_of_mem hy
   have h1 := h i (List.mem_range.2 hi)
   have e : rs.getD i ([], []) = rs[i] := by simp only [List.getD, List.getElem?_eq_getElem hi, Option.getD_some]
   rw [e] at h1
   cases hb : redB sg rs[i] t a
   · rfl
   · rw [hb] at h1; simp at h1
 · intro h i hi
   have hi := List.mem_range.1 hi
   have e : rs.getD i ([], []) = rs[i] := by simp only [List.getD, List.getElem?_eq_getElem hi, Option.getD_some]
   have := h rs[i] (List.getElem_mem hi)
   rw [e, if_neg (by simpa using this)]
end
section
variable {P : Program} {n : Nat} {ops : Array Oper} {rest : List Oper} {o : Oper} {a : Act} {w : World} {Q : Exit → Act → World → Prop}
theorem rowAllocIn (hgd : o.guard = none) (t : TypeId) (ho : o.op = .alloc t) (z : Array Value) (hz : ∀ w, (zeroValue t).run P w = .ok (.agg z) w)
   (h : wpListIn Fence.wide n P ops Q rest (a.put o.dst (.pointer (some ⟨w.heap.size, 0, none⟩))) (w.alloc (.cells z t))) : wpListIn Fence.wide n P ops Q (o :: rest) a w :=
 wpListIn_plain hgd fun _ hK => by
   refine ⟨fun _ _ => trivial, ?_⟩
   show Oper.uponIn _ _ _ _ _ _ _ ((Oper.semAt none a.eval o).run P w)
   rw [Oper.semAt_none]
   unfold execOp
   simp only [ho, Instr.alloc, Sem.run_bind, hz, Result.andThen_ok, newVar, Value.cells]
   exact hK _ _ h
theorem rowStoreIn (hgd : o.guard = none) (ty : TypeId) (x y : Operand) (ho : o.op = .store ty x y) (g : Nat) (cells old : Array Value) (t : TypeId) (hx : a.eval x = .pointer (some ⟨g, 0, none⟩)) (hy : a.eval y = .agg cells)
   (hg : w.heap[g]? = some (.cells old t (0, 0))) (hi : (P.info? ty).map (·.size) = some cells.size) (hs : old.size = cells.size) (h1 : cells.all (·.oneCell') = true)
   (h : wpListIn Fence.wide n P ops Q rest (a.put o.dst undef) (w.setRow g cells)) : wpListIn Fence.wide n P ops Q (o :: rest) a w :=
 wpListIn_plain hgd fun _ hK => by
   refine ⟨fun _ _ => trivial, ?_⟩
   show Oper.uponIn _ _ _ _ _ _ _ ((Oper.semAt none a.eval o).run P w)
   rw [Oper.semAt_none]
   unfold execOp
   simp only [ho, hx, hy, Instr.storeAt, Instr.sureAddr, Sem.run_bind, Sem.run_pure, Result.andThen_ok, run_storeVar_row w g t ty old cells hg hi hs h1]
   exact hK _ _ h
end
def SeqPre {α : Type} (n : Nat) (P : Program) (g : Nat) (lb : Array Value) (encs : α → Array Value) (Kp : World → World → Prop) (xs : List α) (w : World) : Prop :=
 ∀ (l : Nat) (J Jx : List α → World → Prop) (W : World), Below w.heap.size w W → AbidesFrom W.heap.size J → AbidesFrom W.heap.size Jx →
   (∀ pre x W1, J pre W1 → pre ++ [x] <+: xs → YieldAt Fence.wide (n - 1) P l (encs x) W1 fun e W' => (e = .returned (.bool true) ∧ J (pre ++ [x]) W' ∧ Kp W1 W') ∨ (e = .returned (.bool false) ∧ Jx (pre ++ [x]) W')) →
   J [] W → CallsIn Fence.wide n P g (#[.func (.yield l) #[] #[]] ++ lb) W fun e W' => (∃ v, e = .returned v) ∧ ((∃ ys, ys = xs ∧ J ys W') ∨ (∃ pre, (pre ≠ [] ∧ pre <+: xs) ∧ Jx pre W'))
def Kr (n₀ B2 B3 : Nat) (A B : World) : Prop := Below n₀ A B ∧ B.heap[B2]? = A.heap[B2]? ∧ B.heap[B3]? = A.heap[B3]?
theorem Kr.refl (n₀ B2 B3 : Nat) (A : World) : Kr n₀ B2 B3 A A := ⟨Below.refl _ _, rfl, rfl⟩
theorem Kr.trans {n₀ B2 B3 : Nat} {A B C : World} (h : Kr n₀ B2 B3 A B) (k : Kr n₀ B2 B3 B C) : Kr n₀ B2 B3 A C := ⟨h.1.trans k.1, k.2.1.trans h.2.1, k.2.2.trans h.2.2⟩
theorem Kr.of_below {n₀ B2 B3 : Nat} {A B : World} (h : Below A.heap.size A B) (h1 : n₀ ≤ A.heap.size) (h2 : B2 < A.heap.size) (h3 : B3 < A.heap.size) : Kr n₀ B2 B3 A B := ⟨h.mono h1, h.block _ h2, h.block _ h3⟩
theorem Kr.row2 {n₀ B2 B3 : Nat} {A B : World} {t : TypeId} {cs : Array Value} (h : Kr n₀ B2 B3 A B) (r : Row A B2 t cs) : Row B B2 t cs := h.2.1.trans r
theorem Kr.row3 {n₀ B2 B3 : Nat} {A B : World} {t : TypeId} {cs : Array Value} (h : Kr n₀ B2 B3 A B) (r : Row A B3 t cs) : Row B B3 t cs := h.2.2.trans r
set_option maxHeartbeats 4000000 in
theorem redexes_stopsK (n : Nat) (hn : 1 ≤ n) (B2 B3 n₀ : Nat) (a v u : Value) (d : Dat sSystem) (t : List Int) (w : World) (hn₀ : n₀ ≤ w.heap.size) (r2 : Row w B2 60 #[a, v]) (r3 : Row w B3 24 #[u])
   (h : Rd w n₀ sSystem [a, v] d) (ht : Rd w n₀ sI [u] t) (hz : sz sSystem d ≤ 1048576) (hok : rightB d.1 d.2 t = true) :
   SeqPre n Tryz.prog 99 #[.pointer (some ⟨B3, 0, none⟩), .pointer (some ⟨B2, 0, none⟩)] (fun x : Nat × Nat => #[Value.int .i64 (x.1 : Int), .int .i64 (x.2 : Int)]) (Kr n₀ B2 B3) (redL d.1 d.2 t) w := fun l J Jx W hW hJ hJx hY h0 => by
 have hWn := hW.mono hn₀
 replace r2 := r2.next hW
 replace r3 := r3.next hW
 replace h := h.below hWn
 replace ht := ht.below hWn
 have hsW : n₀ ≤ W.heap.size := Nat.le_trans hn₀ hW.size
 obtain ⟨A, m0, cs, V, q, cv, rfl, rfl, -, -, -, hq, -, hq1, -, -, -⟩ := rd_sys (h.more hsW) hz
 obtain ⟨T, m, c, rfl, hT, hcT⟩ := rd_ints.1 ht
 have htl : t.length = m := hT.1
 have hm60 : m ≤ 60 := by have := (term_len (right_parts hok).2).2; omega
 have hmx : m ≤ 1048576 := by omega
 have K3 : W.cell? ⟨B3, 0, none⟩ = some (.slice T m c) := r3.cell 0
 have HQ := Lib.hid hq
 have HTL := Lib.hid htl
 have LM := Lib.hid (fun (w1 : World) (bb : Below n₀ W w1) (x k : Nat) hx hk => matchAt _ _ _ d t x k w1 ((h.below bb).more (Nat.le_trans hsW bb.size)) ((ht.below bb).more (Nat.le_trans hsW bb.size)) hz hok hx hk)
 have HJ := Lib.hid hJ
 have HOK := Lib.hid (show (∀ k, k < d.2.length → ruleOkB d.1 (d.2.getD k ([], [])) = true) ∧ termOkB d.1 t = true from ⟨fun k hk => sys_rule (right_parts hok).1 hk, (right_parts hok).2⟩)
 have HR2 := Lib.hid r2
 have HR3 := Lib.hid r3
 clear hT hcT h ht hz hok hq htl hW hWn hn₀ r2 r3
 refine callsIn_of_wp Tryz.func99 rfl trivial ?_ rfl
 simp only [Tryz.ntmps99, List.size_toArray, List.length_cons, List.length_nil, Nat.reduceAdd, Nat.reduceSub, Array.replicate_succ, Array.replicate_zero, List.push_toArray, List.append_toArray, List.nil_append, List.cons_append]
 gi_wp2
 gi_loopw [10] (fun i wr => ∃ x : Nat, x ≤ m ∧ i = .int .i64 x ∧ J (comeL d.1 d.2 t x) wr ∧ Kr n₀ B2 B3 W wr) (fun i _ => m - (intOf i).toNat)
 case atStart => exact ⟨0, Nat.zero_le _, rfl, h0, Kr.refl _ _ _ _⟩
 case round =>
   obtain ⟨x, hx, rfl, hJx0, hB⟩ := hrel
   by_cases hlt : x < m
   · have K2 : wr.cell? ⟨B2, 1, none⟩ = some (.slice V q cv) := (hB.row2 HR2.out).cell 1
     have hxm : (x : Int) < (m : Int) := by omega
     gi_wp2
     gi_loopw [16] (fun i wq => ∃ k : Nat, k ≤ q ∧ i = .int .i64 k ∧ J (comeL d.1 d.2 t x ++ rowL d.1 d.2 t x k) wq ∧ Kr n₀ B2 B3 W wq) (fun i _ => q - (intOf i).toNat)
     case atStart => exact ⟨0, Nat.zero_le _, rfl, by simpa [rowL] using hJx0, hB⟩
     case round =>
       obtain ⟨k, hk, rfl, hJk, hBk⟩ := hrel
       have K20 : wr.cell? ⟨B2, 0, none⟩ = some (.slice A m0 cs) := (hBk.row2 HR2.out).cell 0
       have K21 : wr.cell? ⟨B2, 1, none⟩ = some (.slice V q cv) := (hBk.row2 HR2.out).cell 1
       have K30 : wr.cell? ⟨B3, 0, none⟩ = some (.slice T m c) := (hBk.row3 HR3.out).cell 0
       by_cases hkq : k < q
       · have hkm : (k : Int) < (q : Int) := by omega
         have hxl : x < t.length := by rw [HTL.out]; exact hlt
         have hkl : k < d.2.length := by rw [HQ.out]; exact hkq
         have LM1 := Lib.hid (LM.out wr hBk.1 x k hxl hkl)
         have HRED := Lib.hid (red_at (sg := d.1) (t := t) (a := x) (HOK.out.1 k hkl) HOK.out.2 hxl)
         obtain ⟨R, hR⟩ : ∃ R, mst d.1 t (d.2.getD k ([], [])).1 x s0 = R := ⟨_, rfl⟩
         rw [hR] at LM1 HRED
         clear hR
         have HJK := Lib.hid hJk
         have HBK := Lib.hid hBk
         clear hJk hBk
         gi_wp2_with (refine ⟨trivial, ?_⟩; gi_at_call 100; refine (callsIn_wide.2 LM1.out).mono ?_; rintro e w3 ⟨rs, rfl, tab, hsz, bb⟩; refine (?_ : Hid _).out)
         have one := Lib.hid tab.one
         have h24 := Lib.hid tab.1
         obtain ⟨bo, hbo⟩ : ∃ bo, R.isSome = bo := ⟨_, rfl⟩
         rw [hbo] at HRED ⊢
         have b2 : Below wr.heap.size wr (w3.alloc (.cells rs 158)) := bb.alloc bb.size _
         have hJ3 := HJ.out _ wr (w3.alloc (.cells rs 158)) none HJK.out (cursor.grown_below b2 none) (fun r e => by cases e)
         have hBn : Kr n₀ B2 B3 W (w3.alloc (.cells rs 158)) := HBK.out.trans (Kr.of_below b2 (Nat.le_trans hsW HBK.out.1.size) (HBK.out.row2 HR2.out).lt (HBK.out.row3 HR3.out).lt)
         have hfull : comeL d.1 d.2 t x ++ rowL d.1 d.2 t x (k + 1) <+: redL d.1 d.2 t := part_pre hxl hkl
         clear tab hsz bb hbo LM1 b2 K20 K21 K30
         cases bo with
         | false =>
           have F := Lib.hid (show J (comeL d.1 d.2 t x ++ rowL d.1 d.2 t x (k + 1)) (w3.alloc (.cells rs 158)) ∧ Kr n₀ B2 B3 W (w3.alloc (.cells rs 158)) from ⟨by rw [row_no HRED.out.symm]; exact hJ3, hBn⟩)
           clear hJ3 hBn hfull
           refine Lib.hid ?_
           gi_wp2_with (first
             | (refine rowAllocIn rfl 158 rfl z24 zero_b ?_)
             | (refine rowStoreIn rfl 158 _ _ rfl w3.heap.size rs z24 158 rfl rfl (heap_alloc_new w3 _) (by rw [h24.out]; exact size_b) (by rw [h24.out]; rfl) one.out ?_; rw [World.setRow_alloc_new]))
           refine ⟨fun _ h => (by cases h), ?_⟩
           gi_wp2
           go_roundw
           case rel => exact ⟨k + 1, by omega, by simp, F.out.1, F.out.2⟩
           case measure => simp [intOf]; omega
         | true =>
           have hyes := row_yes (rs := d.2) (x := x) (k := k) HRED.out.symm
           rw [hyes, ← List.append_assoc] at hfull
           obtain ⟨fn, tmps, assign, body, hy, hR⟩ := hY _ (x, k) _ hJ3 hfull
           dsimp only at hy
           have HYES := Lib.hid hyes
           have HF := Lib.hid hfull
           clear hJ3 hyes hfull hY
           refine Lib.hid ?_
           gi_wp2_with (first
             | (refine rowAllocIn rfl 158 rfl z24 zero_b ?_)
             | (refine rowStoreIn rfl 158 _ _ rfl w3.heap.size rs z24 158 rfl rfl (heap_alloc_new w3 _) (by rw [h24.out]; exact size_b) (by rw [h24.out]; rfl) one.out ?_; rw [World.setRow_alloc_new]))
           refine hR.mono ?_
           rintro e W3 (⟨rfl, hJ4, hk4⟩ | ⟨rfl, hJx4⟩)
           · have F := Lib.hid (show J (comeL d.1 d.2 t x ++ rowL d.1 d.2 t x (k + 1)) W3 ∧ Kr n₀ B2 B3 W W3 from ⟨by rw [HYES.out, ← List.append_assoc]; exact hJ4, hBn.trans hk4⟩)
             clear hJ4 hk4 hBn
             gi_wp2
             go_roundw
             case rel => exact ⟨k + 1, by omega, by simp, F.out.1, F.out.2⟩
             case measure => simp [intOf]; omega
           · gi_wp2
             refine bodyPost_ret (results_none rfl _ _ _) rfl ?_
             exact ⟨⟨_, rfl⟩, .inr ⟨_, ⟨by simp, HF.out⟩, hJx4⟩⟩
       · obtain rfl : k = q := by omega
         gi_wp2
         go_roundw
         case rel => exact ⟨x + 1, by omega, by simp, by rw [come_succ, HQ.out]; exact hJk, hBk⟩
         case measure => simp [intOf]; omega
   · obtain rfl : x = m := by omega
     gi_wp2
     go_end0
     exact ⟨⟨_, rfl⟩, .inl ⟨_, by unfold redL; rw [HTL.out], hJx0⟩⟩
theorem redexes_stops (n : Nat) (hn : 1 ≤ n) (B2 B3 n₀ : Nat) (a v u : Value) (d : Dat sSystem) (t : List Int) (w : World) (hn₀ : n₀ ≤ w.heap.size) (hB2 : B2 < n₀) (hB3 : B3 < n₀) (r2 : Row w B2 60 #[a, v]) (r3 : Row w B3 24 #[u])
   (h : Rd w n₀ sSystem [a, v] d) (ht : Rd w n₀ sI [u] t) (hz : sz sSystem d ≤ 1048576) (hok : rightB d.1 d.2 t = true) :
   SeqStopsK Fence.wide n Tryz.prog 99 #[.pointer (some ⟨B3, 0, none⟩), .pointer (some ⟨B2, 0, none⟩)] (fun x : Nat × Nat => #[Value.int .i64 (x.1 : Int), .int .i64 (x.2 : Int)]) (Below n₀) (fun ys => ys = redL d.1 d.2 t) (fun pre => pre ≠ [] ∧ pre <+: redL d.1 d.2 t) (redL d.1 d.2 t).length w := fun l J Jx W hW hJ hJx hY h0 =>
 redexes_stopsK n hn B2 B3 n₀ a v u d t w hn₀ r2 r3 h ht hz hok l J Jx W hW hJ hJx (fun pre x W1 hj hp => (hY pre x W1 hj (by have := hp.length_le; rw [List.length_append, List.length_singleton] at this; omega)).mono fun e W' hh => hh.imp (fun ⟨h1, h2, h3⟩ => ⟨h1, h2, h3, h3.block _ hB2, h3.block _ hB3⟩) id) h0
end iter
end
section
namespace rangeGive
open Go.RowKit base segs shape
theorem below_turn {l : Nat} {V W : World} {o : Obj} (h : Below V.heap.size V W) (hl : l < V.heap.size) : Below (V.putObj l o).heap.size (V.putObj l o) (W.putObj l o) := by
 have hs := h.size
 refine ⟨h.os, h.tape, h.output, by simpa using hs, fun k hk => ?_⟩
 rw [World.putObj_size] at hk
 by_cases e : k = l
 · subst e
   rw [World.putObj_heap_same hl, World.putObj_heap_same (by omega)]
 · rw [World.putObj_heap_other e, World.putObj_heap_other e]
   exact h.block k hk
end rangeGive
end
section
namespace iter
open Go.RowKit base rangeGive
theorem rangePre {α : Type} {n : Nat} {P : Program} {g : Operand} {ps : Array Tmp} {assign body : Code} {Q : Exit → Act → World → Prop} {a : Act} {w w0 : World} {gf : Nat} {lb : Array Value} (hg : a.eval g = .func (.func gf) #[] lb)
   (eg : ∀ args w, (callFunc gf args).run P w = .ok (.enter gf args) w) {encs : α → Array Value} {Kp : World → World → Prop} {xs : List α} (hseq : SeqPre (n - 1) P gf lb encs Kp xs w0) (hb0 : Below w0.heap.size w0 w) (hps : ∀ x, (encs x).size = ps.size)
   (hKt : ∀ {A B C : World}, Kp A B → Kp B C → Kp A C) (hKb : ∀ (W : World) (o o' : Obj), W.heap[w.heap.size + 1]? = some o → Kp W (W.putObj (w.heap.size + 1) o'))
   (I : List α → World → Prop) (hI : OwnFrom w.heap.size I) (h0 : I [] w) (a₁ : α → Act)
   (hassign : ∀ (l : Nat) (x : α) (W : World) (K : Act → World → Prop), K (a₁ x) W → assign.wpIn (Fence.wide.inRound l) (n - 1 - 1) P (Exit.then K (fun _ _ _ => False)) { tmps := (ps.zip (encs x)).foldl (fun t (p, v) => t.setIfInBounds p v) a.tmps, defers := [] } W)
   (hbody : ∀ (l : Nat) (pre : List α) (x : α) (W : World), I pre W → w.heap.size + 2 ≤ W.heap.size → pre ++ [x] <+: xs → body.wpIn (Fence.wide.inRound l) (n - 1 - 1) P (fun e _ W' => e = .normal ∧ KeepsFrom w.heap.size W W' ∧ Kp W W' ∧ I (pre ++ [x]) W') (a₁ x) W)
   (hdone : ∀ (D : Nat) (W : World), w.heap.size ≤ D → I xs W → W.heap[D]? = some (.deferred (some [])) → Q .normal { a with defers := { target := .collected D, args := #[] } :: a.defers } W) :
   (Code.rangeFunc g ps assign body).wpIn Fence.wide n P Q a w := by
 refine wpIn_rangeFunc ?_
 intro fn hfn
 obtain ⟨rec, hrec⟩ : ∃ rec : LoopState → Option Code → Loop, rec = fun st pe => { state := st, pending := pe, fn, tmps := a.tmps, params := ps, assign, body, defers := w.heap.size } := ⟨_, rfl⟩
 obtain ⟨W1, hW1⟩ : ∃ W1, (w.alloc (.deferred (some []))).alloc (.loop (rec .ready none)) = W1 := ⟨_, rfl⟩
 have hsz : W1.heap.size = w.heap.size + 2 := by rw [← hW1]; simp
 have rl : W1.heap[w.heap.size + 1]? = some (.loop (rec .ready none)) := by
   rw [← hW1]
   have := heap_alloc_new (w.alloc (.deferred (some []))) (.loop (rec .ready none))
   rwa [World.size_alloc] at this
 have rd : W1.heap[w.heap.size]? = some (.deferred (some [])) := by
   rw [← hW1]
   exact (Below.heap_alloc _ _ _ (by simp)).trans (heap_alloc_new w _)
 refine ⟨w.heap.size + 1, [{ target := .collected w.heap.size, args := #[] }], W1, { target := .fn (.func gf) lb, args := #[.func (.yield (w.heap.size + 1)) #[] #[]] }, W1, gf, #[.func (.yield (w.heap.size + 1)) #[] #[]] ++ lb, W1, ?_, ?_, fun _ _ => trivial, ?_, (fun h => by cases h), ?_⟩
 · rw [← hW1, hrec]; exact run_enterLoop_outer _ _ _ _ _
 · simp only [resolve, hg]
   simp [go_sem]
 · simp [invoke, go_sem, eg]
 have key := hseq (w.heap.size + 1) (fun pre W => (I pre W ∧ W.heap[w.heap.size + 1]? = some (.loop (rec .ready none))) ∧ W.heap[w.heap.size]? = some (.deferred (some []))) (fun _ _ => False) W1
   (hb0.trans ((by rw [← hW1]; exact (((Below.refl _ w).alloc (Nat.le_refl _) _).alloc (by simp) _ : Below w.heap.size w _) : Below w.heap.size w W1).mono hb0.size))
   (fun s A B row hs hg' hr => ⟨⟨hI s A B row hs.1.1 hg' (fun r e => by obtain ⟨h1, o, ho, hw⟩ := hr r e; exact ⟨by omega, o, ho, Obj.not_cells_of_walk hw⟩), (hg'.block _ (Array.getElem?_eq_some_iff.1 hs.1.2).1 (fun e => by have := (hr _ e.symm).1; omega)).trans hs.1.2⟩, (hg'.block _ (Array.getElem?_eq_some_iff.1 hs.2).1 (fun e => by have := (hr _ e.symm).1; omega)).trans hs.2⟩)
   (fun _ _ _ _ hs _ _ => hs.elim)
   ?_ ⟨⟨by rw [← hW1]; exact hI.alloc _ (hI.alloc _ h0), rl⟩, rd⟩
 · refine key.mono ?_
   rintro e W2 ⟨⟨v, rfl⟩, (⟨ys, rfl, ⟨hi, hl⟩, hd⟩ | ⟨_, _, hF⟩)⟩
   · refine ⟨none, _, by have := run_endLoop (P := P) hl (by rw [hrec]; simp); rw [hrec] at this; exact this, hdone _ _ (Nat.le_refl _) (hI.putObj _ hi (by omega) hl rfl) ((World.putObj_heap_other (by omega)).trans hd)⟩
   · exact hF.elim
 · rintro pre x W ⟨⟨hi, hl⟩, hd⟩ hpre
   have hy := run_yield (P := P) (args := encs x) hl (by rw [hrec]; exact hps x)
   rw [hrec] at hy
   refine ⟨fn, _, assign, body, hy, roundIn_of_wpIn hfn (hassign _ x W _ ?_)⟩
   have hlt := (Array.getElem?_eq_some_iff.1 hl).1
   refine ⟨_, run_beginRound hl (by rw [hrec]), ?_⟩
   obtain ⟨o2, ho2⟩ : ∃ o2, o2 = Obj.loop { rec .ready none with state := .busy } := ⟨_, rfl⟩
   rw [← ho2]
   have hl2 : (W.putObj (w.heap.size + 1) o2).heap[w.heap.size + 1]? = some o2 := World.putObj_heap_same hlt
   have hd2 : (W.putObj (w.heap.size + 1) o2).heap[w.heap.size]? = some (.deferred (some [])) := (World.putObj_heap_other (by omega)).trans hd
   refine wpIn_mono (hbody _ pre x _ (hI.putObj _ hi (by omega) hl rfl) (by rw [World.putObj_size]; omega) hpre) ?_
   rintro e a3 W3 ⟨rfl, hk3, hkp3, hi3⟩
   have hl3 := hk3.same _ _ (by omega) hl2 (by rw [ho2]; rfl)
   have hd3 := hk3.same _ _ (Nat.le_refl _) hd2 rfl
   rw [ho2] at hl3
   have hr := run_endRound (P := P) none hl3
   refine ⟨_, _, hr, .inl ⟨rfl, ⟨⟨hI.putObj _ hi3 (by omega) hl3 rfl, ?_⟩, (World.putObj_heap_other (by omega)).trans hd3⟩, hKt (hKt (hKb _ _ _ hl) hkp3) (hKb _ _ _ hl3)⟩⟩
   rw [World.putObj_heap_same (Array.getElem?_eq_some_iff.1 hl3).1, hrec]
   rfl
end iter
end
section
namespace iter
open Go.RowKit base segs shape rangeGive
theorem rangePreX {α : Type} {n : Nat} {P : Program} {g : Operand} {ps : Array Tmp} {assign body : Code} {Q : Exit → Act → World → Prop} {a : Act} {w w0 : World} {gf : Nat} {lb : Array Value} (hg : a.eval g = .func (.func gf) #[] lb)
   (eg : ∀ args w, (callFunc gf args).run P w = .ok (.enter gf args) w) {encs : α → Array Value} {Kp : World → World → Prop} {xs : List α} (hseq : SeqPre (n - 1) P gf lb encs Kp xs w0) (hb0 : Below w0.heap.size w0 w) (hps : ∀ x, (encs x).size = ps.size)
   (hKt : ∀ {A B C : World}, Kp A B → Kp B C → Kp A C) (hKb : ∀ (W : World) (o o' : Obj), W.heap[w.heap.size + 1]? = some o → Kp W (W.putObj (w.heap.size + 1) o'))
   (I Ix : List α → World → Prop) (hI : OwnFrom w.heap.size I) (hIx : OwnFrom w.heap.size Ix) (h0 : I [] w) (a₁ : α → Act)
   (hassign : ∀ (l : Nat) (x : α) (W : World) (K : Act → World → Prop), K (a₁ x) W → assign.wpIn (Fence.wide.inRound l) (n - 1 - 1) P (Exit.then K (fun _ _ _ => False)) { tmps := (ps.zip (encs x)).foldl (fun t (p, v) => t.setIfInBounds p v) a.tmps, defers := [] } W)
   (hbody : ∀ (l : Nat) (pre : List α) (x : α) (W : World), I pre W → w.heap.size + 2 ≤ W.heap.size → pre ++ [x] <+: xs → body.wpIn (Fence.wide.inRound l) (n - 1 - 1) P (fun e _ W' => (e = .normal ∧ KeepsFrom w.heap.size W W' ∧ Kp W W' ∧ I (pre ++ [x]) W') ∨ (e = .ret ∧ KeepsFrom w.heap.size W W' ∧ Ix (pre ++ [x]) W')) (a₁ x) W)
   (hdone : ∀ (D : Nat) (W : World), w.heap.size ≤ D → I xs W → W.heap[D]? = some (.deferred (some [])) → Q .normal { a with defers := { target := .collected D, args := #[] } :: a.defers } W)
   (hstop : ∀ (D : Nat) (pre : List α) (W : World), w.heap.size ≤ D → pre ≠ [] → pre <+: xs → Ix pre W → W.heap[D]? = some (.deferred (some [])) → Code.ret.wpIn Fence.wide n P Q { a with defers := { target := .collected D, args := #[] } :: a.defers } W) :
   (Code.rangeFunc g ps assign body).wpIn Fence.wide n P Q a w := by
 refine wpIn_rangeFunc ?_
 intro fn hfn
 obtain ⟨rec, hrec⟩ : ∃ rec : LoopState → Option Code → Loop, rec = fun st pe => { state := st, pending := pe, fn, tmps := a.tmps, params := ps, assign, body, defers := w.heap.size } := ⟨_, rfl⟩
 obtain ⟨W1, hW1⟩ : ∃ W1, (w.alloc (.deferred (some []))).alloc (.loop (rec .ready none)) = W1 := ⟨_, rfl⟩
 have hsz : W1.heap.size = w.heap.size + 2 := by rw [← hW1]; simp
 have rl : W1.heap[w.heap.size + 1]? = some (.loop (rec .ready none)) := by
   rw [← hW1]
   have := heap_alloc_new (w.alloc (.deferred (some []))) (.loop (rec .ready none))
   rwa [World.size_alloc] at this
 have rd : W1.heap[w.heap.size]? = some (.deferred (some [])) := by
   rw [← hW1]
   exact (Below.heap_alloc _ _ _ (by simp)).trans (heap_alloc_new w _)
 refine ⟨w.heap.size + 1, [{ target := .collected w.heap.size, args := #[] }], W1, { target := .fn (.func gf) lb, args := #[.func (.yield (w.heap.size + 1)) #[] #[]] }, W1, gf, #[.func (.yield (w.heap.size + 1)) #[] #[]] ++ lb, W1, ?_, ?_, fun _ _ => trivial, ?_, (fun h => by cases h), ?_⟩
 · rw [← hW1, hrec]; exact run_enterLoop_outer _ _ _ _ _
 · simp only [resolve, hg]
   simp [go_sem]
 · simp [invoke, go_sem, eg]
 have key := hseq (w.heap.size + 1) (fun pre W => (I pre W ∧ W.heap[w.heap.size + 1]? = some (.loop (rec .ready none))) ∧ W.heap[w.heap.size]? = some (.deferred (some []))) (fun pre W => (Ix pre W ∧ W.heap[w.heap.size + 1]? = some (.loop (rec .done (some .ret)))) ∧ W.heap[w.heap.size]? = some (.deferred (some []))) W1
   (hb0.trans ((by rw [← hW1]; exact (((Below.refl _ w).alloc (Nat.le_refl _) _).alloc (by simp) _ : Below w.heap.size w _) : Below w.heap.size w W1).mono hb0.size))
   (fun s A B row hs hg' hr => ⟨⟨hI s A B row hs.1.1 hg' (fun r e => by obtain ⟨h1, o, ho, hw⟩ := hr r e; exact ⟨by omega, o, ho, Obj.not_cells_of_walk hw⟩), (hg'.block _ (Array.getElem?_eq_some_iff.1 hs.1.2).1 (fun e => by have := (hr _ e.symm).1; omega)).trans hs.1.2⟩, (hg'.block _ (Array.getElem?_eq_some_iff.1 hs.2).1 (fun e => by have := (hr _ e.symm).1; omega)).trans hs.2⟩)
   (fun s A B row hs hg' hr => ⟨⟨hIx s A B row hs.1.1 hg' (fun r e => by obtain ⟨h1, o, ho, hw⟩ := hr r e; exact ⟨by omega, o, ho, Obj.not_cells_of_walk hw⟩), (hg'.block _ (Array.getElem?_eq_some_iff.1 hs.1.2).1 (fun e => by have := (hr _ e.symm).1; omega)).trans hs.1.2⟩, (hg'.block _ (Array.getElem?_eq_some_iff.1 hs.2).1 (fun e => by have := (hr _ e.symm).1; omega)).trans hs.2⟩)
   ?_ ⟨⟨by rw [← hW1]; exact hI.alloc _ (hI.alloc _ h0), rl⟩, rd⟩
 · refine key.mono ?_
   rintro e W2 ⟨⟨v, rfl⟩, (⟨ys, rfl, ⟨hi, hl⟩, hd⟩ | ⟨pre, ⟨hne, hpre⟩, ⟨hi, hl⟩, hd⟩)⟩
   · refine ⟨none, _, by have := run_endLoop (P := P) hl (by rw [hrec]; simp); rw [hrec] at this; exact this, hdone _ _ (Nat.le_refl _) (hI.putObj _ hi (by omega) hl rfl) ((World.putObj_heap_other (by omega)).trans hd)⟩
   · refine ⟨some .ret, _, by have := run_endLoop (P := P) hl (by rw [hrec]; simp); rw [hrec] at this; exact this, hstop _ pre _ (Nat.le_refl _) hne hpre (hIx.putObj _ hi (by omega) hl rfl) ((World.putObj_heap_other (by omega)).trans hd)⟩
 · rintro pre x W ⟨⟨hi, hl⟩, hd⟩ hpre
   have hy := run_yield (P := P) (args := encs x) hl (by rw [hrec]; exact hps x)
   rw [hrec] at hy
   refine ⟨fn, _, assign, body, hy, roundIn_of_wpIn hfn (hassign _ x W _ ?_)⟩
   have hlt := (Array.getElem?_eq_some_iff.1 hl).1
   refine ⟨_, run_beginRound hl (by rw [hrec]), ?_⟩
   obtain ⟨o2, ho2⟩ : ∃ o2, o2 = Obj.loop { rec .ready none with state := .busy } := ⟨_, rfl⟩
   rw [← ho2]
   have hl2 : (W.putObj (w.heap.size + 1) o2).heap[w.heap.size + 1]? = some o2 := World.putObj_heap_same hlt
   have hd2 : (W.putObj (w.heap.size + 1) o2).heap[w.heap.size]? = some (.deferred (some [])) := (World.putObj_heap_other (by omega)).trans hd
   refine wpIn_mono (hbody _ pre x _ (hI.putObj _ hi (by omega) hl rfl) (by rw [World.putObj_size]; omega) hpre) ?_
   rintro e a3 W3 (⟨rfl, hk3, hkp3, hi3⟩ | ⟨rfl, hk3, hi3⟩)
   · have hl3 := hk3.same _ _ (by omega) hl2 (by rw [ho2]; rfl)
     have hd3 := hk3.same _ _ (Nat.le_refl _) hd2 rfl
     rw [ho2] at hl3
     have hr := run_endRound (P := P) none hl3
     refine ⟨_, _, hr, .inl ⟨rfl, ⟨⟨hI.putObj _ hi3 (by omega) hl3 rfl, ?_⟩, (World.putObj_heap_other (by omega)).trans hd3⟩, hKt (hKt (hKb _ _ _ hl) hkp3) (hKb _ _ _ hl3)⟩⟩
     rw [World.putObj_heap_same (Array.getElem?_eq_some_iff.1 hl3).1, hrec]
     rfl
   · have hl3 := hk3.same _ _ (by omega) hl2 (by rw [ho2]; rfl)
     have hd3 := hk3.same _ _ (Nat.le_refl _) hd2 rfl
     rw [ho2] at hl3
     have hr := run_endRound (P := P) (some .ret) hl3
     refine ⟨_, _, hr, .inr ⟨rfl, ⟨hIx.putObj _ hi3 (by omega) hl3 rfl, ?_⟩, (World.putObj_heap_other (by omega)).trans hd3⟩⟩
     rw [World.putObj_heap_same (Array.getElem?_eq_some_iff.1 hl3).1, hrec]
     rfl
end iter
end
section
namespace iter
open Go.RowKit base
def mark (D : Nat) : Deferred := { target := .collected D, args := #[] }
def turnAll : List Nat → World → World
 | [], w => w
 | D :: Ds, w => turnAll Ds (w.putObj D (.deferred none))
theorem leaves_marks {F : Fence} {n : Nat} {P : Program} {fn : Func} {tmps : Array Value} {R : Ending → World → Prop} : ∀ (Ds : List Nat) (w : World), Ds.Nodup → (∀ D ∈ Ds, w.heap[D]? = some (.deferred (some []))) → LeavesIn F n P fn tmps R [] .returning (turnAll Ds w) → LeavesInM F n P fn tmps R (Ds.map mark) .returning w
 | [], w, _, _, h => h
 | D :: Ds, w, hn, hd, h => by
   refine ⟨by simp, .inl ⟨D, _, rfl, run_takeDeferred (hd D (List.mem_cons_self ..)), ?_⟩⟩
   refine leaves_marks Ds _ (List.nodup_cons.1 hn).2 (fun D' hD' => ?_) h
   rw [World.putObj_heap_other (fun e => (List.nodup_cons.1 hn).1 (by rw [← e]; exact hD'))]
   exact hd D' (List.mem_cons_of_mem _ hD')
theorem turn_keeps {I : Unit → World → Prop} {B : Nat} (hI : OwnFrom B I) : ∀ (Ds : List Nat) (w : World), Ds.Nodup → (∀ D ∈ Ds, B ≤ D ∧ w.heap[D]? = some (.deferred (some []))) → I () w → I () (turnAll Ds w)
 | [], w, _, _, h => h
 | D :: Ds, w, hn, hd, h => by
   have h0 := hd D (List.mem_cons_self ..)
   refine turn_keeps hI Ds _ (List.nodup_cons.1 hn).2 (fun D' hD' => ?_) (hI.putObj _ h h0.1 h0.2 rfl)
   have h1 := hd D' (List.mem_cons_of_mem _ hD')
   refine ⟨h1.1, ?_⟩
   rw [World.putObj_heap_other (fun e => (List.nodup_cons.1 hn).1 (by rw [← e]; exact hD'))]
   exact h1.2
end iter
end
section
namespace iter
open Go.RowKit base ints sig term termOk endAt inside marks app sym sub segs segsHelp kinds termFacts matchMath whole takeMath take extended varsOf shape kindsR ruleMath ruleSpec ruleImpl stepMath walkMath stepSpec Go.Shelf stepImpl
set_option maxRecDepth 100000
attribute [local go_sem] Oper.semAt_some
theorem redexesFn (a v : Value) (T : Option Addr) (m c : Nat) (w : World) : Calls Tryz.prog 70 #[.agg #[a, v], .slice T m c] w fun e w' => e = .returned (.func (.func 99) #[] #[.pointer (some ⟨w.heap.size + 1, 0, none⟩), .pointer (some ⟨w.heap.size, 0, none⟩)]) ∧ w' = (w.alloc (.cells #[a, v] 60)).alloc (.cells #[.slice T m c] 24) := by
 have hmf : ∀ (fn : Fn) (first cap : Array Value) (w : World), (Instr.makeFunc fn first cap).run Tryz.prog w = .ok (.func fn first cap) w := fun _ _ _ _ => rfl
 go_enter Tryz.func70, Tryz.ntmps70
 go_wp2
 go_ret
 exact ⟨rfl, rfl⟩
set_option maxHeartbeats 4000000 in
theorem implNormalIn (a v u : Value) (d : Dat sSystem) (t : List Int) (w : World) (h : Rd w w.heap.size sSystem [a, v] d) (ht : Rd w w.heap.size sI [u] t) (hz : sz sSystem d ≤ 1048576) (hz' : sz sI t ≤ 1048576) :
   Calls Tryz.prog 45 #[.agg #[a, v], u] w (AnsB w (normalB d.1 d.2 t)) := by
 refine (callsIn_wide (n := 5)).1 ?_
 have h0 := h
 have ht0 := ht
 obtain ⟨T, m, c, rfl, hT, hcT⟩ := rd_ints.1 ht
 have hm := len_ints hT.1 hz'
 obtain ⟨A, n, cs, V, q, cv, rfl, rfl, hs, hc, hcv, hq, hn, hq1, hrs, hsg, hE⟩ := rd_sys h hz
 obtain ⟨W, hW, rA, rB, bel⟩ := box2 w 29 4 #[.slice A n cs, .slice V q cv] #[.bool false]
 have HW := Lib.hid hW
 have LS := Lib.hid (systemOf _ _ d W (h0.next bel) hz)
 have LT := Lib.hid (fun (w1 : World) (bb : Below w.heap.size w w1) => implTermOk A T n cs m c d.1 t w1 (hs.next bb) (hT.next bb) hn hm)
 have HH := Lib.hid (show Rd w w.heap.size sSystem [.slice A n cs, .slice V q cv] d ∧ Rd w w.heap.size sI [.slice T m c] t from ⟨h0, ht0⟩)
 clear hW h h0 ht ht0 hT hcT hs hc hcv hq hrs hsg hE
 cases ok : sysOkB d.1 d.2 with
 | false =>
   have HS := Lib.hid ok
   rw [ok] at LS
   have LS := Lib.hid (show Calls Tryz.prog 35 #[.agg #[.slice A n cs, .slice V q cv]] W (fun e w' => e = .returned (.tuple #[.agg #[.slice none 0 0, .slice none 0 0], .bool false]) ∧ Below W.heap.size W w') from LS.out)
   clear ok
   refine callsIn_of_wp_marks Tryz.func45 rfl trivial ?_ rfl
   simp only [Tryz.ntmps45, List.size_toArray, List.length_cons, List.length_nil, Nat.reduceAdd, Nat.reduceSub, Array.replicate_succ, Array.replicate_zero, List.push_toArray, List.append_toArray, List.nil_append, List.cons_append]
   gi_wp2_with (refine ⟨trivial, ?_⟩; gi_at_call 35; rw [← HW.out]; refine (callsIn_wide.2 LS.out).mono ?_; rintro e w1 ⟨rfl, bb⟩; refine (?_ : Hid _).out)
   have b1 := next_trans bel bb
   have rB1 := rB.next bb
   clear rA bb bel rB LS
   have b2 : Below w.heap.size w (w1.alloc (.cells #[.slice none 0 0, .slice none 0 0] 60)) := b1.alloc b1.size _
   have y1 : (w1.alloc (.cells #[.slice none 0 0, .slice none 0 0] 60)).cell? ⟨w.heap.size + 1, 0, none⟩ = some (.bool false) := (rB1.alloc _).cell 0
   have g1 := (rB1.alloc (.cells #[.slice none 0 0, .slice none 0 0] 60)).free 0
   have rb := (rB1.alloc (.cells #[.slice none 0 0, .slice none 0 0] 60)).put 0 (.bool false)
   have u0 : ((w1.alloc (.cells #[.slice none 0 0, .slice none 0 0] 60)).setCell ⟨w.heap.size + 1, 0, none⟩ (.bool false)).cell? ⟨w.heap.size + 1, 0, none⟩ = some (.bool false) := rb.cell 0
   have F := Lib.hid (show AnsB w (normalB d.1 d.2 t) (.returned (.bool false)) ((w1.alloc (.cells #[.slice none 0 0, .slice none 0 0] 60)).setCell ⟨w.heap.size + 1, 0, none⟩ (.bool false)) from ansB (by unfold normalB rightB; rw [HS.out]; rfl) (b2.setCell (show w.heap.size ≤ w.heap.size + 1 by omega) _))
   clear b1 b2 rb rB1
   refine Lib.hid ?_
   gi_wp2
   refine ⟨trivial, ?_⟩
   gi_wp2
   exact ⟨.bool false, by simp [results, Tryz.results45, go_sem, u0], F.out⟩
 | true =>
   have HS := Lib.hid ok
   rw [ok] at LS
   have LS := Lib.hid (show Calls Tryz.prog 35 #[.agg #[.slice A n cs, .slice V q cv]] W (fun e w' => e = .returned (.tuple #[.agg #[.slice A n cs, .slice V q cv], .bool true]) ∧ Below W.heap.size W w') from LS.out)
   clear ok
   refine callsIn_of_wp_marks Tryz.func45 rfl trivial ?_ rfl
   simp only [Tryz.ntmps45, List.size_toArray, List.length_cons, List.length_nil, Nat.reduceAdd, Nat.reduceSub, Array.replicate_succ, Array.replicate_zero, List.push_toArray, List.append_toArray, List.nil_append, List.cons_append]
   gi_wp2_with (refine ⟨trivial, ?_⟩; gi_at_call 35; rw [← HW.out]; refine (callsIn_wide.2 LS.out).mono ?_; rintro e w1 ⟨rfl, bb⟩; refine (?_ : Hid _).out)
   have b1 := next_trans bel bb
   have rB1 := rB.next bb
   clear rA bb bel rB LS
   have b2 : Below w.heap.size w (w1.alloc (.cells #[.slice A n cs, .slice V q cv] 60)) := b1.alloc b1.size _
   have rB2 := rB1.alloc (.cells #[.slice A n cs, .slice V q cv] 60)
   have rS2 := Row.new w1 60 #[.slice A n cs, .slice V q cv]
   have LT1 := Lib.hid (LT.out _ b2)
   cases okt : termOkB d.1 t with
   | false =>
     have HT := Lib.hid okt
     have LT1 := Lib.hid (show Calls Tryz.prog 36 #[.agg #[.slice A n cs], .slice T m c] (w1.alloc (.cells #[.slice A n cs, .slice V q cv] 60)) (fun e w' => e = .returned (.bool false) ∧ Below (w1.alloc (.cells #[.slice A n cs, .slice V q cv] 60)).heap.size (w1.alloc (.cells #[.slice A n cs, .slice V q cv] 60)) w') from by have := LT1.out; unfold AnsTerm at this; rw [okt] at this; exact this)
     clear okt b1 rB1
     refine Lib.hid ?_
     gi_wp2
     refine ⟨trivial, ?_⟩
     refine (callsIn_wide.2 LT1.out).mono ?_
     rintro e w2 ⟨rfl, bb⟩
     have b3 := next_trans b2 bb
     have rB3 := rB2.next bb
     have y1 : w2.cell? ⟨w.heap.size + 1, 0, none⟩ = some (.bool false) := rB3.cell 0
     have g1 := rB3.free 0
     have u0 : (w2.setCell ⟨w.heap.size + 1, 0, none⟩ (.bool false)).cell? ⟨w.heap.size + 1, 0, none⟩ = some (.bool false) := (rB3.put 0 (.bool false)).cell 0
     have F := Lib.hid (show AnsB w (normalB d.1 d.2 t) (.returned (.bool false)) (w2.setCell ⟨w.heap.size + 1, 0, none⟩ (.bool false)) from ansB (by unfold normalB rightB; rw [HT.out, Bool.and_false]; rfl) (b3.setCell (show w.heap.size ≤ w.heap.size + 1 by omega) _))
     clear b2 b3 rB2 rB3 bb rS2 LT1 LT
     gi_wp2
     exact ⟨.bool false, by simp [results, Tryz.results45, go_sem, u0], F.out⟩
   | true =>
     have HT := Lib.hid okt
     have LT1 := Lib.hid (show Calls Tryz.prog 36 #[.agg #[.slice A n cs], .slice T m c] (w1.alloc (.cells #[.slice A n cs, .slice V q cv] 60)) (fun e w' => e = .returned (.bool true) ∧ Below (w1.alloc (.cells #[.slice A n cs, .slice V q cv] 60)).heap.size (w1.alloc (.cells #[.slice A n cs, .slice V q cv] 60)) w') from by have := LT1.out; unfold AnsTerm at this; rw [okt] at this; exact this)
     clear okt b1 rB1
     refine Lib.hid ?_
     gi_wp2
     refine ⟨trivial, ?_⟩
     refine (callsIn_wide.2 LT1.out).mono ?_
     rintro e w2 ⟨rfl, bb⟩
     have b3 := next_trans b2 bb
     have rB3 := rB2.next bb
     have rS3 := rS2.next bb
     have k0 : w2.cell? ⟨w1.heap.size, 0, none⟩ = some (.slice A n cs) := rS3.cell 0
     have k1 : w2.cell? ⟨w1.heap.size, 1, none⟩ = some (.slice V q cv) := rS3.cell 1
     clear b2 rB2 bb rS2 LT1 LT
     gi_wp2_with (refine ⟨trivial, ?_⟩; gi_at_call 70; refine (callsIn_wide.2 (redexesFn (.slice A n cs) (.slice V q cv) T m c w2)).mono ?_; rintro e w3 ⟨rfl, hw3⟩; subst hw3)
     obtain ⟨W3, hW3, r4, r5, b34⟩ := box2 w2 60 24 #[.slice A n cs, .slice V q cv] #[.slice T m c]
     have b4 := next_trans b3 b34
     have rB4 := rB3.next b34
     have z3 : w2.heap.size + 1 < W3.heap.size := r5.lt
     have hR : rightB d.1 d.2 t = true := by unfold rightB; rw [HS.out, HT.out]; rfl
     rw [← hW3]
     have HSTOPS := redexes_stops 4 (by decide) w2.heap.size (w2.heap.size + 1) W3.heap.size (.slice A n cs) (.slice V q cv) (.slice T m c) d t W3 (Nat.le_refl _) (by omega) z3 r4 r5 (HH.out.1.next b4) (HH.out.2.next b4) hz hR
     clear hW3 r4 r5 b34 rB3 rS3 k0 k1 b3 HH
     refine wpIn_rangeFunc_ownF rfl (by decide) (gf := 99) (lb := #[.pointer (some ⟨w2.heap.size + 1, 0, none⟩), .pointer (some ⟨w2.heap.size, 0, none⟩)]) rfl trivial (enters_of Tryz.func99 (by kernel_rfl) rfl)
       HSTOPS belowK_t (belowK_b (Nat.le_refl _)) (Below.refl _ _) (fun _ => rfl)
       (fun pre W' => (pre = [] ∧ W'.cell? ⟨w.heap.size + 1, 0, none⟩ = some (.bool false) ∧ W'.frozen? ⟨w.heap.size + 1, 0, none⟩ = false) ∧ Below w.heap.size w W')
       (fun cc pre W' => (cc = .ret ∧ W'.cell? ⟨w.heap.size + 1, 0, none⟩ = some (.bool false)) ∧ Below w.heap.size w W')
       (OwnFrom.and (Own.from (fun s A B row hs hg hr => ⟨hs.1, cell_kept hs.2.1 hg hr, (frozen_kept hs.2.1 hg hr).trans hs.2.2⟩) _) (ownFrom_below (Nat.le_refl _) b4.size))
       (fun cc => OwnFrom.and (Own.from (fun s A B row hs hg hr => ⟨hs.1, cell_kept hs.2 hg hr⟩) _) (ownFrom_below (Nat.le_refl _) b4.size))
       ⟨⟨rfl, rB4.cell 0, rB4.free 0⟩, b4⟩
       (fun x => { tmps := #[.agg #[.slice A n cs, .slice V q cv], .slice T m c, .pointer (some ⟨w.heap.size, 0, none⟩), undef, .pointer (some ⟨w.heap.size + 1, 0, none⟩), .pointer (some ⟨w1.heap.size, 0, none⟩), .bool true, .tuple #[.agg #[.slice A n cs, .slice V q cv], .bool true], .agg #[.slice A n cs, .slice V q cv], .tuple #[.agg #[.slice A n cs, .slice V q cv], .bool true], .agg #[.slice A n cs, .slice V q cv], .bool true, .bool true, .bool false, .bool false, .pointer (some ⟨w1.heap.size, 0, none⟩), .agg #[.slice A n cs], .slice T m c, .bool true, .bool false, .bool false, .agg #[.slice A n cs, .slice V q cv], .slice T m c, .func (.func 99) #[] #[.pointer (some ⟨w2.heap.size + 1, 0, none⟩), .pointer (some ⟨w2.heap.size, 0, none⟩)], .int .i64 (x.1 : Int), .int .i64 (x.2 : Int)], defers := [] }) ?assign ?body ?done ?stop
     case assign =>
       intro l x W' K hK
       gi_wp2
       first | exact hK | simpa using hK
     case body =>
       rintro l pre x W' ⟨⟨hp, hc, hf⟩, hB⟩ _
       gi_wp2
       exact ⟨KeepsOthers.setCell _ _ _, ⟨rfl, World.cell?_setCell_same' _ _ _ (by rw [hc]; rfl)⟩, hB.setCell (p := ⟨w.heap.size + 1, 0, none⟩) (by simp) _⟩
     case done =>
       rintro D ys W' hD rfl ⟨⟨hp, hc, hf⟩, hB⟩ hK
       have hN : normalB d.1 d.2 t = true := by unfold normalB; rw [hR, red_nil.1 hp]; rfl
       have hDw : w.heap.size ≤ D := Nat.le_trans b4.size hD
       gi_wp2
       have hK' := (KeepsOthers.setCell W' ⟨w.heap.size + 1, 0, none⟩ (.bool true)).same D _ hK rfl
       refine ⟨by simp, .inl ⟨_, _, rfl, run_takeDeferred hK', ?_⟩⟩
       have hc5 := cell_kept (World.cell?_setCell_same' W' ⟨w.heap.size + 1, 0, none⟩ (.bool true) (by rw [hc]; rfl)) (grownBy_putObj' _ D (.deferred none)) (fun r e => by cases e; exact ⟨_, hK', rfl⟩)
       refine ⟨.bool true, ?_, ansB hN.symm ((hB.setCell (p := ⟨w.heap.size + 1, 0, none⟩) (by simp) _).trans (belowK_b (w := w) (Nat.le_refl _) _ D _ _ hDw hK' rfl rfl))⟩
       simp [results, Tryz.results45, go_sem, hc5]
     case stop =>
       rintro D cc pre W' hD ⟨hne, hpre⟩ ⟨⟨rfl, hc⟩, hB⟩ hK
       have hN : normalB d.1 d.2 t = false := by
         cases hb : normalB d.1 d.2 t with
         | false => rfl
         | true =>
           unfold normalB at hb
           rw [hR, Bool.true_and] at hb
           rw [red_nil.2 hb] at hpre
           exact absurd (List.prefix_nil.1 hpre) hne
       have hDw : w.heap.size ≤ D := Nat.le_trans b4.size hD
       gi_wp2
       refine ⟨by simp, .inl ⟨_, _, rfl, run_takeDeferred hK, ?_⟩⟩
       have hc5 := cell_kept hc (grownBy_putObj' _ D (.deferred none)) (fun r e => by cases e; exact ⟨_, hK, rfl⟩)
       refine ⟨.bool false, ?_, ansB hN.symm (hB.trans (belowK_b (w := w) (Nat.le_refl _) W' D _ _ hDw hK rfl rfl))⟩
       simp [results, Tryz.results45, go_sem, hc5]
end iter
end
section
namespace iter
open Go.RowKit Go.Shelf base ints sig term termOk endAt endOf marks app sym sub segs segsHelp shifted termFacts shape kindsR kindsW ruleMath ruleSpec stepMath walkMath stepSpec stepImpl rangeGive
set_option maxRecDepth 100000
attribute [local go_sem] Oper.semAt_some
def stepsOf (sg : List Int) (rs : List Rl) (t : List Int) (ps : List (Nat × Nat)) : List St := ps.filterMap fun p => (stepO sg (rs.getD p.2 ([], [])) t p.1).map fun v => ((p.1 : Int), (p.2 : Int), v)
section
variable {sg : List Int} {rs : List Rl} {t : List Int}
theorem stepsOf_no {ps : List (Nat × Nat)} {x k : Nat} (h : stepO sg (rs.getD k ([], [])) t x = none) : stepsOf sg rs t (ps ++ [(x, k)]) = stepsOf sg rs t ps := by unfold stepsOf; rw [List.filterMap_append]; simp only [List.filterMap_cons, List.filterMap_nil, h, Option.map_none, List.append_nil]
theorem stepsOf_yes {ps : List (Nat × Nat)} {x k : Nat} {v : List Int} (h : stepO sg (rs.getD k ([], [])) t x = some v) : stepsOf sg rs t (ps ++ [(x, k)]) = stepsOf sg rs t ps ++ [((x : Int), (k : Int), v)] := by unfold stepsOf; rw [List.filterMap_append]; simp only [List.filterMap_cons, List.filterMap_nil, h, Option.map_some]
theorem step_red {x : Rl} {a : Nat} {v : List Int} (h : stepO sg x t a = some v) : redB sg x t a = true := by
 unfold redB
 unfold stepO at h
 split at h
 · cases h
 · rename_i hm; rw [hm]; rfl
theorem row_steps (a : Nat) : ∀ k, stepsOf sg rs t (rowL sg rs t a k) = (List.range k).filterMap fun r => (stepO sg (rs.getD r ([], [])) t a).map fun v => ((a : Int), (r : Int), v)
 | 0 => rfl
 | k + 1 => by
   rw [List.range_succ, List.filterMap_append, ← row_steps a k]
   cases hb : redB sg (rs.getD k ([], [])) t a with
   | false =>
     have hn : stepO sg (rs.getD k ([], [])) t a = none := by
       cases hs : stepO sg (rs.getD k ([], [])) t a with
       | none => rfl
       | some v => rw [step_red hs] at hb; cases hb
     rw [row_no hb]
     simp only [List.filterMap_cons, List.filterMap_nil, hn, Option.map_none, List.append_nil]
   | true =>
     rw [row_yes hb]
     cases hs : stepO sg (rs.getD k ([], [])) t a with
     | none => rw [stepsOf_no hs]; simp only [List.filterMap_cons, List.filterMap_nil, hs, Option.map_none, List.append_nil]
     | some v => rw [stepsOf_yes hs]; simp only [List.filterMap_cons, List.filterMap_nil, hs, Option.map_some]
theorem stepsOf_all : stepsOf sg rs t (redL sg rs t) = stepsL sg rs t := by
 have key : ∀ x, stepsOf sg rs t (comeL sg rs t x) = (List.range x).flatMap fun a => (List.range rs.length).filterMap fun r => (stepO sg (rs.getD r ([], [])) t a).map fun v => ((a : Int), (r : Int), v) := by
   intro x
   induction x with
   | zero => rfl
   | succ x ih =>
     rw [come_succ, List.range_succ, List.flatMap_append]
     have e : stepsOf sg rs t (comeL sg rs t x ++ rowL sg rs t x rs.length) = stepsOf sg rs t (comeL sg rs t x) ++ stepsOf sg rs t (rowL sg rs t x rs.length) := by unfold stepsOf; rw [List.filterMap_append]
     rw [e, ih, row_steps]
     simp
 exact key t.length
theorem red_in {x k : Nat} {ps : List (Nat × Nat)} (h : ps ++ [(x, k)] <+: redL sg rs t) : x < t.length ∧ k < rs.length ∧ redB sg (rs.getD k ([], [])) t x = true := by
 have hm : (x, k) ∈ redL sg rs t := h.subset (by simp)
 unfold redL comeL rowL at hm
 obtain ⟨a, ha, hm⟩ := List.mem_flatMap.1 hm
 obtain ⟨r, hr, hm⟩ := List.mem_filterMap.1 hm
 split at hm
 · rename_i hb
   injection hm with hm
   injection hm with e1 e2
   subst e1 e2
   exact ⟨List.mem_range.1 ha, List.mem_range.1 hr, hb⟩
 · cases hm
theorem pre_steps {ps : List (Nat × Nat)} (h : ps <+: redL sg rs t) : stepsOf sg rs t ps <+: stepsL sg rs t := by rw [← stepsOf_all]; unfold stepsOf; exact h.filterMap _
end
theorem roundIn_any {k k' li l f : Nat} {P : Program} {tm : Array Value} {asg bd : Code} {w : World} {R : Ending → World → Prop} (h : RoundIn Fence.wide k P l f tm asg bd w R) : RoundIn (Fence.wide.inRound li) k' P l f tm asg bd w R := ⟨trivial, fun c cs _ => h.2 c cs (room_wide _)⟩
end iter
end
section
namespace iter
open Go.RowKit Go.Shelf base ints sig term termOk endAt endOf marks app sym sub segs segsHelp shifted termFacts shape kindsR kindsW ruleMath ruleSpec ruleImpl stepMath walkMath stepSpec stepImpl rangeGive ownL
set_option maxRecDepth 100000
attribute [local go_sem] Oper.semAt_some
theorem appLmIn {l k : Nat} {w : World} {ops : Array Oper} {rest : List Oper} {o : Oper} {a : Act} {Q : Exit → Act → World → Prop} (hgd : o.guard = none) (sx x : Operand) (T e : TypeId) (s : Sh) (z : Value) (bytes : Nat) (hT : Tryz.prog.underlying T = some (.slice e))
   (hI : (Tryz.prog.info? e).map (fun i => (i.zero, i.size, i.bytes)) = some (some z, nc s, bytes)) (hzc : z.cells.size = nc s) (hby : bytes ≤ 4096)
   (ho : o.op = .call { callee := .builtin .append, args := #[sx, x], argTypes := #[T, T] })
   (lo hi mid hi2 : Nat) (A : Option Addr) (n c g m c2 : Nat) (D E : List (Dat s)) (hs : a.eval sx = .slice A n c) (hown : OwnL w lo hi e s A n c D) (hxv : a.eval x = .slice (some ⟨g, 0, none⟩) m c2) (hx : OwnL w mid hi2 e s (some ⟨g, 0, none⟩) m c2 E) (hmid : hi ≤ mid) (hlm : lo ≤ mid) (hn : n ≤ 1048576) (hm : m ≤ 1048576) (hlo : lo ≤ w.heap.size) (hpos : 0 < m)
   (h : ∀ g' c' w', OwnL w' lo w'.heap.size e s (some ⟨g', 0, none⟩) (n + m) c' (D ++ E) → w.grownBy w' (blk A) → Below lo w w' → wpListIn (Fence.wide.inRound l) k Tryz.prog ops Q rest (a.put o.dst (.slice (some ⟨g', 0, none⟩) (n + m) c')) w') : wpListIn (Fence.wide.inRound l) k Tryz.prog ops Q (o :: rest) a w :=
 wpListIn_plain hgd fun _ hK => by
   refine ⟨fun _ _ => trivial, ?_⟩
   obtain ⟨A', c', w', hr, h2, h3, h4, h5, h6⟩ := run_appL o.type T e s z bytes hT hI hzc hby lo hi mid hi2 A n c g m c2 D E hown hx hmid hlm hn hm hlo
   obtain ⟨g', rfl⟩ := h6 (.inr hpos)
   rw [Oper.semAt_eq _ _ _ (by simp [ho])]
   unfold execOp
   simp only [ho, resolve, invoke, builtin, Sem.run_bind, Sem.run_pure, Result.andThen_ok, List.map_toArray, List.map_cons, List.map_nil, hs, hxv, hr]
   exact hK _ _ (h g' c' w' h2 h3 h5)
theorem Ow.cells {w : World} : ∀ {s : Sh} {cs : List Value} {d : Dat s} {F : List Nat}, Ow w s cs d F → ∀ k ∈ F, ∃ t c, Row w k t c
 | .num, _, _, _, h, k, hk => by obtain ⟨_, e⟩ := h; rw [e] at hk; cases hk
 | .bit, _, _, _, h, k, hk => by obtain ⟨_, e⟩ := h; rw [e] at hk; cases hk
 | .row e s, _, _, F, h, k, hk => by
   obtain ⟨A, n, c, e1, hl, h1⟩ := h
   rcases h1 with ⟨_, _, _, h1⟩ | ⟨g, cur, E, G, e2, hr, h2, h3, h4, h5, h6⟩
   · rw [h1] at hk; cases hk
   · rw [h5] at hk
     rcases List.mem_cons.1 hk with hk | hk
     · rw [hk]; exact ⟨_, _, hr⟩
     · obtain ⟨j, hj, hk⟩ := List.mem_flatMap.1 hk
       exact Ow.cells (h6 j (List.mem_range.1 hj)).2.2 k hk
 | .cat a b, _, _, _, h, k, hk => by
   obtain ⟨ca, cb, Fa, Fb, e, e2, h1, h2⟩ := h
   rw [e2] at hk
   rcases List.mem_append.1 hk with hk | hk
   · exact Ow.cells h1 k hk
   · exact Ow.cells h2 k hk
theorem row_turn {w w' : World} {row : Option Nat} (hg : w.grownBy w' row) (hr : ∀ r, row = some r → ∃ o : Obj, w.heap[r]? = some o ∧ o.isCells = false) {k : Nat} {t : TypeId} {cs : Array Value} (hrow : Row w k t cs) : w'.heap[k]? = w.heap[k]? :=
 hg.block k hrow.lt (fun e => by
   obtain ⟨o, ho, hc⟩ := hr k e.symm
   unfold Row at hrow
   rw [hrow] at ho
   injection ho with ho
   rw [← ho] at hc
   cases hc)
theorem ownL_turn {w w' : World} {lo hi n c : Nat} {e : TypeId} {s : Sh} {A : Option Addr} {D : List (Dat s)} {row : Option Nat} (h : OwnL w lo hi e s A n c D) (hg : w.grownBy w' row) (hr : ∀ r, row = some r → ∃ o : Obj, w.heap[r]? = some o ∧ o.isCells = false) : OwnL w' lo hi e s A n c D := by
 obtain ⟨q1, q2, vs, G, q3, q4, q5, q6⟩ := h
 refine ⟨q1, q2, vs, G, ⟨q3.1, ?_⟩, q4, q5, fun j hj => ⟨(q6 j hj).1.keep fun k hkG => by obtain ⟨t, cs, hrow⟩ := Ow.cells (q6 j hj).1 k hkG; exact row_turn hg hr hrow, (q6 j hj).2⟩⟩
 rcases q3.2 with q | ⟨g, cap, cur, e1, hg1, hrow, rest⟩
 · exact .inl q
 · exact .inr ⟨g, cap, cur, e1, hg1, (row_turn hg hr hrow).trans hrow, rest⟩
theorem ownL_cells {w : World} {lo hi n c k : Nat} {e : TypeId} {s : Sh} {A : Option Addr} {D : List (Dat s)} (h : OwnL w lo hi e s A n c D) (hk : blk A = some k) : ∃ cs, Row w k e cs := by
 obtain ⟨q1, q2, vs, G, q3, q4, q5, q6⟩ := h
 rcases q3.2 with ⟨e1, _⟩ | ⟨g, cap, cur, e1, hg1, hrow, rest⟩
 · injection e1 with e1
   subst e1
   cases hk
 · injection e1 with e1
   subst e1
   injection hk with hk
   have hk : g = k := hk
   subst hk
   exact ⟨_, hrow⟩
end iter
end
section
namespace iter
open Go.RowKit Go.Shelf base ints sig term termOk endAt endOf marks app sym sub segs segsHelp shifted termFacts shape kindsR kindsW ruleMath ruleSpec stepMath walkMath stepSpec stepImpl rangeGive
set_option maxRecDepth 100000
attribute [local go_sem] Oper.semAt_some
end iter
end
section
namespace iter
open Go.RowKit Go.Shelf base ints sig term termOk endAt endOf marks app sym sub segs segsHelp shifted termFacts shape kindsR kindsW ruleMath ruleSpec ruleImpl stepMath walkMath stepSpec stepImpl rangeGive ownL reachMath findW findSpec known
set_option maxRecDepth 100000
attribute [local go_sem] Oper.semAt_some
structure Tch (w : World) (O : Option Addr) (X Y : World) : Prop where
 os : Y.os = X.os
 tape : Y.tape = X.tape
 output : Y.output = X.output
 size : X.heap.size ≤ Y.heap.size
 block : ∀ k, k < X.heap.size → k ≠ w.heap.size + 1 + 1 + 1 → k ≠ w.heap.size + 1 + 1 + 1 + 1 → some k ≠ blk O → Y.heap[k]? = X.heap[k]?
section
variable {w X Y Z : World} {O : Option Addr}
theorem Tch.trans (h : Tch w O X Y) (k : Tch w O Y Z) : Tch w O X Z := ⟨k.os.trans h.os, k.tape.trans h.tape, k.output.trans h.output, Nat.le_trans h.size k.size, fun i h1 h2 h3 h4 => (k.block i (Nat.lt_of_lt_of_le h1 h.size) h2 h3 h4).trans (h.block i h1 h2 h3 h4)⟩
theorem Tch.of_below (h : Below X.heap.size X Y) : Tch w O X Y := ⟨h.os, h.tape, h.output, h.size, fun k hk _ _ _ => h.block k hk⟩
theorem Tch.of_grown {r : Option Nat} (h : X.grownBy Y r) (hr : ∀ k, r = some k → k = w.heap.size + 1 + 1 + 1 ∨ k = w.heap.size + 1 + 1 + 1 + 1 ∨ some k = blk O) : Tch w O X Y := ⟨h.os, h.tape, h.output, h.size, fun k hk h1 h2 h3 => h.block k hk (fun e => by rcases hr k e.symm with q | q | q; exact h1 q; exact h2 q; exact h3 q)⟩
theorem Tch.row {g : Nat} {t : TypeId} {cs : Array Value} (h : Tch w O X Y) (r : Row X g t cs) (h1 : g ≠ w.heap.size + 1 + 1 + 1) (h2 : g ≠ w.heap.size + 1 + 1 + 1 + 1) (h3 : some g ≠ blk O) : Row Y g t cs := (h.block g r.lt h1 h2 h3).trans r
theorem Tch.below (h : Tch w O X Y) {B : Nat} (hB : B ≤ w.heap.size + 1 + 1 + 1) (hO : ∀ k, blk O = some k → B ≤ k) (hX : B ≤ X.heap.size) : Below B X Y := ⟨h.os, h.tape, h.output, h.size, fun k hk => h.block k (by omega) (by omega) (by omega) (fun e => by have := hO k e.symm; omega)⟩
theorem Tch.keeps (h : Tch w O X Y) {B : Nat} (hB : w.heap.size + 1 + 1 + 1 + 1 < B) (hO : ∀ k, blk O = some k → ∃ o : Obj, X.heap[k]? = some o ∧ o.isCells = true) : KeepsFrom B X Y := ⟨h.size, fun k o hk ho hc => by
 have hkl := (Array.getElem?_eq_some_iff.1 ho).1
 rw [h.block k hkl (by omega) (by omega) (fun e => by
   obtain ⟨o', ho', hc'⟩ := hO k e.symm
   rw [ho] at ho'
   injection ho' with ho'
   rw [← ho', hc] at hc'
   cases hc')]
 exact ho⟩
end
def Dok (B : Nat) (Ds : List Nat) (W : World) : Prop := Ds.Nodup ∧ ∀ D ∈ Ds, B ≤ D ∧ W.heap[D]? = some (.deferred (some []))
theorem Dok.tch {w X Y : World} {O : Option Addr} {B : Nat} {Ds : List Nat} (h : Dok B Ds X) (ht : Tch w O X Y) (hB : w.heap.size + 1 + 1 + 1 + 1 < B) (hO : ∀ k, blk O = some k → ∃ o : Obj, X.heap[k]? = some o ∧ o.isCells = true) : Dok B Ds Y :=
 ⟨h.1, fun D hD => ⟨(h.2 D hD).1, (ht.keeps hB hO).same D _ (h.2 D hD).1 (h.2 D hD).2 rfl⟩⟩
theorem Dok.cons {B : Nat} {Ds : List Nat} {W0 W : World} {D : Nat} (h0 : Dok B Ds W0) (h : Dok B Ds W) (hD : W0.heap.size ≤ D) (hB : B ≤ W0.heap.size) (hd : W.heap[D]? = some (.deferred (some []))) : Dok B (D :: Ds) W :=
 ⟨List.nodup_cons.2 ⟨fun hm => by have := (Array.getElem?_eq_some_iff.1 (h0.2 D hm).2).1; omega, h.1⟩, fun D' hD' => by
   rcases List.mem_cons.1 hD' with e | hD'
   · subst e; exact ⟨by omega, hd⟩
   · exact h.2 D' hD'⟩
theorem ownFrom_dok {β : Type} {B B' : Nat} {Ds : List Nat} {W0 : World} (h0 : Dok B Ds W0) (hB : W0.heap.size ≤ B') : OwnFrom B' (fun (_ : β) W => Dok B Ds W) := fun s X Y row hs hg hr => ⟨hs.1, fun D hD => ⟨(hs.2 D hD).1, (hg.block D (Array.getElem?_eq_some_iff.1 (hs.2 D hD).2).1 (fun e => by
 have h1 := (hr D e.symm).1
 have h2 := (Array.getElem?_eq_some_iff.1 (h0.2 D hD).2).1
 omega)).trans (hs.2 D hD).2⟩⟩
structure Nx (w : World) (a v : Value) (L : List (List Int)) (O : Option Addr) (on oc : Nat) (W : World) : Prop where
 sys : Row W w.heap.size 60 #[a, v]
 r4 : Row W (w.heap.size + 1) 32 #[.slice none 0 0]
 r5 : Row W (w.heap.size + 1 + 1) 4 #[.bool false]
 r6 : Row W (w.heap.size + 1 + 1 + 1) 32 #[.slice O on oc]
 r7 : Row W (w.heap.size + 1 + 1 + 1 + 1 + 1) 65 #[.map (some (w.heap.size + 1 + 1 + 1 + 1))]
 kn : Kn W (w.heap.size + 1 + 1 + 1 + 1) L.length L
 ow : OwnL W (w.heap.size + 1 + 1 + 1 + 1 + 1 + 1) W.heap.size 24 sI O on oc L
 bel : Below w.heap.size w W
section
variable {w X Y : World} {a v : Value} {L : List (List Int)} {O : Option Addr} {on oc : Nat}
theorem Nx.below (h : Nx w a v L O on oc X) (hb : Below X.heap.size X Y) : Nx w a v L O on oc Y := ⟨h.sys.next hb, h.r4.next hb, h.r5.next hb, h.r6.next hb, h.r7.next hb, h.kn.below hb, (h.ow.next hb).wider (Nat.le_refl _) hb.size, next_trans h.bel hb⟩
theorem Nx.sz (h : Nx w a v L O on oc X) : w.heap.size + 1 + 1 + 1 + 1 + 1 < X.heap.size := h.r7.lt
theorem Nx.cells (h : Nx w a v L O on oc X) : ∀ k, blk O = some k → w.heap.size + 1 + 1 + 1 + 1 + 1 + 1 ≤ k ∧ k < X.heap.size ∧ ∃ o : Obj, X.heap[k]? = some o ∧ o.isCells = true := fun k hk => by
 obtain ⟨cs, hr⟩ := ownL_cells h.ow hk
 exact ⟨(h.ow.ge k hk).1, (h.ow.ge k hk).2, _, hr, rfl⟩
theorem nx_own (β : Type) (w : World) (a v : Value) (L : List (List Int)) (O : Option Addr) (on oc : Nat) {B : Nat} (hB : w.heap.size + 1 + 1 + 1 + 1 < B) : OwnFrom B (fun (_ : β) W => Nx w a v L O on oc W) := fun s X Y row hs hg hr => by
 have hr' : ∀ r, row = some r → ∃ o : Obj, X.heap[r]? = some o ∧ o.isCells = false := fun r e => (hr r e).2
 exact ⟨(row_turn hg hr' hs.sys).trans hs.sys, (row_turn hg hr' hs.r4).trans hs.r4, (row_turn hg hr' hs.r5).trans hs.r5, (row_turn hg hr' hs.r6).trans hs.r6, (row_turn hg hr' hs.r7).trans hs.r7, hs.kn.kept hg (fun e => by have := (hr _ e.symm).1; omega), (ownL_turn hs.ow hg hr').wider (Nat.le_refl _) hg.size, hs.bel.grown hg hs.bel.size (fun k e => by have := (hr k e).1; omega)⟩
end
theorem appLmIn2 {l k : Nat} {w : World} {ops : Array Oper} {rest : List Oper} {o : Oper} {a : Act} {Q : Exit → Act → World → Prop} (hgd : o.guard = none) (sx x : Operand) (T e : TypeId) (s : Sh) (z : Value) (bytes : Nat) (hT : Tryz.prog.underlying T = some (.slice e))
   (hI : (Tryz.prog.info? e).map (fun i => (i.zero, i.size, i.bytes)) = some (some z, nc s, bytes)) (hzc : z.cells.size = nc s) (hby : bytes ≤ 4096)
   (ho : o.op = .call { callee := .builtin .append, args := #[sx, x], argTypes := #[T, T] })
   (lo hi mid hi2 : Nat) (A : Option Addr) (n c g m c2 : Nat) (D E : List (Dat s)) (hs : a.eval sx = .slice A n c) (hown : OwnL w lo hi e s A n c D) (hxv : a.eval x = .slice (some ⟨g, 0, none⟩) m c2) (hx : OwnL w mid hi2 e s (some ⟨g, 0, none⟩) m c2 E) (hmid : hi ≤ mid) (hlm : lo ≤ mid) (hn : n ≤ 1048576) (hm : m ≤ 1048576) (hlo : lo ≤ w.heap.size) (hpos : 0 < m)
   (h : ∀ g' c' w', OwnL w' lo w'.heap.size e s (some ⟨g', 0, none⟩) (n + m) c' (D ++ E) → w.grownBy w' (blk A) → Below lo w w' → (blk A = some g' ∨ g' = w.heap.size) → wpListIn (Fence.wide.inRound l) k Tryz.prog ops Q rest (a.put o.dst (.slice (some ⟨g', 0, none⟩) (n + m) c')) w') : wpListIn (Fence.wide.inRound l) k Tryz.prog ops Q (o :: rest) a w :=
 wpListIn_plain hgd fun _ hK => by
   refine ⟨fun _ _ => trivial, ?_⟩
   obtain ⟨A', c', w', hr, h2, h3, h4, h5, h6⟩ := run_appL o.type T e s z bytes hT hI hzc hby lo hi mid hi2 A n c g m c2 D E hown hx hmid hlm hn hm hlo
   obtain ⟨g', rfl⟩ := h6 (.inr hpos)
   rw [Oper.semAt_eq _ _ _ (by simp [ho])]
   unfold execOp
   simp only [ho, resolve, invoke, builtin, Sem.run_bind, Sem.run_pure, Result.andThen_ok, List.map_toArray, List.map_cons, List.map_nil, hs, hxv, hr]
   exact hK _ _ (h g' c' w' h2 h3 h5 (h4.imp (fun e => e.symm) (fun e => by injection e)))
def Lq (sg : List Int) (rs : List Rl) (lv : List (List Int)) (i : Nat) (t : List Int) (pre : List (Nat × Nat)) : List (List Int) := ((stepsOf sg rs t pre).map fun s => s.2.2).foldl addT (nxN sg rs lv i)
section
variable {sg : List Int} {rs : List Rl} {lv : List (List Int)} {i : Nat} {t : List Int} {pre : List (Nat × Nat)} {x k : Nat} {y : List Int}
theorem lq_snoc (h : stepO sg (rs.getD k ([], [])) t x = some y) : Lq sg rs lv i t (pre ++ [(x, k)]) = addT (Lq sg rs lv i t pre) y := by unfold Lq; rw [stepsOf_yes h, List.map_append, List.foldl_append]; rfl
theorem lq_all (hi : i < lv.length) (ht : lv.getD i [] = t) : Lq sg rs lv i t (redL sg rs t) = nxN sg rs lv (i + 1) := by unfold Lq; rw [stepsOf_all, nx_succ hi, ht]; rfl
theorem lq_le (hi : i < lv.length) (ht : lv.getD i [] = t) (h : pre <+: redL sg rs t) : (Lq sg rs lv i t pre).length ≤ (nxN sg rs lv (i + 1)).length := by
 obtain ⟨q, hq⟩ := h
 rw [← lq_all hi ht, ← hq]
 unfold Lq
 have e : stepsOf sg rs t (pre ++ q) = stepsOf sg rs t pre ++ stepsOf sg rs t q := by unfold stepsOf; rw [List.filterMap_append]
 rw [e, List.map_append, List.foldl_append]
 exact foldT_le _ _
theorem addT_old {L : List (List Int)} (h : y ∈ L) : addT L y = L := if_pos h
theorem addT_new {L : List (List Int)} (h : y ∉ L) : addT L y = L ++ [y] := if_neg h
theorem in_red {a r : Nat} (ha : a < t.length) (hr : r < rs.length) (hb : redB sg (rs.getD r ([], [])) t a = true) : (a, r) ∈ redL sg rs t := by
 unfold redL comeL
 refine List.mem_flatMap.2 ⟨a, List.mem_range.2 ha, ?_⟩
 unfold rowL
 exact List.mem_filterMap.2 ⟨r, List.mem_range.2 hr, by rw [if_pos hb]⟩
theorem red_short (h : ∀ p ∈ redL sg rs t, stepO sg (rs.getD p.2 ([], [])) t p.1 ≠ none) : longB sg rs t = false := no_long fun a r ha hr hb => h (a, r) (in_red ha hr hb)
end
def NoAns (w : World) (o : Option (List (List Int))) (Ds : List Nat) (W : World) : Prop := o = none ∧ Row W (w.heap.size + 1) 32 #[.slice none 0 0] ∧ Row W (w.heap.size + 1 + 1) 4 #[.bool false] ∧ Below w.heap.size w W ∧ Dok (w.heap.size + 1 + 1 + 1 + 1 + 1 + 1) Ds W
def Ib (w : World) (a v : Value) (d : Dat sSystem) (lv : List (List Int)) (i : Nat) (t : List Int) (tb B2 B3 : Nat) (T : Value) (Ds : List Nat) (pre : List (Nat × Nat)) (X : World) : Prop :=
 ∃ (O : Option Addr) (on oc : Nat), Nx w a v (Lq d.1 d.2 lv i t pre) O on oc X ∧ Row X tb 24 #[T] ∧ Dok (w.heap.size + 1 + 1 + 1 + 1 + 1 + 1) Ds X ∧ ((Lq d.1 d.2 lv i t pre).length ≤ 60 ∧ (∀ p ∈ pre, stepO d.1 (d.2.getD p.2 ([], [])) t p.1 ≠ none)) ∧ blk O ≠ some B2 ∧ blk O ≠ some B3 ∧ blk O ≠ some tb
theorem below_mid {B : Nat} {w X Y : World} (h1 : Below B w Y) (h2 : Below B w X) (hs : Y.heap.size ≤ X.heap.size) : Below B Y X := ⟨h2.os.trans h1.os.symm, h2.tape.trans h1.tape.symm, h2.output.trans h1.output.symm, hs, fun k hk => (h2.block k hk).trans (h1.block k hk).symm⟩
theorem Kn_obj {w : World} {b n : Nat} {L : List (List Int)} (h : Kn w b n L) : ∃ o : Obj, w.heap[b]? = some o ∧ o.isCells = false := by
 obtain ⟨D, ⟨es, clock, hb, _⟩, _⟩ := h
 exact ⟨_, hb, rfl⟩
theorem ib_own {w : World} {a v : Value} {d : Dat sSystem} {lv : List (List Int)} {i : Nat} {t : List Int} {tb B2 B3 : Nat} {T : Value} {Ds : List Nat} {W0 : World} {B : Nat} (hB : w.heap.size + 1 + 1 + 1 + 1 < B) (h0 : Dok (w.heap.size + 1 + 1 + 1 + 1 + 1 + 1) Ds W0) (hW : W0.heap.size ≤ B) : OwnFrom B (fun pre X => Ib w a v d lv i t tb B2 B3 T Ds pre X) := fun pre X Y row hs hg hr => by
 obtain ⟨O, on, oc, h1, h2, h3, h4⟩ := hs
 exact ⟨O, on, oc, nx_own Unit w a v _ O on oc hB () X Y row h1 hg hr, (row_turn hg (fun r e => (hr r e).2) h2).trans h2, ownFrom_dok (β := Unit) h0 hW () X Y row h3 hg hr, h4⟩
theorem no_own {w : World} {o : Option (List (List Int))} {Ds : List Nat} {W0 : World} {B : Nat} (hB : w.heap.size ≤ B) (h0 : Dok (w.heap.size + 1 + 1 + 1 + 1 + 1 + 1) Ds W0) (hW : W0.heap.size ≤ B) : OwnFrom B (fun (_ : List (Nat × Nat)) X => NoAns w o Ds X) := fun pre X Y row hs hg hr => by
 obtain ⟨h1, h2, h3, h4, h5⟩ := hs
 have hr' : ∀ r, row = some r → ∃ o : Obj, X.heap[r]? = some o ∧ o.isCells = false := fun r e => (hr r e).2
 exact ⟨h1, (row_turn hg hr' h2).trans h2, (row_turn hg hr' h3).trans h3, h4.grown hg h4.size (fun k e => by have := (hr k e).1; omega), ownFrom_dok (β := Unit) h0 hW () X Y row h5 hg hr⟩
theorem no_ans {w X : World} {a v : Value} {L : List (List Int)} {O : Option Addr} {on oc : Nat} {o : Option (List (List Int))} {Ds : List Nat} (h : Nx w a v L O on oc X) (hD : Dok (w.heap.size + 1 + 1 + 1 + 1 + 1 + 1) Ds X) (ho : o = none) : NoAns w o Ds ((X.setCell ⟨w.heap.size + 1, 0, none⟩ (.slice none 0 0)).setCell ⟨w.heap.size + 1 + 1, 0, none⟩ (.bool false)) ∧ ∀ B, w.heap.size + 1 + 1 < B → KeepsFrom B X ((X.setCell ⟨w.heap.size + 1, 0, none⟩ (.slice none 0 0)).setCell ⟨w.heap.size + 1 + 1, 0, none⟩ (.bool false)) := by
 have blk : ∀ k, k ≠ w.heap.size + 1 → k ≠ w.heap.size + 1 + 1 → ((X.setCell ⟨w.heap.size + 1, 0, none⟩ (.slice none 0 0)).setCell ⟨w.heap.size + 1 + 1, 0, none⟩ (.bool false)).heap[k]? = X.heap[k]? := fun k h1 h2 => (Below.heap_setCell _ _ _ k h2).trans (Below.heap_setCell _ _ _ k h1)
 refine ⟨⟨ho, Row.far (Row.put h.r4 0 _) (by show _ ≠ w.heap.size + 1 + 1; omega) _, Row.put (Row.far (p := ⟨w.heap.size + 1, 0, none⟩) h.r5 (by show _ ≠ w.heap.size + 1; omega) _) 0 _, (h.bel.setCell (by show _ ≤ w.heap.size + 1; omega) _).setCell (by show _ ≤ w.heap.size + 1 + 1; omega) _, hD.1, fun D hm => ⟨(hD.2 D hm).1, ?_⟩⟩, fun B hB => ⟨by simp, fun k o hk ho _ => ?_⟩⟩
 · have := (hD.2 D hm).1
   rw [blk D (by omega) (by omega)]
   exact (hD.2 D hm).2
 · rw [blk k (by omega) (by omega)]; exact ho
theorem nx_start (w : World) (a v : Value) : Nx w a v [] none 0 0 ((((((w.alloc (.cells #[a, v] 60)).alloc (.cells #[.slice none 0 0] 32)).alloc (.cells #[.bool false] 4)).alloc (.cells #[.slice none 0 0] 32)).alloc (.map #[] 0)).alloc (.cells #[.map (some (w.heap.size + 1 + 1 + 1 + 1))] 65)) := by
 obtain ⟨V1, e1⟩ : ∃ V, V = w.alloc (.cells #[a, v] 60) := ⟨_, rfl⟩
 obtain ⟨V2, e2⟩ : ∃ V, V = V1.alloc (.cells #[.slice none 0 0] 32) := ⟨_, rfl⟩
 obtain ⟨V3, e3⟩ : ∃ V, V = V2.alloc (.cells #[.bool false] 4) := ⟨_, rfl⟩
 obtain ⟨V4, e4⟩ : ∃ V, V = V3.alloc (.cells #[.slice none 0 0] 32) := ⟨_, rfl⟩
 obtain ⟨V5, e5⟩ : ∃ V, V = V4.alloc (.map #[] 0) := ⟨_, rfl⟩
 obtain ⟨V6, e6⟩ : ∃ V, V = V5.alloc (.cells #[.map (some (w.heap.size + 1 + 1 + 1 + 1))] 65) := ⟨_, rfl⟩
 rw [← e1, ← e2, ← e3, ← e4, ← e5, ← e6]
 have s1 : V1.heap.size = w.heap.size + 1 := by rw [e1]; simp
 have s2 : V2.heap.size = w.heap.size + 1 + 1 := by rw [e2]; simp [s1]
 have s3 : V3.heap.size = w.heap.size + 1 + 1 + 1 := by rw [e3]; simp [s2]
 have s4 : V4.heap.size = w.heap.size + 1 + 1 + 1 + 1 := by rw [e4]; simp [s3]
 have s5 : V5.heap.size = w.heap.size + 1 + 1 + 1 + 1 + 1 := by rw [e5]; simp [s4]
 have r1 : Row V1 w.heap.size 60 #[a, v] := by rw [e1]; exact Row.new _ _ _
 have r2 : Row V2 (w.heap.size + 1) 32 #[.slice none 0 0] := by rw [e2, ← s1]; exact Row.new _ _ _
 have r3 : Row V3 (w.heap.size + 1 + 1) 4 #[.bool false] := by rw [e3, ← s2]; exact Row.new _ _ _
 have r4 : Row V4 (w.heap.size + 1 + 1 + 1) 32 #[.slice none 0 0] := by rw [e4, ← s3]; exact Row.new _ _ _
 have r6 : Row V6 (w.heap.size + 1 + 1 + 1 + 1 + 1) 65 #[.map (some (w.heap.size + 1 + 1 + 1 + 1))] := by rw [e6, ← s5]; exact Row.new _ _ _
 have k5 : Kn V5 (w.heap.size + 1 + 1 + 1 + 1) 0 [] := by rw [e5, ← s4]; exact kn_made _
 have b1 : Below w.heap.size w V1 := by rw [e1]; exact (Below.refl _ _).alloc (Nat.le_refl _) _
 have b2 : Below V1.heap.size V1 V2 := by rw [e2]; exact (Below.refl _ _).alloc (Nat.le_refl _) _
 have b3 : Below V2.heap.size V2 V3 := by rw [e3]; exact (Below.refl _ _).alloc (Nat.le_refl _) _
 have b4 : Below V3.heap.size V3 V4 := by rw [e4]; exact (Below.refl _ _).alloc (Nat.le_refl _) _
 have b5 : Below V4.heap.size V4 V5 := by rw [e5]; exact (Below.refl _ _).alloc (Nat.le_refl _) _
 have b6 : Below V5.heap.size V5 V6 := by rw [e6]; exact (Below.refl _ _).alloc (Nat.le_refl _) _
 exact ⟨((((r1.next b2).next b3).next b4).next b5).next b6, (((r2.next b3).next b4).next b5).next b6, ((r3.next b4).next b5).next b6, (r4.next b5).next b6, r6, k5.below b6, OwnL.nil _ _ _ _ _, next_trans b1 (next_trans b2 (next_trans b3 (next_trans b4 (next_trans b5 b6))))⟩
set_option maxHeartbeats 4000000 in
theorem implAfter (a v : Value) (A : Option Addr) (n c : Nat) (d : Dat sSystem) (lv : List (List Int)) (w : World) (h : Rd w w.heap.size sSystem [a, v] d) (hl : Rd w w.heap.size sTs [.slice A n c] lv) (hz : sz sSystem d ≤ 1048576) (hok : ∀ t ∈ lv, rightB d.1 d.2 t = true) (hn : n ≤ 60) :
   Calls Tryz.prog 68 #[.agg #[a, v], .slice A n c] w (AnsAfter w (nextO d.1 d.2 lv)) := by
 refine (callsIn_wide (n := 5)).1 ?_
 obtain ⟨o, ho⟩ : ∃ o, nextO d.1 d.2 lv = o := ⟨_, rfl⟩
 rw [ho]
 have HO := Lib.hid (show nextO d.1 d.2 lv = o ∧ True from ⟨ho, trivial⟩)
 have HN := Lib.hid (rd_ts hl)
 have HH := Lib.hid (show Rd w w.heap.size sSystem [a, v] d ∧ Rd w w.heap.size sTs [.slice A n c] lv ∧ sz sSystem d ≤ 1048576 ∧ (∀ t ∈ lv, rightB d.1 d.2 t = true) from ⟨h, hl, hz, hok⟩)
 obtain ⟨W, hW⟩ : ∃ W, W = (((((w.alloc (.cells #[a, v] 60)).alloc (.cells #[.slice none 0 0] 32)).alloc (.cells #[.bool false] 4)).alloc (.cells #[.slice none 0 0] 32)).alloc (.map #[] 0)).alloc (.cells #[.map (some (w.heap.size + 1 + 1 + 1 + 1))] 65) := ⟨_, rfl⟩
 have H0 : Nx w a v [] none 0 0 W := by rw [hW]; exact nx_start w a v
 clear ho h hl hz hok
 refine callsIn_of_wp_marks Tryz.func68 rfl trivial ?_ rfl
 simp only [Tryz.ntmps68, List.size_toArray, List.length_cons, List.length_nil, Nat.reduceAdd, Nat.reduceSub, Array.replicate_succ, Array.replicate_zero, List.push_toArray, List.append_toArray, List.nil_append, List.cons_append]
 have hmm := @run_makeMap Tryz.prog
 gi_wp2
 rw [← hW]
 clear hW hmm
 refine wpIn_loop (fun a' w' => ∃ (i on oc : Nat) (O : Option Addr) (Ds : List Nat) (u8 u9 u10 u11 u12 u13 u18 u19 u20 u21 u22 u23 u24 u25 u26 u27 u28 u29 u30 u31 u32 u33 u34 u35 u36 u37 u38 u39 u40 u41 u42 u43 u44 u45 u46 u47 u48 u49 : Value), a' = { tmps := #[.agg #[a, v], .slice A n c, .pointer (some ⟨w.heap.size, 0, none⟩), undef, .pointer (some ⟨w.heap.size + 1, 0, none⟩), .pointer (some ⟨w.heap.size + 1 + 1, 0, none⟩), .pointer (some ⟨w.heap.size + 1 + 1 + 1, 0, none⟩), .pointer (some ⟨w.heap.size + 1 + 1 + 1 + 1 + 1, 0, none⟩), u8, u9, u10, u11, u12, u13, .map (some (w.heap.size + 1 + 1 + 1 + 1)), .slice A n c, .int .i64 (n : Int), .int .i64 (i : Int), u18, u19, u20, u21, u22, u23, u24, u25, u26, u27, u28, u29, u30, u31, u32, u33, u34, u35, u36, u37, u38, u39, u40, u41, u42, u43, u44, u45, u46, u47, u48, u49], defers := Ds.map mark } ∧ i ≤ n ∧ Nx w a v (nxN d.1 d.2 lv i) O on oc w' ∧ Dok (w.heap.size + 1 + 1 + 1 + 1 + 1 + 1) Ds w' ∧ (nxN d.1 d.2 lv i).length ≤ 60 ∧ (∀ t ∈ lv.take i, longB d.1 d.2 t = false)) (fun a' _ => n - (intOf (a'.tmps.getD 17 undef)).toNat) ?_ ?_
 · exact ⟨0, 0, 0, none, [], _, _, _, _, _, _, _, _, _, _, _, _, _, _, _, _, _, _, _, _, _, _, _, _, _, _, _, _, _, _, _, _, _, _, _, _, _, _, rfl, Nat.zero_le _, H0, ⟨List.nodup_nil, fun D h => by cases h⟩, Nat.zero_le _, fun t h => by cases h⟩
 · clear H0 W
   rintro a' wr ⟨i, on, oc, O, Ds, u8, u9, u10, u11, u12, u13, u18, u19, u20, u21, u22, u23, u24, u25, u26, u27, u28, u29, u30, u31, u32, u33, u34, u35, u36, u37, u38, u39, u40, u41, u42, u43, u44, u45, u46, u47, u48, u49, rfl, hin, N, hD, h60, hsh⟩
   by_cases hi : i < n
   · obtain ⟨b, off, T, tn, tc, rfl, hb, cT, sT, hcT⟩ := rd_term HH.out.2.1 N.bel hi
     have i0 : (0 : Int) ≤ (i : Int) := by omega
     have i1 : (i : Int) < (n : Int) := by omega
     have kS0 : (wr.alloc (.cells #[.slice T tn tc] 24)).cell? ⟨w.heap.size, 0, none⟩ = some a := (N.sys.alloc _).cell 0
     have kS1 : (wr.alloc (.cells #[.slice T tn tc] 24)).cell? ⟨w.heap.size, 1, none⟩ = some v := (N.sys.alloc _).cell 1
     have kS2 : (wr.alloc (.cells #[.slice T tn tc] 24)).cell? ⟨wr.heap.size, 0, none⟩ = some (.slice T tn tc) := (Row.new wr 24 #[.slice T tn tc]).cell 0
     gi_wp2_with (refine ⟨trivial, ?_⟩; gi_at_call 70; refine (callsIn_wide.2 (redexesFn a v T tn tc _)).mono ?_; rintro e w3 ⟨rfl, hw3⟩; subst hw3)
     obtain ⟨Wb, hWb⟩ : ∃ Wb, Wb = ((wr.alloc (.cells #[.slice T tn tc] 24)).alloc (.cells #[a, v] 60)).alloc (.cells #[.slice T tn tc] 24) := ⟨_, rfl⟩
     rw [← hWb]
     have bB : Below wr.heap.size wr Wb := by rw [hWb]; exact (((Below.refl _ wr).alloc (Nat.le_refl _) _).alloc (by simp) _).alloc (by simp; omega) _
     have zB : wr.heap.size + 1 + 1 + 1 ≤ Wb.heap.size := by rw [hWb]; simp
     have rT : Row Wb wr.heap.size 24 #[.slice T tn tc] := by rw [hWb]; exact ((Row.new wr _ _).alloc _).alloc _
     have r2 : Row Wb (wr.heap.size + 1) 60 #[a, v] := by
       rw [hWb]
       have := (Row.new (wr.alloc (.cells #[.slice T tn tc] 24)) 60 #[a, v]).alloc (.cells #[.slice T tn tc] 24)
       simpa using this
     have r3 : Row Wb (wr.heap.size + 1 + 1) 24 #[.slice T tn tc] := by
       rw [hWb]
       have := Row.new ((wr.alloc (.cells #[.slice T tn tc] 24)).alloc (.cells #[a, v] 60)) 24 #[.slice T tn tc]
       simpa using this
     have NB := N.below bB
     have DB : Dok (w.heap.size + 1 + 1 + 1 + 1 + 1 + 1) Ds Wb := ⟨hD.1, fun D hm => ⟨(hD.2 D hm).1, (bB.block D (Array.getElem?_eq_some_iff.1 (hD.2 D hm).2).1).trans (hD.2 D hm).2⟩⟩
     have zw : w.heap.size + 1 + 1 + 1 + 1 + 1 < wr.heap.size := N.sz
     obtain ⟨t, ht⟩ : ∃ t, lv.getD i [] = t := ⟨_, rfl⟩
     rw [ht] at sT
     have hil : i < lv.length := by rw [HN.out]; exact hi
     have htm : t ∈ lv := by rw [← ht]; simp [List.getD, hil]
     have hR := HH.out.2.2.2 t htm
     have HT := Lib.hid (show lv.getD i [] = t ∧ i < lv.length ∧ t ∈ lv from ⟨ht, hil, htm⟩)
     have HC := Lib.hid N.cells
     have bw : Below w.heap.size w Wb := next_trans N.bel bB
     have hsT : Rd Wb w.heap.size sI [.slice T tn tc] t := rd_ints.2 ⟨T, tn, tc, rfl, sT.below (bB.mono N.bel.size), hcT⟩
     have HPRE := redexes_stopsK 4 (by decide) (wr.heap.size + 1) (wr.heap.size + 1 + 1) w.heap.size a v (.slice T tn tc) d t Wb bw.size r2 r3 (HH.out.1.below bw) hsT HH.out.2.2.1 hR
     have HS := Lib.hid (show Rd w w.heap.size sSystem [a, v] d ∧ Rd Wb w.heap.size sI [.slice T tn tc] t ∧ rightB d.1 d.2 t = true from ⟨HH.out.1, hsT, hR⟩)
     have HBW := Lib.hid bw
     have HD0 := Lib.hid hD
     have HL := Lib.hid (show (nxN d.1 d.2 lv i).length ≤ 60 ∧ (∀ t ∈ lv.take i, longB d.1 d.2 t = false) from ⟨h60, hsh⟩)
     clear hWb r2 r3 kS0 kS1 kS2 cT sT hcT N hD ht hil htm hR h60 hsh hsT
     refine rangePreX (gf := 99) (lb := #[.pointer (some ⟨wr.heap.size + 1 + 1, 0, none⟩), .pointer (some ⟨wr.heap.size + 1, 0, none⟩)]) rfl (enters_of Tryz.func99 (by kernel_rfl) rfl) HPRE (Below.refl _ _) (fun _ => rfl) Kr.trans
       (fun X o o' ho => ⟨(Below.refl w.heap.size X).grown (grownBy_putObj' X _ o') (by have := (Array.getElem?_eq_some_iff.1 ho).1; omega) (fun k e => by cases e; omega), World.putObj_heap_other (by omega), World.putObj_heap_other (by omega)⟩)
       (fun pre X => Ib w a v d lv i t wr.heap.size (wr.heap.size + 1) (wr.heap.size + 1 + 1) (.slice T tn tc) Ds pre X) (fun _ X => NoAns w o Ds X)
       (ib_own (by omega) DB (Nat.le_refl _)) (no_own (by omega) DB (Nat.le_refl _))
       ⟨O, on, oc, NB, rT, DB, ⟨HL.out.1, fun p hp => by cases hp⟩, fun e => by have := (HC.out _ e).2.1; omega, fun e => by have := (HC.out _ e).2.1; omega, fun e => by have := (HC.out _ e).2.1; omega⟩
       (fun x => { tmps := #[.agg #[a, v], .slice (some ⟨b, off, none⟩) n c, .pointer (some ⟨w.heap.size, 0, none⟩), undef, .pointer (some ⟨w.heap.size + 1, 0, none⟩), .pointer (some ⟨w.heap.size + 1 + 1, 0, none⟩), .pointer (some ⟨w.heap.size + 1 + 1 + 1, 0, none⟩), .pointer (some ⟨w.heap.size + 1 + 1 + 1 + 1 + 1, 0, none⟩), u8, .pointer (some ⟨wr.heap.size, 0, none⟩), .int .i64 (x.1 : Int), .int .i64 (x.2 : Int), u12, u13, .map (some (w.heap.size + 1 + 1 + 1 + 1)), .slice (some ⟨b, off, none⟩) n c, .int .i64 (n : Int), .int .i64 (i : Int), .bool true, .pointer (some ⟨b, off + i, none⟩), .slice T tn tc, .agg #[a, v], .slice T tn tc, .func (.func 99) #[] #[.pointer (some ⟨wr.heap.size + 1 + 1, 0, none⟩), .pointer (some ⟨wr.heap.size + 1, 0, none⟩)], .int .i64 (x.1 : Int), .int .i64 (x.2 : Int), u26, u27, u28, u29, u30, u31, u32, u33, u34, u35, u36, u37, u38, u39, u40, u41, u42, u43, u44, u45, u46, u47, u48, u49], defers := [] }) ?assign ?body ?done ?stop
     case assign =>
       intro l x X K hK
       gi_wp2
       first | exact hK | simpa using hK
     case body =>
       clear NB rT bB HPRE
       rintro l pre ⟨x, k⟩ X ⟨O, on, oc, N, rT, hD, ⟨h60, hno⟩, hO2, hO3, hOt⟩ hX hpre
       obtain ⟨hx, hkr, hred⟩ := red_in hpre
       have b0 : Below w.heap.size w X := N.bel
       have bX : Below w.heap.size Wb X := below_mid HBW.out b0 (by omega)
       have LR := reduced a v (.slice T tn tc) d t x k X (HS.out.1.next b0) ((HS.out.2.1.below bX).more b0.size) HH.out.2.2.1 HS.out.2.2 hx hkr hred
       have K10 : X.cell? ⟨w.heap.size, 0, none⟩ = some a := N.sys.cell 0
       have K11 : X.cell? ⟨w.heap.size, 1, none⟩ = some v := N.sys.cell 1
       have K20 : X.cell? ⟨wr.heap.size, 0, none⟩ = some (.slice T tn tc) := rT.cell 0
       have HP := Lib.hid hpre
       have zs5 : w.heap.size + 1 + 1 + 1 + 1 + 1 < X.heap.size := N.sz
       have hLon : (Lq d.1 d.2 lv i t pre).length = on := N.ow.1
       have hon : on ≤ 60 := by rw [← hLon]; exact h60
       have HLON := Lib.hid hLon
       have HNO := Lib.hid hno
       have HRED := Lib.hid hred
       clear hpre bX hLon hno hred
       cases hs : stepO d.1 (d.2.getD k ([], [])) t x with
       | none =>
         have HON := Lib.hid (show o = none ∧ True from ⟨by rw [← HO.out.1]; exact next_long HT.out.2.2 (long_yes hx hkr HRED.out hs), trivial⟩)
         have L2 := Lib.hid (LR.mono (R' := fun e w' => ∃ U un uc, e = .returned (.tuple #[.slice U un uc, .bool false]) ∧ Below X.heap.size X w') (by rintro e w' ⟨U, un, uc, he, _, hb⟩; rw [hs] at he; exact ⟨U, un, uc, he, hb⟩))
         clear LR hs
         gi_wp2_with (refine ⟨trivial, ?_⟩; gi_at_call 74; refine (CallsIn.inRound l (callsIn_wide.2 L2.out)).mono ?_; rintro e V2 ⟨U, un, uc, rfl, bb⟩; refine (?_ : Hid _).out)
         have N2 := N.below bb
         have D2 : Dok (w.heap.size + 1 + 1 + 1 + 1 + 1 + 1) Ds V2 := hD.tch (Tch.of_below (O := none) (w := w) bb) (by omega) (fun k e => by cases e)
         have y4 : V2.cell? ⟨w.heap.size + 1, 0, none⟩ = some (.slice none 0 0) := N2.r4.cell 0
         have g4 := N2.r4.free 0
         have r5 := Row.far (p := ⟨w.heap.size + 1, 0, none⟩) N2.r5 (by show _ ≠ w.heap.size + 1; omega) (.slice none 0 0)
         have y5 : (V2.setCell ⟨w.heap.size + 1, 0, none⟩ (.slice none 0 0)).cell? ⟨w.heap.size + 1 + 1, 0, none⟩ = some (.bool false) := r5.cell 0
         have g5 := r5.free 0
         have NA := no_ans N2 D2 HON.out.1
         have KF : KeepsFrom Wb.heap.size X ((V2.setCell ⟨w.heap.size + 1, 0, none⟩ (.slice none 0 0)).setCell ⟨w.heap.size + 1 + 1, 0, none⟩ (.bool false)) := ((Tch.of_below (O := none) (w := w) bb).keeps (by omega) (fun k e => by cases e)).trans (NA.2 _ (by omega))
         have F := Lib.hid (show KeepsFrom Wb.heap.size X ((V2.setCell ⟨w.heap.size + 1, 0, none⟩ (.slice none 0 0)).setCell ⟨w.heap.size + 1 + 1, 0, none⟩ (.bool false)) ∧ NoAns w o Ds ((V2.setCell ⟨w.heap.size + 1, 0, none⟩ (.slice none 0 0)).setCell ⟨w.heap.size + 1 + 1, 0, none⟩ (.bool false)) from ⟨KF, NA.1⟩)
         clear N N2 hD D2 NA KF r5 bb L2 K10 K11 K20 rT
         refine Lib.hid ?_
         gi_wp2
         first | exact F.out | exact F.out.2
       | some y =>
         have hyT : termOkB d.1 y = true := by
           obtain ⟨q1, q2⟩ := right_ok2 HS.out.2.2
           exact step_ok ((sys_parts q1).2.2 _ (by rw [List.getD_eq_getElem?_getD, List.getElem?_eq_getElem hkr]; exact List.getElem_mem hkr)) q2 hx hs
         have HY := Lib.hid (show Small y ∧ y.length ≤ 60 from ⟨small_term hyT, (term_len hyT).2⟩)
         have HQ := Lib.hid (lq_snoc (lv := lv) (i := i) (pre := pre) hs)
         have HNN := Lib.hid (show ∀ p ∈ pre ++ [(x, k)], stepO d.1 (d.2.getD p.2 ([], [])) t p.1 ≠ none from fun p hp => by
           rcases List.mem_append.1 hp with hp | hp
           · exact HNO.out p hp
           · rw [List.mem_singleton.1 hp, hs]; exact fun e => by cases e)
         have L2 := Lib.hid (LR.mono (R' := fun e w' => ∃ U un uc, e = .returned (.tuple #[.slice U un uc, .bool true]) ∧ marks.Own w' X.heap.size (.slice U un uc) y ∧ Below X.heap.size X w') (by rintro e w' ⟨U, un, uc, he, ho, hb⟩; rw [hs] at he ho; exact ⟨U, un, uc, he, ho, hb⟩))
         clear LR hs hyT
         gi_wp2_with (refine ⟨trivial, ?_⟩; gi_at_call 74; refine (CallsIn.inRound l (callsIn_wide.2 L2.out)).mono ?_; rintro e V2 ⟨U, un, uc, rfl, oU, bb⟩; refine (?_ : Hid _).out)
         have N2 := N.below bb
         have hsz2 := bb.size
         have ow2 := N.ow.next bb
         have D2 : Dok (w.heap.size + 1 + 1 + 1 + 1 + 1 + 1) Ds V2 := hD.tch (Tch.of_below (O := none) (w := w) bb) (by omega) (fun k e => by cases e)
         have rT2 := rT.next bb
         have hun : un ≤ 60 := by have := Own.len oU; have := HY.out.2; omega
         have sU := Own.seg oU
         have y6 : V2.cell? ⟨w.heap.size + 1 + 1 + 1, 0, none⟩ = some (.slice O on oc) := N2.r6.cell 0
         have y7 : V2.cell? ⟨w.heap.size + 1 + 1 + 1 + 1 + 1, 0, none⟩ = some (.map (some (w.heap.size + 1 + 1 + 1 + 1))) := N2.r7.cell 0
         have HCX := Lib.hid N.cells
         have T02 : Tch w O X V2 := Tch.of_below bb
         by_cases hin : y ∈ Lq d.1 d.2 lv i t pre
         · have LA := Lib.hid (addOld U un uc (w.heap.size + 1 + 1 + 1 + 1) _ y (on : Int) _ V2 N2.kn sU HY.out.1 hin)
           have F := Lib.hid (fun (V3 : World) (b3 : Below V2.heap.size V2 V3) => (show V3.cell? ⟨w.heap.size + 1 + 1 + 1, 0, none⟩ = some (.slice O on oc) ∧ KeepsFrom Wb.heap.size X V3 ∧ Kr w.heap.size (wr.heap.size + 1) (wr.heap.size + 1 + 1) X V3 ∧ Ib w a v d lv i t wr.heap.size (wr.heap.size + 1) (wr.heap.size + 1 + 1) (.slice T tn tc) Ds (pre ++ [(x, k)]) V3 from by
             have T3 : Tch w O X V3 := T02.trans (Tch.of_below b3)
             refine ⟨(N2.below b3).r6.cell 0, T3.keeps (by omega) (fun k e => (HCX.out k e).2.2), ⟨T3.below (by omega) (fun k e => by have := (HCX.out k e).1; omega) N.bel.size, T3.block _ (by omega) (by omega) (by omega) (fun e => hO2 e.symm), T3.block _ (by omega) (by omega) (by omega) (fun e => hO3 e.symm)⟩, O, on, oc, ?_, rT2.next b3, D2.tch (Tch.of_below (O := none) (w := w) b3) (by omega) (fun k e => by cases e), ⟨?_, HNN.out⟩, hO2, hO3, hOt⟩
             · rw [HQ.out, addT_old hin]; exact N2.below b3
             · rw [HQ.out, addT_old hin]; exact h60))
           have hon3 : ¬ (60 : Int) < (on : Int) := by omega
           clear N N2 hD D2 oU sU bb ow2 L2 K10 K11 K20 rT rT2 T02 hin
           refine Lib.hid ?_
           gi_wp2_with (refine ⟨trivial, ?_⟩; gi_at_call 86; refine (CallsIn.inRound l (callsIn_wide.2 LA.out)).mono ?_; rintro e V3 ⟨rfl, b3⟩; have k6 := (F.out V3 b3).1)
           first | exact (F.out V3 b3).2 | exact ⟨(F.out V3 b3).2.1, (F.out V3 b3).2.2⟩
         · have LA := Lib.hid (show Calls Tryz.prog 86 #[.map (some (w.heap.size + 1 + 1 + 1 + 1)), .slice U un uc, .int .i64 (on : Int)] V2 _ from by have q := addNew U un uc (w.heap.size + 1 + 1 + 1 + 1) _ y _ V2 N2.kn sU HY.out.1 hin (by omega) (by omega); rw [show (Lq d.1 d.2 lv i t pre).length = on from HLON.out] at q; exact q)
           have HI := Lib.hid hin
           have oY : Owned V2 X.heap.size V2.heap.size sI [.slice U un uc] y := ow_ints.2 (Go.Proofs.YtifckjchmjmhoabGreat.kinds.Ownd.of_own oU)
           obtain ⟨ob, hob⟩ := Kn_obj N2.kn
           have HX := Lib.hid (show Nx w a v (Lq d.1 d.2 lv i t pre) O on oc X ∧ Nx w a v (Lq d.1 d.2 lv i t pre) O on oc V2 ∧ Dok (w.heap.size + 1 + 1 + 1 + 1 + 1 + 1) Ds X ∧ OwnL V2 (w.heap.size + 1 + 1 + 1 + 1 + 1 + 1) X.heap.size 24 sI O on oc (Lq d.1 d.2 lv i t pre) ∧ Owned V2 X.heap.size V2.heap.size sI [.slice U un uc] y ∧ Row X wr.heap.size 24 #[.slice T tn tc] ∧ Tch w O X V2 from ⟨N, N2, hD, ow2, oY, rT, T02⟩)
           have HB5 := Lib.hid (show blk O ≠ some (wr.heap.size + 1) ∧ blk O ≠ some (wr.heap.size + 1 + 1) ∧ blk O ≠ some wr.heap.size from ⟨hO2, hO3, hOt⟩)
           clear N N2 hD D2 oU sU bb ow2 L2 K10 K11 K20 rT rT2 T02 hin oY hO2 hO3 hOt
           refine Lib.hid ?_
           gi_wp2_with (refine ⟨trivial, ?_⟩; gi_at_call 86; refine (CallsIn.inRound l (callsIn_wide.2 LA.out)).mono ?_; rintro e V3 ⟨rfl, k3, g3⟩; refine (?_ : Hid _).out)
           have hsz3 := g3.size
           have bt3 : Btw (w.heap.size + 1 + 1 + 1 + 1) (w.heap.size + 1 + 1 + 1 + 1 + 1) V2 V3 := Btw.of_grown g3 (fun k e => by injection e with e; omega)
           have c6 : V3.cell? ⟨w.heap.size + 1 + 1 + 1, 0, none⟩ = some (.slice O on oc) := (Row.btw HX.out.2.1.r6 bt3 (by omega)).cell 0
           have b4 : Below V3.heap.size V3 (V3.alloc (.cells #[.slice U un uc] 24)) := (Below.refl _ _).alloc (Nat.le_refl _) _
           have HAPP := Lib.hid (show OwnL (V3.alloc (.cells #[.slice U un uc] 24)) (w.heap.size + 1 + 1 + 1 + 1 + 1 + 1) X.heap.size 24 sI O on oc (Lq d.1 d.2 lv i t pre) ∧ OwnL (V3.alloc (.cells #[.slice U un uc] 24)) X.heap.size (V3.heap.size + 1) 24 sI (some ⟨V3.heap.size, 0, none⟩) 1 1 [y] from
             ⟨(HX.out.2.2.2.1.btw bt3 (.inr (by omega))).next b4, OwnL.single (e := 24) (s := sI) (Row.new V3 24 #[.slice U un uc]) (((HX.out.2.2.2.2.1.btw bt3 (.inr (by omega))).next b4).wider (Nat.le_refl _) (Nat.le_refl _)) hsz3 (by omega)⟩)
           have HV3 := Lib.hid (show Kn V3 (w.heap.size + 1 + 1 + 1 + 1) ((Lq d.1 d.2 lv i t pre).length + 1) (Lq d.1 d.2 lv i t pre ++ [y]) ∧ V2.grownBy V3 (some (w.heap.size + 1 + 1 + 1 + 1)) ∧ Row V3 (w.heap.size + 1 + 1 + 1) 32 #[.slice O on oc] from ⟨by rw [show (Lq d.1 d.2 lv i t pre).length = on from HLON.out]; exact k3, g3, Row.btw HX.out.2.1.r6 bt3 (by omega)⟩)
           clear k3 g3 bt3 LA hob y6 y7
           refine Lib.hid ?_
           gi_wp2_with (gi_at_builtin; refine appLmIn2 rfl _ _ 32 24 sI _ _ Tryz.underlying32 info_list rfl (by decide) rfl (w.heap.size + 1 + 1 + 1 + 1 + 1 + 1) X.heap.size X.heap.size (V3.heap.size + 1) O on oc V3.heap.size 1 1 (Lq d.1 d.2 lv i t pre) [y] rfl HAPP.out.1 rfl HAPP.out.2 (Nat.le_refl _) (by omega) (by omega) (by omega) (by simp; omega) (by omega) ?_; intro g5 c5 w5 oL5 hg5 hb5 hat5; have r5 := Row.away (HV3.out.2.2.next b4) hg5 (fun e => by have := (HCX.out _ e).1; omega); have z5 : w5.cell? ⟨w.heap.size + 1 + 1 + 1, 0, none⟩ = some (.slice O on oc) := r5.cell 0; have f5 := r5.free 0; refine (?_ : Hid _).out)
           have hN := HX.out.1
           have gS := grown_set w5 (w.heap.size + 1 + 1 + 1) 0 (.slice (some ⟨g5, 0, none⟩) (on + 1) c5)
           have TZ : Tch w O X (w5.setCell ⟨w.heap.size + 1 + 1 + 1, 0, none⟩ (.slice (some ⟨g5, 0, none⟩) (on + 1) c5)) := (((HX.out.2.2.2.2.2.2.trans (Tch.of_grown HV3.out.2.1 (fun k e => .inr (.inl (by injection e with e; exact e.symm))))).trans (Tch.of_below b4)).trans (Tch.of_grown hg5 (fun k e => .inr (.inr e.symm)))).trans (Tch.of_grown gS (fun k e => .inl (by injection e with e; exact e.symm)))
           have hsz4 : V3.heap.size + 1 ≤ (V3.alloc (.cells #[.slice U un uc] 24)).heap.size := by simp
           have hsz5 := hb5.size
           have nO : ∀ k, k < w.heap.size + 1 + 1 + 1 + 1 + 1 + 1 → some k ≠ blk O := fun k hk e => by have := (HCX.out k e.symm).1; omega
           have NZ : Nx w a v (Lq d.1 d.2 lv i t (pre ++ [(x, k)])) (some ⟨g5, 0, none⟩) (on + 1) c5 (w5.setCell ⟨w.heap.size + 1 + 1 + 1, 0, none⟩ (.slice (some ⟨g5, 0, none⟩) (on + 1) c5)) := by
             rw [HQ.out, addT_new HI.out]
             refine ⟨TZ.row hN.sys (by omega) (by omega) (nO _ (by omega)), TZ.row hN.r4 (by omega) (by omega) (nO _ (by omega)), TZ.row hN.r5 (by omega) (by omega) (nO _ (by omega)), Row.put r5 0 _, TZ.row hN.r7 (by omega) (by omega) (nO _ (by omega)), ?_, ?_, hN.bel.trans (TZ.below (by omega) (fun k e => by have := (HCX.out k e).1; omega) hN.bel.size)⟩
             · rw [List.length_append, List.length_singleton]
               exact ((HV3.out.1.below b4).kept hg5 (nO _ (by omega))).kept gS (fun e => by injection e with e; omega)
             · exact (oL5.btw (Btw.of_grown gS (lo := w.heap.size + 1 + 1 + 1) (hi := w.heap.size + 1 + 1 + 1 + 1) (fun k e => by injection e with e; omega)) (.inr (by omega))).wider (Nat.le_refl _) (by simp)
           have DZ : Dok (w.heap.size + 1 + 1 + 1 + 1 + 1 + 1) Ds (w5.setCell ⟨w.heap.size + 1 + 1 + 1, 0, none⟩ (.slice (some ⟨g5, 0, none⟩) (on + 1) c5)) := HX.out.2.2.1.tch TZ (by omega) (fun k e => (HCX.out k e).2.2)
           have KZ : KeepsFrom Wb.heap.size X (w5.setCell ⟨w.heap.size + 1 + 1 + 1, 0, none⟩ (.slice (some ⟨g5, 0, none⟩) (on + 1) c5)) := TZ.keeps (by omega) (fun k e => (HCX.out k e).2.2)
           have q6 : (w5.setCell ⟨w.heap.size + 1 + 1 + 1, 0, none⟩ (.slice (some ⟨g5, 0, none⟩) (on + 1) c5)).cell? ⟨w.heap.size + 1 + 1 + 1, 0, none⟩ = some (.slice (some ⟨g5, 0, none⟩) (on + 1) c5) := NZ.r6.cell 0
           have g5n : ∀ k, wr.heap.size ≤ k → k < Wb.heap.size → blk O ≠ some k → blk (some (⟨g5, 0, none⟩ : Addr)) ≠ some k := fun k h1 h2 h3 e => by
             have e : some g5 = some k := e
             injection e with e
             rcases hat5 with q | q
             · exact h3 (by rw [q, e])
             · omega
           by_cases h61 : 60 < on + 1
           · have HON := Lib.hid (show o = none ∧ True from ⟨by
               rw [← HO.out.1]
               refine next_many (i := i + 1) (by have := HT.out.2.1; omega) (Nat.lt_of_lt_of_le ?_ (lq_le HT.out.2.1 HT.out.1 HP.out))
               have := NZ.ow.1
               omega, trivial⟩)
             have y4 : (w5.setCell ⟨w.heap.size + 1 + 1 + 1, 0, none⟩ (.slice (some ⟨g5, 0, none⟩) (on + 1) c5)).cell? ⟨w.heap.size + 1, 0, none⟩ = some (.slice none 0 0) := NZ.r4.cell 0
             have g4 := NZ.r4.free 0
             have r5' := Row.far (p := ⟨w.heap.size + 1, 0, none⟩) NZ.r5 (by show _ ≠ w.heap.size + 1; omega) (.slice none 0 0)
             have y5 : ((w5.setCell ⟨w.heap.size + 1 + 1 + 1, 0, none⟩ (.slice (some ⟨g5, 0, none⟩) (on + 1) c5)).setCell ⟨w.heap.size + 1, 0, none⟩ (.slice none 0 0)).cell? ⟨w.heap.size + 1 + 1, 0, none⟩ = some (.bool false) := r5'.cell 0
             have g5' := r5'.free 0
             have NA := no_ans NZ DZ HON.out.1
             have F := Lib.hid (show KeepsFrom Wb.heap.size X (((w5.setCell ⟨w.heap.size + 1 + 1 + 1, 0, none⟩ (.slice (some ⟨g5, 0, none⟩) (on + 1) c5)).setCell ⟨w.heap.size + 1, 0, none⟩ (.slice none 0 0)).setCell ⟨w.heap.size + 1 + 1, 0, none⟩ (.bool false)) ∧ NoAns w o Ds (((w5.setCell ⟨w.heap.size + 1 + 1 + 1, 0, none⟩ (.slice (some ⟨g5, 0, none⟩) (on + 1) c5)).setCell ⟨w.heap.size + 1, 0, none⟩ (.slice none 0 0)).setCell ⟨w.heap.size + 1 + 1, 0, none⟩ (.bool false)) from ⟨KZ.trans (NA.2 _ (by omega)), NA.1⟩)
             have h61i : (60 : Int) < (on : Int) + 1 := by omega
             clear HX HV3 HAPP NZ DZ KZ TZ NA r5' r5 oL5 hg5 hb5 hat5 hN gS nO g5n b4 h61
             refine Lib.hid ?_
             gi_wp2
             first | exact F.out | exact F.out.2
           · have F := Lib.hid (show KeepsFrom Wb.heap.size X (w5.setCell ⟨w.heap.size + 1 + 1 + 1, 0, none⟩ (.slice (some ⟨g5, 0, none⟩) (on + 1) c5)) ∧ Kr w.heap.size (wr.heap.size + 1) (wr.heap.size + 1 + 1) X (w5.setCell ⟨w.heap.size + 1 + 1 + 1, 0, none⟩ (.slice (some ⟨g5, 0, none⟩) (on + 1) c5)) ∧ Ib w a v d lv i t wr.heap.size (wr.heap.size + 1) (wr.heap.size + 1 + 1) (.slice T tn tc) Ds (pre ++ [(x, k)]) (w5.setCell ⟨w.heap.size + 1 + 1 + 1, 0, none⟩ (.slice (some ⟨g5, 0, none⟩) (on + 1) c5)) from
               ⟨KZ, ⟨TZ.below (by omega) (fun k e => by have := (HCX.out k e).1; omega) hN.bel.size, TZ.block _ (by omega) (by omega) (by omega) (fun e => HB5.out.1 e.symm), TZ.block _ (by omega) (by omega) (by omega) (fun e => HB5.out.2.1 e.symm)⟩,
                 _, _, _, NZ, TZ.row HX.out.2.2.2.2.2.1 (by omega) (by omega) (fun e => HB5.out.2.2 e.symm), DZ, ⟨by have := NZ.ow.1; omega, HNN.out⟩, g5n _ (by omega) (by omega) HB5.out.1, g5n _ (by omega) (by omega) HB5.out.2.1, g5n _ (by omega) (by omega) HB5.out.2.2⟩)
             have h61i : ¬ (60 : Int) < (on : Int) + 1 := by omega
             clear HX HV3 HAPP NZ DZ KZ TZ r5 oL5 hg5 hb5 hat5 hN gS nO g5n b4 h61
             refine Lib.hid ?_
             gi_wp2
             first | exact F.out | exact F.out.2
     case done =>
       rintro D X hDb ⟨O, on, oc, N, rT, hDk, ⟨h60, hno⟩, -, -, -⟩ hd
       have F := Lib.hid (show Nx w a v (nxN d.1 d.2 lv (i + 1)) O on oc X ∧ Dok (w.heap.size + 1 + 1 + 1 + 1 + 1 + 1) (D :: Ds) X ∧ (nxN d.1 d.2 lv (i + 1)).length ≤ 60 ∧ (∀ t ∈ lv.take (i + 1), longB d.1 d.2 t = false) from by
         rw [lq_all HT.out.2.1 HT.out.1] at N h60
         refine ⟨N, Dok.cons HD0.out hDk (by omega) (by omega) hd, h60, fun u hu => ?_⟩
         have hil := HT.out.2.1
         rw [List.take_succ_eq_append_getElem hil] at hu
         rcases List.mem_append.1 hu with hu | hu
         · exact HL.out.2 u hu
         · have e : u = t := by
             have e1 := HT.out.1
             rw [List.getD_eq_getElem?_getD, List.getElem?_eq_getElem hil, Option.getD_some] at e1
             rw [← e1]
             exact List.mem_singleton.1 hu
           rw [e]
           exact red_short hno)
       clear N rT hDk h60 hno hd HPRE NB DB bB
       gi_wp2
       refine ⟨⟨i + 1, on, oc, O, D :: Ds, _, _, _, _, _, _, _, _, _, _, _, _, _, _, _, _, _, _, _, _, _, _, _, _, _, _, _, _, _, _, _, _, _, _, _, _, _, _, rfl, by omega, F.out.1, F.out.2.1, F.out.2.2.1, F.out.2.2.2⟩, ?_⟩
       simp [intOf]
       omega
     case stop =>
       rintro D pre X hDb hne hpre ⟨ho, q4, q5, qb, hDk⟩ hd
       have DK := Lib.hid (Dok.cons HD0.out hDk (by omega) (by omega) hd)
       have hOwn : OwnFrom (w.heap.size + 1 + 1 + 1 + 1 + 1 + 1) (fun (_ : Unit) W => Row W (w.heap.size + 1) 32 #[.slice none 0 0] ∧ Row W (w.heap.size + 1 + 1) 4 #[.bool false] ∧ Below w.heap.size w W) := fun _ X Y row hs hg hr => ⟨(row_turn hg (fun r e => (hr r e).2) hs.1).trans hs.1, (row_turn hg (fun r e => (hr r e).2) hs.2.1).trans hs.2.1, hs.2.2.grown hg hs.2.2.size (fun k e => by have := (hr k e).1; omega)⟩
       have hT := turn_keeps hOwn (D :: Ds) X DK.out.1 DK.out.2 ⟨q4, q5, qb⟩
       have u4 : (turnAll (D :: Ds) X).cell? ⟨w.heap.size + 1, 0, none⟩ = some (.slice none 0 0) := hT.1.cell 0
       have u5 : (turnAll (D :: Ds) X).cell? ⟨w.heap.size + 1 + 1, 0, none⟩ = some (.bool false) := hT.2.1.cell 0
       have HF := Lib.hid (show AnsAfter w o (.returned (.tuple #[.slice none 0 0, .bool false])) (turnAll (D :: Ds) X) from ⟨none, 0, 0, by rw [ho]; rfl, by rw [ho]; exact ⟨none, 0, 0, rfl, ⟨Nat.le_refl _, by omega, fun _ => rfl⟩, rfl, fun h => absurd h (by omega)⟩, hT.2.2⟩)
       clear hd hDk HPRE NB DB bB hT hOwn q4 q5 qb
       gi_wp2
       refine leaves_marks (D :: Ds) X DK.out.1 (fun D' h' => (DK.out.2 D' h').2) ?_
       exact ⟨_, by simp [results, Tryz.results68, go_sem, u4, u5], HF.out⟩
   · have hi2 : ¬ (i : Int) < (n : Int) := by omega
     have hin2 : i = n := by omega
     have hall : o = some (nxN d.1 d.2 lv i) := by
       have hl : lv.length = i := by rw [HN.out]; exact hin2.symm
       have e := next_some (sg := d.1) (rs := d.2) (lv := lv) (fun u hu => hsh u (by rw [List.take_of_length_le (by omega)]; exact hu)) (by rw [hl]; exact h60)
       rw [hl] at e
       rw [← HO.out.1]; exact e
     have HALL := Lib.hid (show o = some (nxN d.1 d.2 lv i) ∧ True from ⟨hall, trivial⟩)
     have y6 : wr.cell? ⟨w.heap.size + 1 + 1 + 1, 0, none⟩ = some (.slice O on oc) := N.r6.cell 0
     have y4 : wr.cell? ⟨w.heap.size + 1, 0, none⟩ = some (.slice none 0 0) := N.r4.cell 0
     have g4 := N.r4.free 0
     have ra := Row.put N.r4 0 (.slice O on oc)
     have rb := Row.far (p := ⟨w.heap.size + 1, 0, none⟩) N.r5 (by show _ ≠ w.heap.size + 1; omega) (.slice O on oc)
     have y5 : (wr.setCell ⟨w.heap.size + 1, 0, none⟩ (.slice O on oc)).cell? ⟨w.heap.size + 1 + 1, 0, none⟩ = some (.bool false) := rb.cell 0
     have g5 := rb.free 0
     have ra2 := Row.far (p := ⟨w.heap.size + 1 + 1, 0, none⟩) ra (by show _ ≠ w.heap.size + 1 + 1; omega) (.bool true)
     have rb2 := Row.put rb 0 (.bool true)
     obtain ⟨Z, hZ⟩ : ∃ Z, Z = (wr.setCell ⟨w.heap.size + 1, 0, none⟩ (.slice O on oc)).setCell ⟨w.heap.size + 1 + 1, 0, none⟩ (.bool true) := ⟨_, rfl⟩
     rw [← hZ] at ra2 rb2
     have oZ : OwnL Z (w.heap.size + 1 + 1 + 1 + 1 + 1 + 1) Z.heap.size 24 sI O on oc (nxN d.1 d.2 lv i) := by
       rw [hZ]
       exact (((N.ow.btw (Btw.of_grown (grown_set wr (w.heap.size + 1) 0 (.slice O on oc)) (lo := w.heap.size + 1) (hi := w.heap.size + 1 + 1) (fun k e => by injection e with e; omega)) (.inr (by omega))).btw (Btw.of_grown (grown_set _ (w.heap.size + 1 + 1) 0 (.bool true)) (lo := w.heap.size + 1 + 1) (hi := w.heap.size + 1 + 1 + 1) (fun k e => by injection e with e; omega)) (.inr (by omega)))).wider (Nat.le_refl _) (by simp)
     have bZ : Below w.heap.size w Z := by rw [hZ]; exact (N.bel.setCell (by show _ ≤ w.heap.size + 1; omega) _).setCell (by show _ ≤ w.heap.size + 1 + 1; omega) _
     have DZ : Dok (w.heap.size + 1 + 1 + 1 + 1 + 1 + 1) Ds Z := ⟨hD.1, fun D hm => ⟨(hD.2 D hm).1, by
       have := (hD.2 D hm).1
       rw [hZ, Below.heap_setCell _ _ _ D (by show D ≠ w.heap.size + 1 + 1; omega), Below.heap_setCell _ _ _ D (by show D ≠ w.heap.size + 1; omega)]
       exact (hD.2 D hm).2⟩⟩
     have hOwn : OwnFrom (w.heap.size + 1 + 1 + 1 + 1 + 1 + 1) (fun (_ : Unit) W => Row W (w.heap.size + 1) 32 #[.slice O on oc] ∧ Row W (w.heap.size + 1 + 1) 4 #[.bool true] ∧ Below w.heap.size w W ∧ OwnL W (w.heap.size + 1 + 1 + 1 + 1 + 1 + 1) W.heap.size 24 sI O on oc (nxN d.1 d.2 lv i)) := fun _ X Y row hs hg hr => ⟨(row_turn hg (fun r e => (hr r e).2) hs.1).trans hs.1, (row_turn hg (fun r e => (hr r e).2) hs.2.1).trans hs.2.1, hs.2.2.1.grown hg hs.2.2.1.size (fun k e => by have := (hr k e).1; omega), (ownL_turn hs.2.2.2 hg (fun r e => (hr r e).2)).wider (Nat.le_refl _) hg.size⟩
     have hT := turn_keeps hOwn Ds Z DZ.1 DZ.2 ⟨ra2, rb2, bZ, oZ⟩
     have u4 : (turnAll Ds Z).cell? ⟨w.heap.size + 1, 0, none⟩ = some (.slice O on oc) := hT.1.cell 0
     have u5 : (turnAll Ds Z).cell? ⟨w.heap.size + 1 + 1, 0, none⟩ = some (.bool true) := hT.2.1.cell 0
     have HF := Lib.hid (show AnsAfter w o (.returned (.tuple #[.slice O on oc, .bool true])) (turnAll Ds Z) from ⟨O, on, oc, by rw [HALL.out.1]; rfl, by rw [HALL.out.1]; exact hT.2.2.2.rd, hT.2.2.1⟩)
     have DK := Lib.hid DZ
     have HZ := Lib.hid hZ
     clear N hD ra rb ra2 rb2 oZ bZ DZ hOwn hT hall hZ hin2
     gi_wp2
     rw [← HZ.out]
     refine leaves_marks Ds Z DK.out.1 (fun D' h' => (DK.out.2 D' h').2) ?_
     exact ⟨_, by simp [results, Tryz.results68, go_sem, u4, u5], HF.out⟩
end iter
end
section
namespace longest
open Go.RowKit base ints sig term termOk marks app sym sub segs segsHelp termFacts varsOf shape kindsR kindsW ruleMath ruleSpec ruleImpl stepMath walkMath stepSpec stepImpl reachMath findW findSpec bySpec iter
set_option maxRecDepth 100000
set_option maxHeartbeats 2000000 in
theorem implLongest (a v : Value) (T : Option Addr) (m c n : Nat) (d : Dat sSystem) (t : List Int) (w : World) (h : Rd w w.heap.size sSystem [a, v] d) (ht : Rd w w.heap.size sI [.slice T m c] t) (hz : sz sSystem d ≤ 1048576) (hok : rightB d.1 d.2 t = true) (hn : n ≤ 20) :
   Calls Tryz.prog 41 #[.agg #[a, v], .slice T m c, .int .i64 (n : Int)] w (AnsInt w (lg d.1 d.2 (n + 1) [t] 0)) := by
 obtain ⟨R, hR⟩ : ∃ R, lg d.1 d.2 (n + 1) [t] 0 = R := ⟨_, rfl⟩
 rw [hR]
 obtain ⟨W, hW, rS, rL, bW⟩ := box2 w 60 24 #[a, v] #[.slice T m c]
 have HW := Lib.hid hW
 have H0 := Lib.hid (show Rd W W.heap.size sTs [.slice (some ⟨w.heap.size + 1, 0, none⟩) 1 1] [t] ∧ (∀ u ∈ [t], rightB d.1 d.2 u = true) ∧ lg d.1 d.2 (n + 1) [t] ((0 : Nat) : Int) = R ∧ Row W w.heap.size 60 #[a, v] ∧ Below w.heap.size w W from ⟨rd_one rL rL.lt (ht.next bW), fun u hu => by rw [List.mem_singleton.1 hu]; exact hok, hR, rS, bW⟩)
 have HH := Lib.hid (show Rd w w.heap.size sSystem [a, v] d ∧ sz sSystem d ≤ 1048576 from ⟨h, hz⟩)
 clear hW rS rL bW h ht hz hok hR
 go_enter Tryz.func41, Tryz.ntmps41
 go_wp2_with fail
 rw [← HW.out]
 go_loopg [7, 15] (n + 1) (fun g l_ i_ wr => ∃ (i xn xc : Nat) (X : Option Addr) (lv : List (List Int)), l_ = .slice X xn xc ∧ i_ = .int .i64 (i : Int) ∧ i + g = n + 1 ∧ xn ≤ 60 ∧ Rd wr wr.heap.size sTs [.slice X xn xc] lv ∧ (∀ u ∈ lv, rightB d.1 d.2 u = true) ∧ lg d.1 d.2 g lv (i : Int) = R ∧ Row wr w.heap.size 60 #[a, v] ∧ Below w.heap.size w wr)
 case atStart => exact ⟨0, 1, 1, _, [t], rfl, rfl, by omega, by omega, H0.out⟩
 case round =>
   clear H0 HW W
   obtain ⟨i, xn, xc, X, lv, rfl, rfl, hg, hx, hX, hr, hlg, rS, bel⟩ := hrel
   by_cases hi : i < n + 1
   · have LA := Lib.hid (implAfter a v X xn xc d lv wr (HH.out.1.next bel) hX HH.out.2 hr hx)
     obtain ⟨f, hf⟩ : ∃ f, gk = f + 1 := ⟨gk - 1, by omega⟩
     have HF := Lib.hid (show gk = f + 1 ∧ True from ⟨hf, trivial⟩)
     have hlg2 := hlg
     rw [hf, lg] at hlg2
     have k0 : wr.cell? ⟨w.heap.size, 0, none⟩ = some a := rS.cell 0
     have k1 : wr.cell? ⟨w.heap.size, 1, none⟩ = some v := rS.cell 1
     have HS := Lib.hid (show Row wr w.heap.size 60 #[a, v] ∧ Below w.heap.size w wr ∧ (∀ u ∈ lv, rightB d.1 d.2 u = true) ∧ i + gk = n + 1 from ⟨rS, bel, hr, hg⟩)
     have i0 : (i : Int) < (n : Int) + 1 := by omega
     obtain ⟨o, ho⟩ : ∃ o, nextO d.1 d.2 lv = o := ⟨_, rfl⟩
     rw [ho] at LA hlg2
     have HO := Lib.hid (show nextO d.1 d.2 lv = o ∧ True from ⟨ho, trivial⟩)
     clear hlg hf hX hr rS bel hg ho
     cases o with
     | none =>
       have hR : R = -1 := hlg2.symm
       subst hR
       clear hlg2
       go_wp2_with fail
       refine LA.out.mono ?_
       rintro e w2 ⟨Y, yn, yc, rfl, -, bb⟩
       have F := Lib.hid (show AnsInt w (-1) (.returned (.int .i64 (-1))) w2 from ⟨rfl, next_trans HS.out.2.1 bb⟩)
       clear bb LA
       go_wp2
       go_ret
       exact F.out
     | some nx =>
       have hlg2 : (if nx = [] then (i : Int) else lg d.1 d.2 f nx ((i : Int) + 1)) = R := hlg2
       have HLG := Lib.hid hlg2
       clear hlg2
       go_wp2_with fail
       refine LA.out.mono ?_
       rintro e w2 ⟨Y, yn, yc, rfl, hY, bb⟩
       have hyn : nx.length = yn := rd_ts hY
       have b2 := next_trans HS.out.2.1 bb
       have rS2 := HS.out.1.next bb
       by_cases h0 : yn = 0
       · subst h0
         have hnil : nx = [] := List.eq_nil_of_length_eq_zero hyn
         have F := Lib.hid (show AnsInt w R (.returned (.int .i64 (i : Int))) w2 from ⟨by rw [← HLG.out, if_pos hnil], b2⟩)
         clear bb LA hY rS2 b2 hnil hyn
         go_wp2
         go_ret
         exact F.out
       · have h0i : ¬ (yn : Int) = 0 := by omega
         have F := Lib.hid (show yn ≤ 60 ∧ Rd w2 w2.heap.size sTs [.slice Y yn yc] nx ∧ (∀ u ∈ nx, rightB d.1 d.2 u = true) ∧ lg d.1 d.2 f nx (((i + 1 : Nat)) : Int) = R ∧ Row w2 w.heap.size 60 #[a, v] ∧ Below w.heap.size w w2 from
           ⟨by rw [← hyn]; exact (next_parts HO.out.1).2.1, hY, nx_right HO.out.1 HS.out.2.2.1, by have q := HLG.out; rw [if_neg (fun e => h0 (by rw [← hyn, e]; rfl))] at q; exact q, rS2, b2⟩)
         have G := Lib.hid HS.out.2.2.2
         clear bb LA hY rS2 b2 hyn h0 HS
         go_wp2
         go_roundg (gk - 1)
         case measure => have := G.out; omega
         case rel =>
           refine ⟨i + 1, yn, yc, Y, nx, rfl, by simp, by have := G.out; omega, F.out.1, F.out.2.1, F.out.2.2.1, ?_, F.out.2.2.2.2⟩
           rw [HF.out.1, Nat.add_sub_cancel]
           exact F.out.2.2.2.1
   · have hR : R = -1 := by
       have : gk = 0 := by omega
       rw [this] at hlg
       exact hlg.symm
     subst hR
     have i0 : ¬ (i : Int) < (n : Int) + 1 := by omega
     have F := Lib.hid (show AnsInt w (-1) (.returned (.int .i64 (-1))) wr from ⟨rfl, bel⟩)
     clear hlg hX hr rS bel
     go_wp2
     go_ret
     exact F.out
end longest
end
section
namespace longest
open Go.RowKit base ints sig term termOk marks app sym sub segs segsHelp termFacts varsOf shape kindsR kindsW ruleMath ruleSpec ruleImpl stepMath walkMath stepSpec stepImpl reachMath findW findSpec bySpec iter
set_option maxRecDepth 100000
def AnsSrc (w : World) (a v : Value) (q : Bool) (e : Ending) (w' : World) : Prop := ∃ x1 x2 x3 y1 y2 y3 b, e = .returned (.tuple #[.agg #[.slice x1 x2 x3, .slice y1 y2 y3], .bool b]) ∧ b = q ∧ (b = true → .slice x1 x2 x3 = a ∧ .slice y1 y2 y3 = v) ∧ Below w.heap.size w w'
def srcB (sg : List Int) (rs : List Rl) (n : Int) (D : List (List Int)) : Bool := sysOkB sg rs && (stepsB n && D.all (termOkB sg))
set_option maxHeartbeats 4000000 in
theorem searchIn (a v : Value) (n : Int) (X : Option Addr) (xn xc : Nat) (D : List (List Int)) (d : Dat sSystem) (w : World) (h : Rd w w.heap.size sSystem [a, v] d) (hz : sz sSystem d ≤ 1048576) (hX : Rd w w.heap.size sTs [.slice X xn xc] D) (hxn : xn ≤ 1048576) (hD : ∀ k, (D.getD k []).length ≤ 1048576) :
   Calls Tryz.prog 28 #[.agg #[a, v], .int .i64 n, .slice X xn xc] w (AnsSrc w a v (srcB d.1 d.2 n D)) := by
 obtain ⟨q, hq⟩ : ∃ q, srcB d.1 d.2 n D = q := ⟨_, rfl⟩
 rw [hq]
 have h0 := h
 obtain ⟨A, m, cs, V, r, cv, rfl, rfl, hs, hc, hcv, hr, hm, hr1, hrs, hsg, hE⟩ := rd_sys h hz
 obtain ⟨W, hW, rA, rR, bel⟩ := box2 w 29 60 #[.slice A m cs, .slice V r cv] #[.slice none 0 0, .slice none 0 0]
 have HW := Lib.hid hW
 have LS := Lib.hid (systemOf _ _ d W (h0.next bel) hz)
 have HX := Lib.hid (show Rd w w.heap.size sTs [.slice X xn xc] D ∧ D.length = xn ∧ Seg w w.heap.size A m d.1 from ⟨hX, rd_ts hX, hs⟩)
 clear hW h h0 hz hX hs hc hcv hr hrs hsg hE
 cases ok : sysOkB d.1 d.2 with
 | false =>
   have HQ := Lib.hid (show false = q from by rw [← hq]; unfold srcB; rw [ok]; rfl)
   rw [ok] at LS
   clear hq ok
   go_enter Tryz.func28, Tryz.ntmps28
   go_wp2_with fail
   rw [← HW.out]
   refine LS.out.mono ?_
   rintro e w1 ⟨he, bb⟩
   have he : e = .returned (.tuple #[.agg #[.slice none 0 0, .slice none 0 0], .bool false]) := he
   subst he
   obtain ⟨sb, hsb⟩ : ∃ sb, w1.heap.size = sb := ⟨_, rfl⟩
   have HSB := Lib.hid (show w1.heap.size = sb ∧ True from ⟨hsb, trivial⟩)
   have H1 := Lib.hid (show Row (w1.alloc (.cells #[.slice none 0 0, .slice none 0 0] 60)) sb 60 #[.slice none 0 0, .slice none 0 0] ∧ Row (w1.alloc (.cells #[.slice none 0 0, .slice none 0 0] 60)) (w.heap.size + 1) 60 #[.slice none 0 0, .slice none 0 0] ∧ Below w.heap.size w (w1.alloc (.cells #[.slice none 0 0, .slice none 0 0] 60)) from ⟨by rw [← HSB.out.1]; exact Row.new _ _ _, (rR.next bb).alloc _, (next_trans bel bb).alloc (next_trans bel bb).size _⟩)
   clear bb bel rA rR LS HW
   go_wp2_with fail
   try rw [hsb]
   clear hsb
   go_loopg [9, 28] xn (fun g b_ i_ wr => ∃ i : Nat, b_ = .bool false ∧ i_ = .int .i64 (i : Int) ∧ i + g = xn ∧ Row wr sb 60 #[.slice none 0 0, .slice none 0 0] ∧ Row wr (w.heap.size + 1) 60 #[.slice none 0 0, .slice none 0 0] ∧ Below w.heap.size w wr)
   case atStart => exact ⟨0, by first | rfl | rw [decide_eq_false (by omega)], rfl, by omega, H1.out⟩
   case round =>
     obtain ⟨i, rfl, rfl, hg, rs, rr, bel⟩ := hrel
     by_cases hi : i < xn
     · obtain ⟨b, off, T, tn, tc, rfl, hb, cT, -, -⟩ := rd_term HX.out.1 bel hi
       have i0 : (0 : Int) ≤ (i : Int) := by omega
       have i1 : (i : Int) < (xn : Int) := by omega
       have F := Lib.hid (show i + gk = xn ∧ Row wr sb 60 #[.slice none 0 0, .slice none 0 0] ∧ Row wr (w.heap.size + 1) 60 #[.slice none 0 0, .slice none 0 0] ∧ Below w.heap.size w wr from ⟨hg, rs, rr, bel⟩)
       clear hg rs rr bel
       go_wp2
       go_roundg (gk - 1)
       case measure => have := F.out.1; omega
       case rel => exact ⟨i + 1, rfl, by simp, by have := F.out.1; omega, F.out.2⟩
     · have i1 : ¬ (i : Int) < (xn : Int) := by omega
       clear hg
       have c0 : wr.cell? ⟨sb, 0, none⟩ = some (.slice none 0 0) := rs.cell 0
       have c1 : wr.cell? ⟨sb, 1, none⟩ = some (.slice none 0 0) := rs.cell 1
       have y0 : wr.cell? ⟨w.heap.size + 1, 0, none⟩ = some (.slice none 0 0) := rr.cell 0
       have y1 : wr.cell? ⟨w.heap.size + 1, 1, none⟩ = some (.slice none 0 0) := rr.cell 1
       have g0 := rr.free 0
       have g1 := rr.free 1
       have ra := Row.put rr 0 (.slice none 0 0)
       have y2 : (wr.setCell ⟨w.heap.size + 1, 0, none⟩ (.slice none 0 0)).cell? ⟨w.heap.size + 1, 1, none⟩ = some (.slice none 0 0) := ra.cell 1
       have g2 := ra.free 1
       have rb := Row.put ra 1 (.slice none 0 0)
       have u0 : ((wr.setCell ⟨w.heap.size + 1, 0, none⟩ (.slice none 0 0)).setCell ⟨w.heap.size + 1, 1, none⟩ (.slice none 0 0)).cell? ⟨w.heap.size + 1, 0, none⟩ = some (.slice none 0 0) := rb.cell 0
       have u1 : ((wr.setCell ⟨w.heap.size + 1, 0, none⟩ (.slice none 0 0)).setCell ⟨w.heap.size + 1, 1, none⟩ (.slice none 0 0)).cell? ⟨w.heap.size + 1, 1, none⟩ = some (.slice none 0 0) := rb.cell 1
       have FZ : AnsSrc w (.slice A m cs) (.slice V r cv) q (.returned (.tuple #[.agg #[.slice none 0 0, .slice none 0 0], .bool false])) ((wr.setCell ⟨w.heap.size + 1, 0, none⟩ (.slice none 0 0)).setCell ⟨w.heap.size + 1, 1, none⟩ (.slice none 0 0)) := ⟨none, 0, 0, none, 0, 0, false, rfl, HQ.out, (fun e => by cases e), (bel.setCell (by show _ ≤ w.heap.size + 1; omega) _).setCell (by show _ ≤ w.heap.size + 1; omega) _⟩
       have HFZ := Lib.hid FZ
       clear FZ ra rb rs rr bel HQ
       go_wp2
       exact bodyPost_ret (v := .tuple #[.agg #[.slice none 0 0, .slice none 0 0], .bool false]) (by simp [results, Tryz.results28, go_sem, u0, u1]) rfl HFZ.out
 | true =>
   rw [ok] at LS
   by_cases hn0 : 0 ≤ n
   · by_cases hn1 : n ≤ 20
     · have HQ := Lib.hid (show q = D.all (termOkB d.1) from by rw [← hq]; unfold srcB; rw [ok, steps_in ⟨hn0, hn1⟩]; rfl)
       clear hq ok
       go_enter Tryz.func28, Tryz.ntmps28
       go_wp2_with fail
       rw [← HW.out]
       refine LS.out.mono ?_
       rintro e w1 ⟨he, bb⟩
       have he : e = .returned (.tuple #[.agg #[.slice A m cs, .slice V r cv], .bool true]) := he
       subst he
       obtain ⟨sb, hsb⟩ : ∃ sb, w1.heap.size = sb := ⟨_, rfl⟩
       have HSB := Lib.hid (show w1.heap.size = sb ∧ True from ⟨hsb, trivial⟩)
       have H1 := Lib.hid (show Row (w1.alloc (.cells #[.slice A m cs, .slice V r cv] 60)) sb 60 #[.slice A m cs, .slice V r cv] ∧ Row (w1.alloc (.cells #[.slice A m cs, .slice V r cv] 60)) (w.heap.size + 1) 60 #[.slice none 0 0, .slice none 0 0] ∧ Below w.heap.size w (w1.alloc (.cells #[.slice A m cs, .slice V r cv] 60)) from ⟨by rw [← HSB.out.1]; exact Row.new _ _ _, (rR.next bb).alloc _, (next_trans bel bb).alloc (next_trans bel bb).size _⟩)
       clear bb bel rA rR LS HW
       go_wp2_with fail
       try rw [hsb]
       clear hsb
       go_loopg [9, 28] xn (fun g b_ i_ wr => ∃ (i : Nat) (b : Bool), b_ = .bool b ∧ i_ = .int .i64 (i : Int) ∧ i + g = xn ∧ b = (D.take i).all (termOkB d.1) ∧ Row wr sb 60 #[.slice A m cs, .slice V r cv] ∧ Row wr (w.heap.size + 1) 60 #[.slice none 0 0, .slice none 0 0] ∧ Below w.heap.size w wr)
       case atStart => exact ⟨0, true, rfl, rfl, by omega, rfl, H1.out⟩
       case round =>
         obtain ⟨i, bo, rfl, rfl, hg, hbo, rs, rr, bel⟩ := hrel
         by_cases hi : i < xn
         · obtain ⟨b, off, T, tn, tc, rfl, hb, cT, sT, hcT⟩ := rd_term HX.out.1 bel hi
           have i0 : (0 : Int) ≤ (i : Int) := by omega
           have i1 : (i : Int) < (xn : Int) := by omega
           have hil : i < D.length := by rw [HX.out.2.1]; exact hi
           have HB := Lib.hid (show (D.take (i + 1)).all (termOkB d.1) = (bo && termOkB d.1 (D.getD i [])) from by rw [List.take_succ_eq_append_getElem hil, List.all_append, ← hbo]; simp [List.getD, hil])
           have HG := Lib.hid (show i + gk = xn ∧ Row wr sb 60 #[.slice A m cs, .slice V r cv] ∧ Row wr (w.heap.size + 1) 60 #[.slice none 0 0, .slice none 0 0] ∧ Below w.heap.size w wr from ⟨hg, rs, rr, bel⟩)
           have k0 : wr.cell? ⟨sb, 0, none⟩ = some (.slice A m cs) := rs.cell 0
           have htn : tn ≤ 1048576 := by rw [← sT.1]; exact hD i
           have LT := Lib.hid (implTermOk A T m cs tn tc d.1 (D.getD i []) wr (HX.out.2.2.next bel) (sT.more bel.size) hm htn)
           clear hg rs rr bel sT hcT hbo
           cases bo with
           | false =>
             go_wp2
             go_roundg (gk - 1)
             case measure => have := HG.out.1; omega
             case rel => exact ⟨i + 1, false, rfl, by simp, by have := HG.out.1; omega, by rw [HB.out]; rfl, HG.out.2⟩
           | true =>
             obtain ⟨bt, hbt⟩ : ∃ b, termOkB d.1 (D.getD i []) = b := ⟨_, rfl⟩
             have HBT := Lib.hid hbt
             clear hbt
             go_wp2_with fail
             refine LT.out.mono ?_
             rintro e w2 ⟨rfl, bb⟩
             rw [HBT.out]
             have F := Lib.hid (show Row w2 sb 60 #[.slice A m cs, .slice V r cv] ∧ Row w2 (w.heap.size + 1) 60 #[.slice none 0 0, .slice none 0 0] ∧ Below w.heap.size w w2 from ⟨HG.out.2.1.next bb, HG.out.2.2.1.next bb, next_trans HG.out.2.2.2 bb⟩)
             have G := Lib.hid (show i + gk = xn ∧ (D.take (i + 1)).all (termOkB d.1) = bt from ⟨HG.out.1, by rw [HB.out, HBT.out]; rfl⟩)
             clear bb LT HG k0 HB HBT
             go_wp2
             go_roundg (gk - 1)
             case measure => have := G.out.1; omega
             case rel => exact ⟨i + 1, bt, rfl, by simp, by have := G.out.1; omega, G.out.2.symm, F.out⟩
         · have i1 : ¬ (i : Int) < (xn : Int) := by omega
           have HB := Lib.hid (show bo = q from by rw [HQ.out, hbo, List.take_of_length_le (by rw [HX.out.2.1]; omega)])
           clear hg hbo
           have c0 : wr.cell? ⟨sb, 0, none⟩ = some (.slice A m cs) := rs.cell 0
           have c1 : wr.cell? ⟨sb, 1, none⟩ = some (.slice V r cv) := rs.cell 1
           have y0 : wr.cell? ⟨w.heap.size + 1, 0, none⟩ = some (.slice none 0 0) := rr.cell 0
           have y1 : wr.cell? ⟨w.heap.size + 1, 1, none⟩ = some (.slice none 0 0) := rr.cell 1
           have g0 := rr.free 0
           have g1 := rr.free 1
           have ra := Row.put rr 0 (.slice A m cs)
           have y2 : (wr.setCell ⟨w.heap.size + 1, 0, none⟩ (.slice A m cs)).cell? ⟨w.heap.size + 1, 1, none⟩ = some (.slice none 0 0) := ra.cell 1
           have g2 := ra.free 1
           have rb := Row.put ra 1 (.slice V r cv)
           have u0 : ((wr.setCell ⟨w.heap.size + 1, 0, none⟩ (.slice A m cs)).setCell ⟨w.heap.size + 1, 1, none⟩ (.slice V r cv)).cell? ⟨w.heap.size + 1, 0, none⟩ = some (.slice A m cs) := rb.cell 0
           have u1 : ((wr.setCell ⟨w.heap.size + 1, 0, none⟩ (.slice A m cs)).setCell ⟨w.heap.size + 1, 1, none⟩ (.slice V r cv)).cell? ⟨w.heap.size + 1, 1, none⟩ = some (.slice V r cv) := rb.cell 1
           have FZ : AnsSrc w (.slice A m cs) (.slice V r cv) q (.returned (.tuple #[.agg #[.slice A m cs, .slice V r cv], .bool bo])) ((wr.setCell ⟨w.heap.size + 1, 0, none⟩ (.slice A m cs)).setCell ⟨w.heap.size + 1, 1, none⟩ (.slice V r cv)) := ⟨A, m, cs, V, r, cv, bo, rfl, HB.out, fun _ => ⟨rfl, rfl⟩, (bel.setCell (by show _ ≤ w.heap.size + 1; omega) _).setCell (by show _ ≤ w.heap.size + 1; omega) _⟩
           have HFZ := Lib.hid FZ
           clear FZ ra rb rs rr bel HQ
           go_wp2
           exact bodyPost_ret (v := .tuple #[.agg #[.slice A m cs, .slice V r cv], .bool bo]) (by simp [results, Tryz.results28, go_sem, u0, u1]) rfl HFZ.out
     · have HQ := Lib.hid (show false = q from by rw [← hq]; unfold srcB; rw [ok, steps_out (fun h => hn1 h.2)]; rfl)
       clear hq ok
       go_enter Tryz.func28, Tryz.ntmps28
       go_wp2_with fail
       rw [← HW.out]
       refine LS.out.mono ?_
       rintro e w1 ⟨he, bb⟩
       have he : e = .returned (.tuple #[.agg #[.slice A m cs, .slice V r cv], .bool true]) := he
       subst he
       obtain ⟨sb, hsb⟩ : ∃ sb, w1.heap.size = sb := ⟨_, rfl⟩
       have HSB := Lib.hid (show w1.heap.size = sb ∧ True from ⟨hsb, trivial⟩)
       have H1 := Lib.hid (show Row (w1.alloc (.cells #[.slice A m cs, .slice V r cv] 60)) sb 60 #[.slice A m cs, .slice V r cv] ∧ Row (w1.alloc (.cells #[.slice A m cs, .slice V r cv] 60)) (w.heap.size + 1) 60 #[.slice none 0 0, .slice none 0 0] ∧ Below w.heap.size w (w1.alloc (.cells #[.slice A m cs, .slice V r cv] 60)) from ⟨by rw [← HSB.out.1]; exact Row.new _ _ _, (rR.next bb).alloc _, (next_trans bel bb).alloc (next_trans bel bb).size _⟩)
       clear bb bel rA rR LS HW
       go_wp2_with fail
       try rw [hsb]
       clear hsb
       go_loopg [9, 28] xn (fun g b_ i_ wr => ∃ i : Nat, b_ = .bool false ∧ i_ = .int .i64 (i : Int) ∧ i + g = xn ∧ Row wr sb 60 #[.slice A m cs, .slice V r cv] ∧ Row wr (w.heap.size + 1) 60 #[.slice none 0 0, .slice none 0 0] ∧ Below w.heap.size w wr)
       case atStart => exact ⟨0, by first | rfl | rw [decide_eq_false (by omega)], rfl, by omega, H1.out⟩
       case round =>
         obtain ⟨i, rfl, rfl, hg, rs, rr, bel⟩ := hrel
         by_cases hi : i < xn
         · obtain ⟨b, off, T, tn, tc, rfl, hb, cT, -, -⟩ := rd_term HX.out.1 bel hi
           have i0 : (0 : Int) ≤ (i : Int) := by omega
           have i1 : (i : Int) < (xn : Int) := by omega
           have F := Lib.hid (show i + gk = xn ∧ Row wr sb 60 #[.slice A m cs, .slice V r cv] ∧ Row wr (w.heap.size + 1) 60 #[.slice none 0 0, .slice none 0 0] ∧ Below w.heap.size w wr from ⟨hg, rs, rr, bel⟩)
           clear hg rs rr bel
           go_wp2
           go_roundg (gk - 1)
           case measure => have := F.out.1; omega
           case rel => exact ⟨i + 1, rfl, by simp, by have := F.out.1; omega, F.out.2⟩
         · have i1 : ¬ (i : Int) < (xn : Int) := by omega
           clear hg
           have c0 : wr.cell? ⟨sb, 0, none⟩ = some (.slice A m cs) := rs.cell 0
           have c1 : wr.cell? ⟨sb, 1, none⟩ = some (.slice V r cv) := rs.cell 1
           have y0 : wr.cell? ⟨w.heap.size + 1, 0, none⟩ = some (.slice none 0 0) := rr.cell 0
           have y1 : wr.cell? ⟨w.heap.size + 1, 1, none⟩ = some (.slice none 0 0) := rr.cell 1
           have g0 := rr.free 0
           have g1 := rr.free 1
           have ra := Row.put rr 0 (.slice A m cs)
           have y2 : (wr.setCell ⟨w.heap.size + 1, 0, none⟩ (.slice A m cs)).cell? ⟨w.heap.size + 1, 1, none⟩ = some (.slice none 0 0) := ra.cell 1
           have g2 := ra.free 1
           have rb := Row.put ra 1 (.slice V r cv)
           have u0 : ((wr.setCell ⟨w.heap.size + 1, 0, none⟩ (.slice A m cs)).setCell ⟨w.heap.size + 1, 1, none⟩ (.slice V r cv)).cell? ⟨w.heap.size + 1, 0, none⟩ = some (.slice A m cs) := rb.cell 0
           have u1 : ((wr.setCell ⟨w.heap.size + 1, 0, none⟩ (.slice A m cs)).setCell ⟨w.heap.size + 1, 1, none⟩ (.slice V r cv)).cell? ⟨w.heap.size + 1, 1, none⟩ = some (.slice V r cv) := rb.cell 1
           have FZ : AnsSrc w (.slice A m cs) (.slice V r cv) q (.returned (.tuple #[.agg #[.slice A m cs, .slice V r cv], .bool false])) ((wr.setCell ⟨w.heap.size + 1, 0, none⟩ (.slice A m cs)).setCell ⟨w.heap.size + 1, 1, none⟩ (.slice V r cv)) := ⟨A, m, cs, V, r, cv, false, rfl, HQ.out, (fun e => by cases e), (bel.setCell (by show _ ≤ w.heap.size + 1; omega) _).setCell (by show _ ≤ w.heap.size + 1; omega) _⟩
           have HFZ := Lib.hid FZ
           clear FZ ra rb rs rr bel HQ
           go_wp2
           exact bodyPost_ret (v := .tuple #[.agg #[.slice A m cs, .slice V r cv], .bool false]) (by simp [results, Tryz.results28, go_sem, u0, u1]) rfl HFZ.out
   · have HQ := Lib.hid (show false = q from by rw [← hq]; unfold srcB; rw [ok, steps_out (fun h => hn0 h.1)]; rfl)
     clear hq ok
     go_enter Tryz.func28, Tryz.ntmps28
     go_wp2_with fail
     rw [← HW.out]
     refine LS.out.mono ?_
     rintro e w1 ⟨he, bb⟩
     have he : e = .returned (.tuple #[.agg #[.slice A m cs, .slice V r cv], .bool true]) := he
     subst he
     obtain ⟨sb, hsb⟩ : ∃ sb, w1.heap.size = sb := ⟨_, rfl⟩
     have HSB := Lib.hid (show w1.heap.size = sb ∧ True from ⟨hsb, trivial⟩)
     have H1 := Lib.hid (show Row (w1.alloc (.cells #[.slice A m cs, .slice V r cv] 60)) sb 60 #[.slice A m cs, .slice V r cv] ∧ Row (w1.alloc (.cells #[.slice A m cs, .slice V r cv] 60)) (w.heap.size + 1) 60 #[.slice none 0 0, .slice none 0 0] ∧ Below w.heap.size w (w1.alloc (.cells #[.slice A m cs, .slice V r cv] 60)) from ⟨by rw [← HSB.out.1]; exact Row.new _ _ _, (rR.next bb).alloc _, (next_trans bel bb).alloc (next_trans bel bb).size _⟩)
     clear bb bel rA rR LS HW
     go_wp2_with fail
     try rw [hsb]
     clear hsb
     go_loopg [9, 28] xn (fun g b_ i_ wr => ∃ i : Nat, b_ = .bool false ∧ i_ = .int .i64 (i : Int) ∧ i + g = xn ∧ Row wr sb 60 #[.slice A m cs, .slice V r cv] ∧ Row wr (w.heap.size + 1) 60 #[.slice none 0 0, .slice none 0 0] ∧ Below w.heap.size w wr)
     case atStart => exact ⟨0, by first | rfl | rw [decide_eq_false (by omega)], rfl, by omega, H1.out⟩
     case round =>
       obtain ⟨i, rfl, rfl, hg, rs, rr, bel⟩ := hrel
       by_cases hi : i < xn
       · obtain ⟨b, off, T, tn, tc, rfl, hb, cT, -, -⟩ := rd_term HX.out.1 bel hi
         have i0 : (0 : Int) ≤ (i : Int) := by omega
         have i1 : (i : Int) < (xn : Int) := by omega
         have F := Lib.hid (show i + gk = xn ∧ Row wr sb 60 #[.slice A m cs, .slice V r cv] ∧ Row wr (w.heap.size + 1) 60 #[.slice none 0 0, .slice none 0 0] ∧ Below w.heap.size w wr from ⟨hg, rs, rr, bel⟩)
         clear hg rs rr bel
         go_wp2
         go_roundg (gk - 1)
         case measure => have := F.out.1; omega
         case rel => exact ⟨i + 1, rfl, by simp, by have := F.out.1; omega, F.out.2⟩
       · have i1 : ¬ (i : Int) < (xn : Int) := by omega
         clear hg
         have c0 : wr.cell? ⟨sb, 0, none⟩ = some (.slice A m cs) := rs.cell 0
         have c1 : wr.cell? ⟨sb, 1, none⟩ = some (.slice V r cv) := rs.cell 1
         have y0 : wr.cell? ⟨w.heap.size + 1, 0, none⟩ = some (.slice none 0 0) := rr.cell 0
         have y1 : wr.cell? ⟨w.heap.size + 1, 1, none⟩ = some (.slice none 0 0) := rr.cell 1
         have g0 := rr.free 0
         have g1 := rr.free 1
         have ra := Row.put rr 0 (.slice A m cs)
         have y2 : (wr.setCell ⟨w.heap.size + 1, 0, none⟩ (.slice A m cs)).cell? ⟨w.heap.size + 1, 1, none⟩ = some (.slice none 0 0) := ra.cell 1
         have g2 := ra.free 1
         have rb := Row.put ra 1 (.slice V r cv)
         have u0 : ((wr.setCell ⟨w.heap.size + 1, 0, none⟩ (.slice A m cs)).setCell ⟨w.heap.size + 1, 1, none⟩ (.slice V r cv)).cell? ⟨w.heap.size + 1, 0, none⟩ = some (.slice A m cs) := rb.cell 0
         have u1 : ((wr.setCell ⟨w.heap.size + 1, 0, none⟩ (.slice A m cs)).setCell ⟨w.heap.size + 1, 1, none⟩ (.slice V r cv)).cell? ⟨w.heap.size + 1, 1, none⟩ = some (.slice V r cv) := rb.cell 1
         have FZ : AnsSrc w (.slice A m cs) (.slice V r cv) q (.returned (.tuple #[.agg #[.slice A m cs, .slice V r cv], .bool false])) ((wr.setCell ⟨w.heap.size + 1, 0, none⟩ (.slice A m cs)).setCell ⟨w.heap.size + 1, 1, none⟩ (.slice V r cv)) := ⟨A, m, cs, V, r, cv, false, rfl, HQ.out, (fun e => by cases e), (bel.setCell (by show _ ≤ w.heap.size + 1; omega) _).setCell (by show _ ≤ w.heap.size + 1; omega) _⟩
         have HFZ := Lib.hid FZ
         clear FZ ra rb rs rr bel HQ
         go_wp2
         exact bodyPost_ret (v := .tuple #[.agg #[.slice A m cs, .slice V r cv], .bool false]) (by simp [results, Tryz.results28, go_sem, u0, u1]) rfl HFZ.out
end longest
end
section
namespace longest
open Go.RowKit base ints sig term termOk marks app sym sub segs segsHelp termFacts varsOf shape kindsR kindsW ruleMath ruleSpec ruleImpl stepMath walkMath stepSpec stepImpl reachMath findW findSpec bySpec iter
set_option maxRecDepth 100000
theorem src_one {sg : List Int} {rs : List Rl} {n : Int} {t : List Int} : srcB sg rs n [t] = right9 sg rs t n := by
 unfold srcB right9 rightB
 simp only [List.all_cons, List.all_nil, Bool.and_true]
 rw [Bool.and_assoc, Bool.and_comm (stepsB n)]
theorem one_small {t : List Int} (h : t.length ≤ 1048576) : ∀ k, (([t] : List (List Int)).getD k []).length ≤ 1048576 := fun k => by
 cases k with
 | zero => exact h
 | succ k => simp
set_option maxHeartbeats 2000000 in
theorem implLongestOf (a v u : Value) (d : Dat sSystem) (t : List Int) (n : Int) (w : World) (h : Rd w w.heap.size sSystem [a, v] d) (ht : Rd w w.heap.size sI [u] t) (hz : sz sSystem d ≤ 1048576) (hz' : sz sI t ≤ 1048576) :
   Calls Tryz.prog 19 #[.agg #[a, v], u, .int .i64 n] w (AnsInt w (longI d.1 d.2 t n)) := by
 obtain ⟨T, m, c, rfl, hT, hcT⟩ := rd_ints.1 ht
 have htl : t.length ≤ 1048576 := by rwa [sz_ints] at hz'
 obtain ⟨W, hW, rA, rL, bel⟩ := box2 w 29 24 #[a, v] #[.slice T m c]
 have HW := Lib.hid hW
 have LS := Lib.hid (searchIn a v n (some ⟨w.heap.size + 1, 0, none⟩) 1 1 [t] d W (h.next bel) hz (rd_one rL rL.lt (ht.next bel)) (by omega) (one_small htl))
 rw [src_one] at LS
 have HH := Lib.hid (show Rd w w.heap.size sSystem [a, v] d ∧ Rd w w.heap.size sI [.slice T m c] t from ⟨h, ht⟩)
 clear hW h ht hT hcT rL
 cases ok : right9 d.1 d.2 t n with
 | false =>
   have HO := Lib.hid (show longI d.1 d.2 t n = -1 from by unfold longI; rw [if_neg (by rw [ok]; simp)])
   rw [ok] at LS
   clear ok
   go_enter Tryz.func19, Tryz.ntmps19
   go_wp2_with fail
   rw [← HW.out]
   refine LS.out.mono ?_
   rintro e w1 ⟨x1, x2, x3, y1, y2, y3, b, rfl, rfl, -, bb⟩
   have F := Lib.hid (show AnsInt w (longI d.1 d.2 t n) (.returned (.int .i64 (-1))) (w1.alloc (.cells #[.slice x1 x2 x3, .slice y1 y2 y3] 60)) from ⟨by rw [HO.out], (next_trans bel bb).alloc (next_trans bel bb).size _⟩)
   clear bb bel rA LS HW
   go_wp2
   go_ret
   exact F.out
 | true =>
   obtain ⟨q1, q2, q3⟩ := r9_parts ok
   obtain ⟨N, rfl⟩ : ∃ N : Nat, n = (N : Int) := ⟨n.toNat, by omega⟩
   have HO := Lib.hid (show longI d.1 d.2 t (N : Int) = lg d.1 d.2 (N + 1) [t] 0 from by unfold longI; rw [if_pos ok, Int.toNat_natCast])
   rw [ok] at LS
   have LL := Lib.hid (fun (w1 : World) (bb : Below w.heap.size w w1) => implLongest a v T m c N d t w1 (HH.out.1.next bb) (HH.out.2.next bb) hz q1 (by omega))
   clear ok q1 q2 q3
   go_enter Tryz.func19, Tryz.ntmps19
   go_wp2_with fail
   rw [← HW.out]
   refine LS.out.mono ?_
   rintro e w1 ⟨x1, x2, x3, y1, y2, y3, b, rfl, rfl, hxy, bb⟩
   obtain ⟨rfl, rfl⟩ := hxy rfl
   have b2 : Below w.heap.size w (w1.alloc (.cells #[.slice x1 x2 x3, .slice y1 y2 y3] 60)) := (next_trans bel bb).alloc (next_trans bel bb).size _
   have L2 := Lib.hid (LL.out _ b2)
   have B2 := Lib.hid b2
   clear bb bel rA LS HW LL b2 hxy
   go_wp2_with fail
   refine L2.out.mono ?_
   rintro e w2 ⟨rfl, bb⟩
   have F := Lib.hid (show AnsInt w (longI d.1 d.2 t (N : Int)) (.returned (.int .i64 (lg d.1 d.2 (N + 1) [t] 0))) w2 from ⟨by rw [HO.out], next_trans B2.out bb⟩)
   clear bb B2 L2
   go_wp2
   go_ret
   exact F.out
set_option maxHeartbeats 2000000 in
theorem implFiniteIn (a v u : Value) (d : Dat sSystem) (t : List Int) (n : Int) (w : World) (h : Rd w w.heap.size sSystem [a, v] d) (ht : Rd w w.heap.size sI [u] t) (hz : sz sSystem d ≤ 1048576) (hz' : sz sI t ≤ 1048576) :
   Calls Tryz.prog 21 #[.agg #[a, v], u, .int .i64 n] w (AnsB w (decide (longI d.1 d.2 t n ≠ -1))) := by
 obtain ⟨W, hW, rA, bel⟩ := box1 w 29 #[a, v]
 have HW := Lib.hid hW
 have LL := Lib.hid (implLongestOf a v u d t n W (h.next bel) (ht.next bel) hz hz')
 obtain ⟨R, hR⟩ : ∃ R, longI d.1 d.2 t n = R := ⟨_, rfl⟩
 rw [hR] at LL ⊢
 clear hW h ht hR
 by_cases hr : R = -1
 · subst hr
   go_enter Tryz.func21, Tryz.ntmps21
   go_wp2_with fail
   rw [← HW.out]
   refine LL.out.mono ?_
   rintro e w1 ⟨rfl, bb⟩
   have F := Lib.hid (ansB (b := decide ((-1 : Int) ≠ -1)) (a := false) (by decide) (next_trans bel bb))
   clear bb bel rA LL HW
   go_wp2
   go_ret
   exact F.out
 · have HR := Lib.hid hr
   have hb : (R != -1) = true := by simp [hr]
   go_enter Tryz.func21, Tryz.ntmps21
   go_wp2_with fail
   rw [← HW.out]
   refine LL.out.mono ?_
   rintro e w1 ⟨rfl, bb⟩
   have F := Lib.hid (ansB (b := decide (R ≠ -1)) (a := true) (by rw [decide_eq_true HR.out]) (next_trans bel bb))
   clear bb bel rA LL HW
   go_wp2
   go_ret
   first | exact F.out | simpa [hb] using F.out
end longest
end
section
namespace longX
open Go.RowKit base sig term marks app sym segs shape kindsR kindsW varsOf ruleMath ruleSpec stepMath walkMath stepSpec reachMath bySpec longest longSpec
end longX
end
end Go.Proofs.YtifckjchmjmhoabGreat
