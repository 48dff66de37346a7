/-
  MERGED: my texts Iter, NormImpl, WNormalIn, one behind the other, as they are. By an AI agent.
-/
import Derived.Test.YtmaamlnooepogaaMFnExactNormalIn7
import Derived.RangeFuncNested
import Derived.RangeFuncBound
import Derived.RangeFuncCalls
import Derived.RangeFuncLeaves
import Derived.Shelf.Abstract
import Derived.Shelf.RegionOpen
import Derived.WalkKit
import Derived.OwnWalkIn
import Derived.TacticsInMore
import Derived.LoopNIn
import Derived.LoopIn
import Derived.Deep.RegionHeld3
section
/-
  CONTRACTS: impl's (system).redexes, an iterator over two variables: it yields every redex in its order ('redL'), or a part, a round having said 'no more'. Conditions: the system and the term are valid, they read as data, at most 1048576 numbers. By an AI agent.
-/
namespace Go.Proofs.Ytmaamlnooepogaa.iter
open Go.RowKit Go.Shelf Go.Proofs.Ytmaamlnooepogaa.base Go.Proofs.Ytmaamlnooepogaa.ints Go.Proofs.Ytmaamlnooepogaa.sig Go.Proofs.Ytmaamlnooepogaa.term Go.Proofs.Ytmaamlnooepogaa.termOk Go.Proofs.Ytmaamlnooepogaa.endAt Go.Proofs.Ytmaamlnooepogaa.endOf Go.Proofs.Ytmaamlnooepogaa.marks Go.Proofs.Ytmaamlnooepogaa.app Go.Proofs.Ytmaamlnooepogaa.sym Go.Proofs.Ytmaamlnooepogaa.sub Go.Proofs.Ytmaamlnooepogaa.segs Go.Proofs.Ytmaamlnooepogaa.segsHelp Go.Proofs.Ytmaamlnooepogaa.matchMath Go.Proofs.Ytmaamlnooepogaa.matchSpec Go.Proofs.Ytmaamlnooepogaa.whole Go.Proofs.Ytmaamlnooepogaa.extended Go.Proofs.Ytmaamlnooepogaa.termFacts Go.Proofs.Ytmaamlnooepogaa.shape Go.Proofs.Ytmaamlnooepogaa.kindsR Go.Proofs.Ytmaamlnooepogaa.ruleMath Go.Proofs.Ytmaamlnooepogaa.ruleSpec Go.Proofs.Ytmaamlnooepogaa.stepMath Go.Proofs.Ytmaamlnooepogaa.walkMath Go.Proofs.Ytmaamlnooepogaa.stepSpec Go.Proofs.Ytmaamlnooepogaa.stepImpl
set_option maxRecDepth 100000
attribute [local go_sem] Oper.semAt_some

/-! ### what comes, in its order -/
def rowL (sg : List Int) (rs : List Rl) (t : List Int) (x k : Nat) : List (Nat × Nat) := (List.range k).filterMap fun r => if redB sg (rs.getD r ([], [])) t x = true then some (x, r) else none
def comeL (sg : List Int) (rs : List Rl) (t : List Int) (x : Nat) : List (Nat × Nat) := (List.range x).flatMap fun a => rowL sg rs t a rs.length
def redL (sg : List Int) (rs : List Rl) (t : List Int) : List (Nat × Nat) := comeL sg rs t t.length
section
variable {sg : List Int} {rs : List Rl} {t : List Int}
theorem row_yes {x k : Nat} (h : redB sg (rs.getD k ([], [])) t x = true) : rowL sg rs t x (k + 1) = rowL sg rs t x k ++ [(x, k)] := by unfold rowL; rw [List.range_succ, List.filterMap_append]; simp only [List.filterMap_cons, List.filterMap_nil, h, if_true]
theorem row_no {x k : Nat} (h : redB sg (rs.getD k ([], [])) t x = false) : rowL sg rs t x (k + 1) = rowL sg rs t x k := by unfold rowL; rw [List.range_succ, List.filterMap_append]; simp only [List.filterMap_cons, List.filterMap_nil, h, Bool.false_eq_true, if_false, List.append_nil]
theorem come_succ (x : Nat) : comeL sg rs t (x + 1) = comeL sg rs t x ++ rowL sg rs t x rs.length := by unfold comeL; rw [List.range_succ, List.flatMap_append]; simp
theorem come_pre {x y : Nat} (h : x ≤ y) : comeL sg rs t x <+: comeL sg rs t y := by
  induction y with
  | zero => obtain rfl : x = 0 := by omega
            exact List.prefix_rfl
  | succ y ih =>
    by_cases e : x = y + 1
    · subst e; exact List.prefix_rfl
    · exact (ih (by omega)).trans (by rw [come_succ]; exact List.prefix_append _ _)
theorem row_pre {x k q : Nat} (h : k ≤ q) : rowL sg rs t x k <+: rowL sg rs t x q := by
  induction q with
  | zero => obtain rfl : k = 0 := by omega
            exact List.prefix_rfl
  | succ q ih =>
    by_cases e : k = q + 1
    · subst e; exact List.prefix_rfl
    · refine (ih (by omega)).trans ?_
      cases hb : redB sg (rs.getD q ([], [])) t x with
      | false => rw [row_no hb]; exact List.prefix_rfl
      | true => rw [row_yes hb]; exact List.prefix_append _ _
theorem part_pre {x k : Nat} (hx : x < t.length) (hk : k ≤ rs.length) : comeL sg rs t x ++ rowL sg rs t x k <+: redL sg rs t := by
  refine List.IsPrefix.trans ?_ (come_pre (show x + 1 ≤ t.length by omega))
  rw [come_succ]
  exact (List.prefix_append_right_inj _).2 (row_pre hk)
theorem red_nil : redL sg rs t = [] ↔ ((List.range t.length).all fun a => rs.all fun x => !redB sg x t a) = true := by
  unfold redL comeL rowL
  rw [List.flatMap_eq_nil_iff, List.all_eq_true]
  refine forall_congr' fun a => forall_congr' fun _ => ?_
  rw [List.filterMap_eq_nil_iff, List.all_eq_true]
  constructor
  · intro h y hy
    obtain ⟨i, hi, rfl⟩ := List.getElem_of_mem hy
    have h1 := h i (List.mem_range.2 hi)
    have e : rs.getD i ([], []) = rs[i] := by simp only [List.getD, List.getElem?_eq_getElem hi, Option.getD_some]
    rw [e] at h1
    cases hb : redB sg rs[i] t a
    · rfl
    · rw [hb] at h1; simp at h1
  · intro h i hi
    have hi := List.mem_range.1 hi
    have e : rs.getD i ([], []) = rs[i] := by simp only [List.getD, List.getElem?_eq_getElem hi, Option.getD_some]
    have := h rs[i] (List.getElem_mem hi)
    rw [e, if_neg (by simpa using this)]
end

/-! ### a variable of the bindings' kind, in a walk within a fence -/
section
variable {P : Program} {n : Nat} {ops : Array Oper} {rest : List Oper} {o : Oper} {a : Act} {w : World} {Q : Exit → Act → World → Prop}
theorem rowAllocIn (hgd : o.guard = none) (t : TypeId) (ho : o.op = .alloc t) (z : Array Value) (hz : ∀ w, (zeroValue t).run P w = .ok (.agg z) w)
    (h : wpListIn Fence.wide n P ops Q rest (a.put o.dst (.pointer (some ⟨w.heap.size, 0, none⟩))) (w.alloc (.cells z t))) : wpListIn Fence.wide n P ops Q (o :: rest) a w :=
  wpListIn_plain hgd fun _ hK => by
    refine ⟨fun _ _ => trivial, ?_⟩
    show Oper.uponIn _ _ _ _ _ _ _ ((Oper.semAt none a.eval o).run P w)
    rw [Oper.semAt_none]
    unfold execOp
    simp only [ho, Instr.alloc, Sem.run_bind, hz, Result.andThen_ok, newVar, Value.cells]
    exact hK _ _ h
theorem rowStoreIn (hgd : o.guard = none) (ty : TypeId) (x y : Operand) (ho : o.op = .store ty x y) (g : Nat) (cells old : Array Value) (t : TypeId) (hx : a.eval x = .pointer (some ⟨g, 0, none⟩)) (hy : a.eval y = .agg cells)
    (hg : w.heap[g]? = some (.cells old t (0, 0))) (hi : (P.info? ty).map (·.size) = some cells.size) (hs : old.size = cells.size) (h1 : cells.all (·.oneCell') = true)
    (h : wpListIn Fence.wide n P ops Q rest (a.put o.dst undef) (w.setRow g cells)) : wpListIn Fence.wide n P ops Q (o :: rest) a w :=
  wpListIn_plain hgd fun _ hK => by
    refine ⟨fun _ _ => trivial, ?_⟩
    show Oper.uponIn _ _ _ _ _ _ _ ((Oper.semAt none a.eval o).run P w)
    rw [Oper.semAt_none]
    unfold execOp
    simp only [ho, hx, hy, Instr.storeAt, Instr.sureAddr, Sem.run_bind, Sem.run_pure, Result.andThen_ok, run_storeVar_row w g t ty old cells hg hi hs h1]
    exact hK _ _ h
end

set_option maxHeartbeats 4000000 in
theorem redexes_stops (n : Nat) (hn : 1 ≤ n) (B2 B3 n₀ : Nat) (a v u : Value) (d : Dat sSystem) (t : List Int) (w : World) (hn₀ : n₀ ≤ w.heap.size) (hB2 : B2 < n₀) (hB3 : B3 < n₀) (r2 : Row w B2 76 #[a, v]) (r3 : Row w B3 24 #[u])
    (h : Rd w n₀ sSystem [a, v] d) (ht : Rd w n₀ sI [u] t) (hz : sz sSystem d ≤ 1048576) (hok : rightB d.1 d.2 t = true) :
    SeqStopsK Fence.wide n Try.prog 100 #[.pointer (some ⟨B3, 0, none⟩), .pointer (some ⟨B2, 0, none⟩)] (fun x : Nat × Nat => #[Value.int .i64 (x.1 : Int), .int .i64 (x.2 : Int)]) (Below n₀) (fun ys => ys = redL d.1 d.2 t) (fun pre => pre ≠ [] ∧ pre <+: redL d.1 d.2 t) (redL d.1 d.2 t).length w := fun l J Jx W hW hJ hJx hY h0 => by
  have hWn := hW.mono hn₀
  replace r2 := r2.next hW
  replace r3 := r3.next hW
  replace h := h.below hWn
  replace ht := ht.below hWn
  have hsW : n₀ ≤ W.heap.size := Nat.le_trans hn₀ hW.size
  obtain ⟨A, m0, cs, V, q, cv, rfl, rfl, -, -, -, hq, -, hq1, -, -, -⟩ := rd_sys (h.more hsW) hz
  obtain ⟨T, m, c, rfl, hT, hcT⟩ := rd_ints.1 ht
  have htl : t.length = m := hT.1
  have hm60 : m ≤ 60 := by have := (term_len (right_parts hok).2).2; omega
  have hmx : m ≤ 1048576 := by omega
  have K3 : W.cell? ⟨B3, 0, none⟩ = some (.slice T m c) := r3.cell 0
  have HQ := Lib.hid hq
  have HTL := Lib.hid htl
  have LM := Lib.hid (fun (w1 : World) (bb : Below n₀ W w1) (x k : Nat) hx hk => matchAt _ _ _ d t x k w1 ((h.below bb).more (Nat.le_trans hsW bb.size)) ((ht.below bb).more (Nat.le_trans hsW bb.size)) hz hok hx hk)
  have HJ := Lib.hid hJ
  have HOK := Lib.hid (show (∀ k, k < d.2.length → ruleOkB d.1 (d.2.getD k ([], [])) = true) ∧ termOkB d.1 t = true from ⟨fun k hk => sys_rule (right_parts hok).1 hk, (right_parts hok).2⟩)
  have HR2 := Lib.hid r2
  have HR3 := Lib.hid r3
  clear hT hcT h ht hz hok hq htl hW hWn hn₀ r2 r3
  refine callsIn_of_wp Try.func100 rfl trivial ?_ rfl
  simp only [Try.ntmps100, List.size_toArray, List.length_cons, List.length_nil, Nat.reduceAdd, Nat.reduceSub, Array.replicate_succ, Array.replicate_zero, List.push_toArray, List.append_toArray, List.nil_append, List.cons_append]
  gi_wp2
  gi_loopw [10] (fun i wr => ∃ x : Nat, x ≤ m ∧ i = .int .i64 x ∧ J (comeL d.1 d.2 t x) wr ∧ Below n₀ W wr) (fun i _ => m - (intOf i).toNat)
  case atStart => exact ⟨0, Nat.zero_le _, rfl, h0, Below.refl _ _⟩
  case round =>
    obtain ⟨x, hx, rfl, hJx0, hB⟩ := hrel
    by_cases hlt : x < m
    · have K2 : wr.cell? ⟨B2, 1, none⟩ = some (.slice V q cv) := (HR2.out.below hB hB2).cell 1
      have hxm : (x : Int) < (m : Int) := by omega
      gi_wp2
      gi_loopw [16] (fun i wq => ∃ k : Nat, k ≤ q ∧ i = .int .i64 k ∧ J (comeL d.1 d.2 t x ++ rowL d.1 d.2 t x k) wq ∧ Below n₀ W wq) (fun i _ => q - (intOf i).toNat)
      case atStart => exact ⟨0, Nat.zero_le _, rfl, by simpa [rowL] using hJx0, hB⟩
      case round =>
        obtain ⟨k, hk, rfl, hJk, hBk⟩ := hrel
        have K20 : wr.cell? ⟨B2, 0, none⟩ = some (.slice A m0 cs) := (HR2.out.below hBk hB2).cell 0
        have K21 : wr.cell? ⟨B2, 1, none⟩ = some (.slice V q cv) := (HR2.out.below hBk hB2).cell 1
        have K30 : wr.cell? ⟨B3, 0, none⟩ = some (.slice T m c) := (HR3.out.below hBk hB3).cell 0
        by_cases hkq : k < q
        · have hkm : (k : Int) < (q : Int) := by omega
          have hxl : x < t.length := by rw [HTL.out]; exact hlt
          have hkl : k < d.2.length := by rw [HQ.out]; exact hkq
          have LM1 := Lib.hid (LM.out wr hBk x k hxl hkl)
          have HRED := Lib.hid (red_at (sg := d.1) (t := t) (a := x) (HOK.out.1 k hkl) HOK.out.2 hxl)
          obtain ⟨R, hR⟩ : ∃ R, mst d.1 t (d.2.getD k ([], [])).1 x s0 = R := ⟨_, rfl⟩
          rw [hR] at LM1 HRED
          clear hR
          have HJK := Lib.hid hJk
          have HBK := Lib.hid hBk
          clear hJk hBk
          gi_wp2_with (refine ⟨trivial, ?_⟩; gi_at_call 101; refine (callsIn_wide.2 LM1.out).mono ?_; rintro e w3 ⟨rs, rfl, tab, hsz, bb⟩; refine (?_ : Hid _).out)
          have one := Lib.hid tab.one
          have h24 := Lib.hid tab.1
          obtain ⟨bo, hbo⟩ : ∃ bo, R.isSome = bo := ⟨_, rfl⟩
          rw [hbo] at HRED ⊢
          have b2 : Below wr.heap.size wr (w3.alloc (.cells rs 133)) := bb.alloc bb.size _
          have hJ3 := HJ.out _ wr (w3.alloc (.cells rs 133)) none HJK.out (cursor.grown_below b2 none) (fun r e => by cases e)
          have hBn : Below n₀ W (w3.alloc (.cells rs 133)) := HBK.out.trans (b2.mono (Nat.le_trans hsW HBK.out.size))
          have hfull : comeL d.1 d.2 t x ++ rowL d.1 d.2 t x (k + 1) <+: redL d.1 d.2 t := part_pre hxl hkl
          clear tab hsz bb hbo LM1 b2 K20 K21 K30
          cases bo with
          | false =>
            have F := Lib.hid (show J (comeL d.1 d.2 t x ++ rowL d.1 d.2 t x (k + 1)) (w3.alloc (.cells rs 133)) ∧ Below n₀ W (w3.alloc (.cells rs 133)) from ⟨by rw [row_no HRED.out.symm]; exact hJ3, hBn⟩)
            clear hJ3 hBn hfull
            refine Lib.hid ?_
            gi_wp2_with (first
              | (refine rowAllocIn rfl 133 rfl z24 zero_b ?_)
              | (refine rowStoreIn rfl 133 _ _ rfl w3.heap.size rs z24 133 rfl rfl (heap_alloc_new w3 _) (by rw [h24.out]; exact size_b) (by rw [h24.out]; rfl) one.out ?_; rw [World.setRow_alloc_new]))
            refine ⟨fun _ h => (by cases h), ?_⟩
            gi_wp2
            go_roundw
            case rel => exact ⟨k + 1, by omega, by simp, F.out.1, F.out.2⟩
            case measure => simp [intOf]; omega
          | true =>
            have hyes := row_yes (rs := d.2) (x := x) (k := k) HRED.out.symm
            rw [hyes, ← List.append_assoc] at hfull
            have hlen : (comeL d.1 d.2 t x ++ rowL d.1 d.2 t x k).length < (redL d.1 d.2 t).length := by
              have := hfull.length_le
              rw [List.length_append, List.length_singleton] at this
              omega
            obtain ⟨fn, tmps, assign, body, hy, hR⟩ := hY _ (x, k) _ hJ3 hlen
            dsimp only at hy
            have HYES := Lib.hid hyes
            have HF := Lib.hid hfull
            clear hJ3 hyes hfull hlen hY
            refine Lib.hid ?_
            gi_wp2_with (first
              | (refine rowAllocIn rfl 133 rfl z24 zero_b ?_)
              | (refine rowStoreIn rfl 133 _ _ rfl w3.heap.size rs z24 133 rfl rfl (heap_alloc_new w3 _) (by rw [h24.out]; exact size_b) (by rw [h24.out]; rfl) one.out ?_; rw [World.setRow_alloc_new]))
            refine hR.mono ?_
            rintro e W3 (⟨rfl, hJ4, hk4⟩ | ⟨rfl, hJx4⟩)
            · have F := Lib.hid (show J (comeL d.1 d.2 t x ++ rowL d.1 d.2 t x (k + 1)) W3 ∧ Below n₀ W W3 from ⟨by rw [HYES.out, ← List.append_assoc]; exact hJ4, hBn.trans hk4⟩)
              clear hJ4 hk4 hBn
              gi_wp2
              go_roundw
              case rel => exact ⟨k + 1, by omega, by simp, F.out.1, F.out.2⟩
              case measure => simp [intOf]; omega
            · gi_wp2
              refine bodyPost_ret (results_none rfl _ _ _) rfl ?_
              exact ⟨⟨_, rfl⟩, .inr ⟨_, ⟨by simp, HF.out⟩, hJx4⟩⟩
        · obtain rfl : k = q := by omega
          gi_wp2
          go_roundw
          case rel => exact ⟨x + 1, by omega, by simp, by rw [come_succ, HQ.out]; exact hJk, hBk⟩
          case measure => simp [intOf]; omega
    · obtain rfl : x = m := by omega
      gi_wp2
      go_end0
      exact ⟨⟨_, rfl⟩, .inl ⟨_, by unfold redL; rw [HTL.out], hJx0⟩⟩
end Go.Proofs.Ytmaamlnooepogaa.iter
end

section
/-
  CONTRACTS: impl.NormalIn. Conditions: the arguments read as data ('Rd'), at most 1048576 numbers. By an AI agent.
-/
namespace Go.Proofs.Ytmaamlnooepogaa.iter
open Go.RowKit Go.Proofs.Ytmaamlnooepogaa.base Go.Proofs.Ytmaamlnooepogaa.ints Go.Proofs.Ytmaamlnooepogaa.sig Go.Proofs.Ytmaamlnooepogaa.term Go.Proofs.Ytmaamlnooepogaa.termOk Go.Proofs.Ytmaamlnooepogaa.endAt Go.Proofs.Ytmaamlnooepogaa.inside Go.Proofs.Ytmaamlnooepogaa.marks Go.Proofs.Ytmaamlnooepogaa.app Go.Proofs.Ytmaamlnooepogaa.sym Go.Proofs.Ytmaamlnooepogaa.sub Go.Proofs.Ytmaamlnooepogaa.segs Go.Proofs.Ytmaamlnooepogaa.segsHelp Go.Proofs.Ytmaamlnooepogaa.kinds Go.Proofs.Ytmaamlnooepogaa.termFacts Go.Proofs.Ytmaamlnooepogaa.matchMath Go.Proofs.Ytmaamlnooepogaa.whole Go.Proofs.Ytmaamlnooepogaa.takeMath Go.Proofs.Ytmaamlnooepogaa.take Go.Proofs.Ytmaamlnooepogaa.extended Go.Proofs.Ytmaamlnooepogaa.varsOf Go.Proofs.Ytmaamlnooepogaa.shape Go.Proofs.Ytmaamlnooepogaa.kindsR Go.Proofs.Ytmaamlnooepogaa.ruleMath Go.Proofs.Ytmaamlnooepogaa.ruleSpec Go.Proofs.Ytmaamlnooepogaa.ruleImpl Go.Proofs.Ytmaamlnooepogaa.stepMath Go.Proofs.Ytmaamlnooepogaa.walkMath Go.Proofs.Ytmaamlnooepogaa.stepSpec Go.Shelf Go.Proofs.Ytmaamlnooepogaa.stepImpl
set_option maxRecDepth 100000
attribute [local go_sem] Oper.semAt_some

theorem redexesFn (a v : Value) (T : Option Addr) (m c : Nat) (w : World) : Calls Try.prog 54 #[.agg #[a, v], .slice T m c] w fun e w' => e = .returned (.func (.func 100) #[] #[.pointer (some ⟨w.heap.size + 1, 0, none⟩), .pointer (some ⟨w.heap.size, 0, none⟩)]) ∧ w' = (w.alloc (.cells #[a, v] 76)).alloc (.cells #[.slice T m c] 24) := by
  have hmf : ∀ (fn : Fn) (first cap : Array Value) (w : World), (Instr.makeFunc fn first cap).run Try.prog w = .ok (.func fn first cap) w := fun _ _ _ _ => rfl
  go_enter Try.func54, Try.ntmps54
  go_wp2
  go_ret
  exact ⟨rfl, rfl⟩

set_option maxHeartbeats 4000000 in
theorem implNormalIn (a v u : Value) (d : Dat sSystem) (t : List Int) (w : World) (h : Rd w w.heap.size sSystem [a, v] d) (ht : Rd w w.heap.size sI [u] t) (hz : sz sSystem d ≤ 1048576) (hz' : sz sI t ≤ 1048576) :
    Calls Try.prog 15 #[.agg #[a, v], u] w (AnsB w (normalB d.1 d.2 t)) := by
  refine (callsIn_wide (n := 5)).1 ?_
  have h0 := h
  have ht0 := ht
  obtain ⟨T, m, c, rfl, hT, hcT⟩ := rd_ints.1 ht
  have hm := len_ints hT.1 hz'
  obtain ⟨A, n, cs, V, q, cv, rfl, rfl, hs, hc, hcv, hq, hn, hq1, hrs, hsg, hE⟩ := rd_sys h hz
  obtain ⟨W, hW, rA, rB, bel⟩ := box2 w 29 4 #[.slice A n cs, .slice V q cv] #[.bool false]
  have HW := Lib.hid hW
  have LS := Lib.hid (systemOf _ _ d W (h0.next bel) hz)
  have LT := Lib.hid (fun (w1 : World) (bb : Below w.heap.size w w1) => implTermOk A T n cs m c d.1 t w1 (hs.next bb) (hT.next bb) hn hm)
  have HH := Lib.hid (show Rd w w.heap.size sSystem [.slice A n cs, .slice V q cv] d ∧ Rd w w.heap.size sI [.slice T m c] t from ⟨h0, ht0⟩)
  clear hW h h0 ht ht0 hT hcT hs hc hcv hq hrs hsg hE
  cases ok : sysOkB d.1 d.2 with
  | false =>
    have HS := Lib.hid ok
    rw [ok] at LS
    have LS := Lib.hid (show Calls Try.prog 50 #[.agg #[.slice A n cs, .slice V q cv]] W (fun e w' => e = .returned (.tuple #[.agg #[.slice none 0 0, .slice none 0 0], .bool false]) ∧ Below W.heap.size W w') from LS.out)
    clear ok
    refine callsIn_of_wp_marks Try.func15 rfl trivial ?_ rfl
    simp only [Try.ntmps15, List.size_toArray, List.length_cons, List.length_nil, Nat.reduceAdd, Nat.reduceSub, Array.replicate_succ, Array.replicate_zero, List.push_toArray, List.append_toArray, List.nil_append, List.cons_append]
    gi_wp2_with (refine ⟨trivial, ?_⟩; gi_at_call 50; rw [← HW.out]; refine (callsIn_wide.2 LS.out).mono ?_; rintro e w1 ⟨rfl, bb⟩; refine (?_ : Hid _).out)
    have b1 := next_trans bel bb
    have rB1 := rB.next bb
    clear rA bb bel rB LS
    have b2 : Below w.heap.size w (w1.alloc (.cells #[.slice none 0 0, .slice none 0 0] 76)) := b1.alloc b1.size _
    have y1 : (w1.alloc (.cells #[.slice none 0 0, .slice none 0 0] 76)).cell? ⟨w.heap.size + 1, 0, none⟩ = some (.bool false) := (rB1.alloc _).cell 0
    have g1 := (rB1.alloc (.cells #[.slice none 0 0, .slice none 0 0] 76)).free 0
    have rb := (rB1.alloc (.cells #[.slice none 0 0, .slice none 0 0] 76)).put 0 (.bool false)
    have u0 : ((w1.alloc (.cells #[.slice none 0 0, .slice none 0 0] 76)).setCell ⟨w.heap.size + 1, 0, none⟩ (.bool false)).cell? ⟨w.heap.size + 1, 0, none⟩ = some (.bool false) := rb.cell 0
    have F := Lib.hid (show AnsB w (normalB d.1 d.2 t) (.returned (.bool false)) ((w1.alloc (.cells #[.slice none 0 0, .slice none 0 0] 76)).setCell ⟨w.heap.size + 1, 0, none⟩ (.bool false)) from ansB (by unfold normalB rightB; rw [HS.out]; rfl) (b2.setCell (show w.heap.size ≤ w.heap.size + 1 by omega) _))
    clear b1 b2 rb rB1
    refine Lib.hid ?_
    gi_wp2
    refine ⟨trivial, ?_⟩
    gi_wp2
    exact ⟨.bool false, by simp [results, Try.results15, go_sem, u0], F.out⟩
  | true =>
    have HS := Lib.hid ok
    rw [ok] at LS
    have LS := Lib.hid (show Calls Try.prog 50 #[.agg #[.slice A n cs, .slice V q cv]] W (fun e w' => e = .returned (.tuple #[.agg #[.slice A n cs, .slice V q cv], .bool true]) ∧ Below W.heap.size W w') from LS.out)
    clear ok
    refine callsIn_of_wp_marks Try.func15 rfl trivial ?_ rfl
    simp only [Try.ntmps15, List.size_toArray, List.length_cons, List.length_nil, Nat.reduceAdd, Nat.reduceSub, Array.replicate_succ, Array.replicate_zero, List.push_toArray, List.append_toArray, List.nil_append, List.cons_append]
    gi_wp2_with (refine ⟨trivial, ?_⟩; gi_at_call 50; rw [← HW.out]; refine (callsIn_wide.2 LS.out).mono ?_; rintro e w1 ⟨rfl, bb⟩; refine (?_ : Hid _).out)
    have b1 := next_trans bel bb
    have rB1 := rB.next bb
    clear rA bb bel rB LS
    have b2 : Below w.heap.size w (w1.alloc (.cells #[.slice A n cs, .slice V q cv] 76)) := b1.alloc b1.size _
    have rB2 := rB1.alloc (.cells #[.slice A n cs, .slice V q cv] 76)
    have rS2 := Row.new w1 76 #[.slice A n cs, .slice V q cv]
    have LT1 := Lib.hid (LT.out _ b2)
    cases okt : termOkB d.1 t with
    | false =>
      have HT := Lib.hid okt
      have LT1 := Lib.hid (show Calls Try.prog 51 #[.agg #[.slice A n cs], .slice T m c] (w1.alloc (.cells #[.slice A n cs, .slice V q cv] 76)) (fun e w' => e = .returned (.bool false) ∧ Below (w1.alloc (.cells #[.slice A n cs, .slice V q cv] 76)).heap.size (w1.alloc (.cells #[.slice A n cs, .slice V q cv] 76)) w') from by have := LT1.out; unfold AnsTerm at this; rw [okt] at this; exact this)
      clear okt b1 rB1
      refine Lib.hid ?_
      gi_wp2
      refine ⟨trivial, ?_⟩
      refine (callsIn_wide.2 LT1.out).mono ?_
      rintro e w2 ⟨rfl, bb⟩
      have b3 := next_trans b2 bb
      have rB3 := rB2.next bb
      have y1 : w2.cell? ⟨w.heap.size + 1, 0, none⟩ = some (.bool false) := rB3.cell 0
      have g1 := rB3.free 0
      have u0 : (w2.setCell ⟨w.heap.size + 1, 0, none⟩ (.bool false)).cell? ⟨w.heap.size + 1, 0, none⟩ = some (.bool false) := (rB3.put 0 (.bool false)).cell 0
      have F := Lib.hid (show AnsB w (normalB d.1 d.2 t) (.returned (.bool false)) (w2.setCell ⟨w.heap.size + 1, 0, none⟩ (.bool false)) from ansB (by unfold normalB rightB; rw [HT.out, Bool.and_false]; rfl) (b3.setCell (show w.heap.size ≤ w.heap.size + 1 by omega) _))
      clear b2 b3 rB2 rB3 bb rS2 LT1 LT
      gi_wp2
      exact ⟨.bool false, by simp [results, Try.results15, go_sem, u0], F.out⟩
    | true =>
      have HT := Lib.hid okt
      have LT1 := Lib.hid (show Calls Try.prog 51 #[.agg #[.slice A n cs], .slice T m c] (w1.alloc (.cells #[.slice A n cs, .slice V q cv] 76)) (fun e w' => e = .returned (.bool true) ∧ Below (w1.alloc (.cells #[.slice A n cs, .slice V q cv] 76)).heap.size (w1.alloc (.cells #[.slice A n cs, .slice V q cv] 76)) w') from by have := LT1.out; unfold AnsTerm at this; rw [okt] at this; exact this)
      clear okt b1 rB1
      refine Lib.hid ?_
      gi_wp2
      refine ⟨trivial, ?_⟩
      refine (callsIn_wide.2 LT1.out).mono ?_
      rintro e w2 ⟨rfl, bb⟩
      have b3 := next_trans b2 bb
      have rB3 := rB2.next bb
      have rS3 := rS2.next bb
      have k0 : w2.cell? ⟨w1.heap.size, 0, none⟩ = some (.slice A n cs) := rS3.cell 0
      have k1 : w2.cell? ⟨w1.heap.size, 1, none⟩ = some (.slice V q cv) := rS3.cell 1
      clear b2 rB2 bb rS2 LT1 LT
      gi_wp2_with (refine ⟨trivial, ?_⟩; gi_at_call 54; refine (callsIn_wide.2 (redexesFn (.slice A n cs) (.slice V q cv) T m c w2)).mono ?_; rintro e w3 ⟨rfl, hw3⟩; subst hw3)
      obtain ⟨W3, hW3, r4, r5, b34⟩ := box2 w2 76 24 #[.slice A n cs, .slice V q cv] #[.slice T m c]
      have b4 := next_trans b3 b34
      have rB4 := rB3.next b34
      have z3 : w2.heap.size + 1 < W3.heap.size := r5.lt
      have hR : rightB d.1 d.2 t = true := by unfold rightB; rw [HS.out, HT.out]; rfl
      rw [← hW3]
      have HSTOPS := redexes_stops 4 (by decide) w2.heap.size (w2.heap.size + 1) W3.heap.size (.slice A n cs) (.slice V q cv) (.slice T m c) d t W3 (Nat.le_refl _) (by omega) z3 r4 r5 (HH.out.1.next b4) (HH.out.2.next b4) hz hR
      clear hW3 r4 r5 b34 rB3 rS3 k0 k1 b3 HH
      refine wpIn_rangeFunc_ownF rfl (by decide) (gf := 100) (lb := #[.pointer (some ⟨w2.heap.size + 1, 0, none⟩), .pointer (some ⟨w2.heap.size, 0, none⟩)]) rfl trivial (enters_of Try.func100 (by kernel_rfl) rfl)
        HSTOPS belowK_t (belowK_b (Nat.le_refl _)) (Below.refl _ _) (fun _ => rfl)
        (fun pre W' => (pre = [] ∧ W'.cell? ⟨w.heap.size + 1, 0, none⟩ = some (.bool false) ∧ W'.frozen? ⟨w.heap.size + 1, 0, none⟩ = false) ∧ Below w.heap.size w W')
        (fun cc pre W' => (cc = .ret ∧ W'.cell? ⟨w.heap.size + 1, 0, none⟩ = some (.bool false)) ∧ Below w.heap.size w W')
        (OwnFrom.and (Own.from (fun s A B row hs hg hr => ⟨hs.1, cell_kept hs.2.1 hg hr, (frozen_kept hs.2.1 hg hr).trans hs.2.2⟩) _) (ownFrom_below (Nat.le_refl _) b4.size))
        (fun cc => OwnFrom.and (Own.from (fun s A B row hs hg hr => ⟨hs.1, cell_kept hs.2 hg hr⟩) _) (ownFrom_below (Nat.le_refl _) b4.size))
        ⟨⟨rfl, rB4.cell 0, rB4.free 0⟩, b4⟩
        (fun x => { tmps := #[.agg #[.slice A n cs, .slice V q cv], .slice T m c, .pointer (some ⟨w.heap.size, 0, none⟩), undef, .pointer (some ⟨w.heap.size + 1, 0, none⟩), .pointer (some ⟨w1.heap.size, 0, none⟩), .bool true, .tuple #[.agg #[.slice A n cs, .slice V q cv], .bool true], .agg #[.slice A n cs, .slice V q cv], .tuple #[.agg #[.slice A n cs, .slice V q cv], .bool true], .agg #[.slice A n cs, .slice V q cv], .bool true, .bool true, .bool false, .bool false, .pointer (some ⟨w1.heap.size, 0, none⟩), .agg #[.slice A n cs], .slice T m c, .bool true, .bool false, .bool false, .agg #[.slice A n cs, .slice V q cv], .slice T m c, .func (.func 100) #[] #[.pointer (some ⟨w2.heap.size + 1, 0, none⟩), .pointer (some ⟨w2.heap.size, 0, none⟩)], .int .i64 (x.1 : Int), .int .i64 (x.2 : Int)], defers := [] }) ?assign ?body ?done ?stop
      case assign =>
        intro l x W' K hK
        gi_wp2
        first | exact hK | simpa using hK
      case body =>
        rintro l pre x W' ⟨⟨hp, hc, hf⟩, hB⟩ _
        gi_wp2
        exact ⟨KeepsOthers.setCell _ _ _, ⟨rfl, World.cell?_setCell_same' _ _ _ (by rw [hc]; rfl)⟩, hB.setCell (p := ⟨w.heap.size + 1, 0, none⟩) (by simp) _⟩
      case done =>
        rintro D ys W' hD rfl ⟨⟨hp, hc, hf⟩, hB⟩ hK
        have hN : normalB d.1 d.2 t = true := by unfold normalB; rw [hR, red_nil.1 hp]; rfl
        have hDw : w.heap.size ≤ D := Nat.le_trans b4.size hD
        gi_wp2
        have hK' := (KeepsOthers.setCell W' ⟨w.heap.size + 1, 0, none⟩ (.bool true)).same D _ hK rfl
        refine ⟨by simp, .inl ⟨_, _, rfl, run_takeDeferred hK', ?_⟩⟩
        have hc5 := cell_kept (World.cell?_setCell_same' W' ⟨w.heap.size + 1, 0, none⟩ (.bool true) (by rw [hc]; rfl)) (grownBy_putObj' _ D (.deferred none)) (fun r e => by cases e; exact ⟨_, hK', rfl⟩)
        refine ⟨.bool true, ?_, ansB hN.symm ((hB.setCell (p := ⟨w.heap.size + 1, 0, none⟩) (by simp) _).trans (belowK_b (w := w) (Nat.le_refl _) _ D _ _ hDw hK' rfl rfl))⟩
        simp [results, Try.results15, go_sem, hc5]
      case stop =>
        rintro D cc pre W' hD ⟨hne, hpre⟩ ⟨⟨rfl, hc⟩, hB⟩ hK
        have hN : normalB d.1 d.2 t = false := by
          cases hb : normalB d.1 d.2 t with
          | false => rfl
          | true =>
            unfold normalB at hb
            rw [hR, Bool.true_and] at hb
            rw [red_nil.2 hb] at hpre
            exact absurd (List.prefix_nil.1 hpre) hne
        have hDw : w.heap.size ≤ D := Nat.le_trans b4.size hD
        gi_wp2
        refine ⟨by simp, .inl ⟨_, _, rfl, run_takeDeferred hK, ?_⟩⟩
        have hc5 := cell_kept hc (grownBy_putObj' _ D (.deferred none)) (fun r e => by cases e; exact ⟨_, hK, rfl⟩)
        refine ⟨.bool false, ?_, ansB hN.symm (hB.trans (belowK_b (w := w) (Nat.le_refl _) W' D _ _ hDw hK rfl rfl))⟩
        simp [results, Try.results15, go_sem, hc5]
end Go.Proofs.Ytmaamlnooepogaa.iter
end

section
/-
  THE WALK of laws.FnExactNormalIn: it returns true, whatever the arguments, and writes nothing that was there. Conditions: the arguments read as data. Written by a program of mine (gen_x.py). By an AI agent.
-/
namespace Go.Proofs.Ytmaamlnooepogaa.wNormalIn
open Go.RowKit Go.Proofs.Ytmaamlnooepogaa.base Go.Proofs.Ytmaamlnooepogaa.ints Go.Proofs.Ytmaamlnooepogaa.sig Go.Proofs.Ytmaamlnooepogaa.cursor Go.Proofs.Ytmaamlnooepogaa.marks Go.Proofs.Ytmaamlnooepogaa.app Go.Proofs.Ytmaamlnooepogaa.sym Go.Proofs.Ytmaamlnooepogaa.appAt Go.Proofs.Ytmaamlnooepogaa.segs Go.Proofs.Ytmaamlnooepogaa.segsHelp Go.Proofs.Ytmaamlnooepogaa.segsMark Go.Proofs.Ytmaamlnooepogaa.kinds Go.Proofs.Ytmaamlnooepogaa.shape Go.Proofs.Ytmaamlnooepogaa.varsOf Go.Proofs.Ytmaamlnooepogaa.kindsR Go.Proofs.Ytmaamlnooepogaa.ruleMath Go.Proofs.Ytmaamlnooepogaa.ruleSpec Go.Proofs.Ytmaamlnooepogaa.stepMath Go.Proofs.Ytmaamlnooepogaa.walkMath Go.Proofs.Ytmaamlnooepogaa.stepSpec Go.Proofs.Ytmaamlnooepogaa.iter
set_option maxRecDepth 100000

set_option maxHeartbeats 8000000 in
theorem law (v0_0 v0_1 : Value) (d0 : Dat sSystem) (a1 : Option Addr) (n1 c1 : Nat) (d1 : List Int) (w : World) (s0 : Rd w w.heap.size sSystem [v0_0, v0_1] d0) (s1 : Rd w w.heap.size sI [.slice a1 n1 c1] d1) :
    Calls Try.prog 7 #[.agg #[v0_0, v0_1], .slice a1 n1 c1] w (Fine w) := by
  have Hl1 := Lib.hid s1.seg.1
  have cp1 := (by obtain ⟨A, c, ec, hc⟩ := s1.slice; injection ec with e1 e2 e3; subst e1 e2 e3; exact hc : Cap a1 n1 c1)
  have hN1 : n1 ≤ 9223372036854775807 := Nat.le_trans cp1.1 cp1.2.1
  clear cp1
  obtain ⟨W, hW⟩ : ∃ W, W = w.alloc (.cells #[v0_0, v0_1] 45) := ⟨_, rfl⟩
  have rA0 : Row W (w.heap.size) 45 #[v0_0, v0_1] := by rw [hW]; have := Row.new (w) 45 #[v0_0, v0_1]; simpa using this
  have bW : Below w.heap.size w W := by rw [hW]; exact (Below.refl w.heap.size w).alloc (by simp) (.cells #[v0_0, v0_1] 45)
  have zA0 := rA0.lt
  replace s0 := s0.next bW
  replace s1 := s1.next bW
  have HW := Lib.hid hW
  clear hW
  obtain ⟨t0, ht0⟩ : ∃ z, sz sSystem d0 = z := ⟨_, rfl⟩
  have HT0 := Lib.hid ht0
  clear ht0
  obtain ⟨v, hv⟩ : ∃ v, normalB d0.1 d0.2 d1 = v := ⟨_, rfl⟩
  have HV := Lib.hid hv
  clear hv
  have ev : (v != v) = false := by simp
  by_cases h1 : n1 ≤ 1048576
  case neg =>
    go_enter Try.func7, Try.ntmps7
    go_wp2_with fail
    rw [← HW.out]
    go_ret
    exact ⟨rfl, bW⟩
  have hi1 : Hid (sz sI d1 ≤ 1048576) := Lib.hid (by rw [sz_ints, Hl1.out]; exact h1)
  have hn1 := h1
  clear h1
  have h1 := hi1
  clear hi1
  go_enter Try.func7, Try.ntmps7
  go_wp2_with fail
  rw [← HW.out]
  clear HW
  have bel := Below.refl W.heap.size W
  have cA0_0 : W.cell? ⟨w.heap.size, 0, none⟩ = some (v0_0) := (rA0.next bel).cell 0
  have cA0_1 : W.cell? ⟨w.heap.size, 1, none⟩ = some (v0_1) := (rA0.next bel).cell 1
  refine (szK_System _ _ d0 (1048576) _ (s0.next bel) (by omega) (by omega)).mono ?_
  rintro e w1 ⟨he, bb⟩
  rw [HT0.out] at he
  replace bel := next_trans bel bb
  have zw1 := bb.size
  clear bb
  by_cases q0 : t0 ≤ 1048576
  case neg =>
    rw [if_pos (by omega)] at he
    subst he
    have F := Lib.hid (bW.trans (bel.mono bW.size))
    clear bel bW cA0_0 cA0_1
    go_wp2
    go_ret
    exact ⟨rfl, F.out⟩
  rw [if_neg (by omega)] at he
  subst he
  have h0 : Hid (sz sSystem d0 ≤ 1048576) := Lib.hid (by rw [HT0.out]; omega)
  clear cA0_0 cA0_1
  have cA0_0 : w1.cell? ⟨w.heap.size, 0, none⟩ = some (v0_0) := (rA0.next bel).cell 0
  have cA0_1 : w1.cell? ⟨w.heap.size, 1, none⟩ = some (v0_1) := (rA0.next bel).cell 1
  go_wp2_with fail
  refine (toK_System _ _ d0 _ (s0.next bel) h0.out).mono ?_
  rintro e w2 ⟨p0A0, p0n0, p0c0, p0A1, p0n1, p0c1, rfl, op0, bb⟩
  replace bel := next_trans bel bb
  have zw2 := bb.size
  clear bb
  clear cA0_0 cA0_1
  have cA0_0 : w2.cell? ⟨w.heap.size, 0, none⟩ = some (v0_0) := (rA0.next bel).cell 0
  have cA0_1 : w2.cell? ⟨w.heap.size, 1, none⟩ = some (v0_1) := (rA0.next bel).cell 1
  go_wp2_with fail
  refine (toK_ints _ d1 _ (s1.next bel) h1.out).mono ?_
  rintro e w3 ⟨p1A0, p1n0, p1c0, rfl, op1, bb⟩
  replace op0 := op0.next bb
  replace bel := next_trans bel bb
  have zw3 := bb.size
  clear bb
  clear cA0_0 cA0_1
  have cA0_0 : w3.cell? ⟨w.heap.size, 0, none⟩ = some (v0_0) := (rA0.next bel).cell 0
  have cA0_1 : w3.cell? ⟨w.heap.size, 1, none⟩ = some (v0_1) := (rA0.next bel).cell 1
  go_wp2_with fail
  refine (specNormalIn _ _ _ d0 d1 _ op0.rd op1.rd h0.out h1.out).mono ?_
  rintro e w4 ⟨he, bb⟩
  rw [HV.out] at he
  subst he
  replace op0 := op0.next bb
  replace op1 := op1.next bb
  replace bel := next_trans bel bb
  have zw4 := bb.size
  clear bb
  clear op0 op1
  clear cA0_0 cA0_1
  have cA0_0 : w4.cell? ⟨w.heap.size, 0, none⟩ = some (v0_0) := (rA0.next bel).cell 0
  have cA0_1 : w4.cell? ⟨w.heap.size, 1, none⟩ = some (v0_1) := (rA0.next bel).cell 1
  clear cA0_0 cA0_1
  have cA0_0 : w4.cell? ⟨w.heap.size, 0, none⟩ = some (v0_0) := (rA0.next bel).cell 0
  have cA0_1 : w4.cell? ⟨w.heap.size, 1, none⟩ = some (v0_1) := (rA0.next bel).cell 1
  go_wp2_with fail
  refine (toK_System _ _ d0 _ (s0.next bel) h0.out).mono ?_
  rintro e w5 ⟨x0A0, x0n0, x0c0, x0A1, x0n1, x0c1, rfl, ox0, bb⟩
  replace bel := next_trans bel bb
  have zw5 := bb.size
  clear bb
  clear cA0_0 cA0_1
  have cA0_0 : w5.cell? ⟨w.heap.size, 0, none⟩ = some (v0_0) := (rA0.next bel).cell 0
  have cA0_1 : w5.cell? ⟨w.heap.size, 1, none⟩ = some (v0_1) := (rA0.next bel).cell 1
  have dA0_0 : (w5.alloc (.cells #[.slice x0A0 x0n0 x0c0, .slice x0A1 x0n1 x0c1] 29)).cell? ⟨w.heap.size, 0, none⟩ = some (v0_0) := ((rA0.next bel).alloc _).cell 0
  have dA0_1 : (w5.alloc (.cells #[.slice x0A0 x0n0 x0c0, .slice x0A1 x0n1 x0c1] 29)).cell? ⟨w.heap.size, 1, none⟩ = some (v0_1) := ((rA0.next bel).alloc _).cell 1
  go_wp2_with fail
  obtain ⟨w6, hw⟩ : ∃ W, W = w5.alloc (.cells #[.slice x0A0 x0n0 x0c0, .slice x0A1 x0n1 x0c1] 29) := ⟨_, rfl⟩
  rw [← hw]
  have rx0 : Row w6 w5.heap.size 29 #[.slice x0A0 x0n0 x0c0, .slice x0A1 x0n1 x0c1] := by rw [hw]; exact Row.new _ _ _
  have bb : Below w5.heap.size w5 w6 := by rw [hw]; exact (Below.refl _ _).alloc (Nat.le_refl _) _
  have yrx0 : w5.heap.size < w6.heap.size := by rw [hw]; simp
  clear hw
  replace ox0 := ox0.next bb
  replace bel := next_trans bel bb
  have zw6 := bb.size
  clear bb
  clear dA0_0 dA0_1
  clear cA0_0 cA0_1
  have cA0_0 : w6.cell? ⟨w.heap.size, 0, none⟩ = some (v0_0) := (rA0.next bel).cell 0
  have cA0_1 : w6.cell? ⟨w.heap.size, 1, none⟩ = some (v0_1) := (rA0.next bel).cell 1
  have cx0_0 : w6.cell? ⟨w5.heap.size, 0, none⟩ = some (.slice x0A0 x0n0 x0c0) := (rx0).cell 0
  have cx0_1 : w6.cell? ⟨w5.heap.size, 1, none⟩ = some (.slice x0A1 x0n1 x0c1) := (rx0).cell 1
  refine (toK_ints _ d1 _ (s1.next bel) h1.out).mono ?_
  rintro e w7 ⟨x1A0, x1n0, x1c0, rfl, ox1, bb⟩
  replace ox0 := ox0.next bb
  replace rx0 := rx0.next bb
  replace bel := next_trans bel bb
  have zw7 := bb.size
  clear bb
  clear cA0_0 cA0_1 cx0_0 cx0_1
  have cA0_0 : w7.cell? ⟨w.heap.size, 0, none⟩ = some (v0_0) := (rA0.next bel).cell 0
  have cA0_1 : w7.cell? ⟨w.heap.size, 1, none⟩ = some (v0_1) := (rA0.next bel).cell 1
  have cx0_0 : w7.cell? ⟨w5.heap.size, 0, none⟩ = some (.slice x0A0 x0n0 x0c0) := (rx0).cell 0
  have cx0_1 : w7.cell? ⟨w5.heap.size, 1, none⟩ = some (.slice x0A1 x0n1 x0c1) := (rx0).cell 1
  go_wp2_with fail
  refine (implNormalIn _ _ _ d0 d1 _ ox0.rd ox1.rd h0.out h1.out).mono ?_
  rintro e w8 ⟨he, bb⟩
  rw [HV.out] at he
  subst he
  replace ox0 := ox0.next bb
  replace rx0 := rx0.next bb
  replace ox1 := ox1.next bb
  replace bel := next_trans bel bb
  have zw8 := bb.size
  clear bb
  clear cA0_0 cA0_1 cx0_0 cx0_1
  have cA0_0 : w8.cell? ⟨w.heap.size, 0, none⟩ = some (v0_0) := (rA0.next bel).cell 0
  have cA0_1 : w8.cell? ⟨w.heap.size, 1, none⟩ = some (v0_1) := (rA0.next bel).cell 1
  have cx0_0 : w8.cell? ⟨w5.heap.size, 0, none⟩ = some (.slice x0A0 x0n0 x0c0) := (rx0).cell 0
  have cx0_1 : w8.cell? ⟨w5.heap.size, 1, none⟩ = some (.slice x0A1 x0n1 x0c1) := (rx0).cell 1
  go_wp2_with fail
  replace ox0 := ox0.drew
  replace rx0 := rx0.drew
  replace ox1 := ox1.drew
  replace bel := bel.drew
  have zdw8 := (drew_below w8).size
  go_region_held3 (fun w' => w'.cell? ⟨w5.heap.size, 0, none⟩ = some (.slice x0A0 x0n0 x0c0) ∧ w'.cell? ⟨w5.heap.size, 1, none⟩ = some (.slice x0A1 x0n1 x0c1) ∧ w'.cell? ⟨w.heap.size, 0, none⟩ = some (v0_0) ∧ w'.cell? ⟨w.heap.size, 1, none⟩ = some (v0_1))
    (go_keep)
    (first
      | (go_at_call 24; refine (toK_System _ _ d0 _ (s0.next bel) h0.out).mono ?_; rintro e w9 ⟨t0A0, t0n0, t0c0, t0A1, t0n1, t0c1, rfl, ot, bb⟩; replace ox0 := ox0.next bb; replace rx0 := rx0.next bb; replace ox1 := ox1.next bb; replace bel := next_trans bel bb; have k0_0w9 : w9.cell? ⟨w.heap.size, 0, none⟩ = some (v0_0) := (rA0.next bel).cell 0; have k0_1w9 : w9.cell? ⟨w.heap.size, 1, none⟩ = some (v0_1) := (rA0.next bel).cell 1; have l0_0w9 : w9.cell? ⟨w5.heap.size, 0, none⟩ = some (.slice x0A0 x0n0 x0c0) := rx0.cell 0; have l0_1w9 : w9.cell? ⟨w5.heap.size, 1, none⟩ = some (.slice x0A1 x0n1 x0c1) := rx0.cell 1; have zqw9 := bb.size; clear bb)
      | (go_at_call 26; refine (eqK_System _ _ _ _ d0 _ ox0.rd ot.rd h0.out).mono ?_; rintro e w10 ⟨rfl, bb⟩; replace ox0 := ox0.next bb; replace rx0 := rx0.next bb; replace ox1 := ox1.next bb; replace bel := next_trans bel bb; have k0_0w10 : w10.cell? ⟨w.heap.size, 0, none⟩ = some (v0_0) := (rA0.next bel).cell 0; have k0_1w10 : w10.cell? ⟨w.heap.size, 1, none⟩ = some (v0_1) := (rA0.next bel).cell 1; have l0_0w10 : w10.cell? ⟨w5.heap.size, 0, none⟩ = some (.slice x0A0 x0n0 x0c0) := rx0.cell 0; have l0_1w10 : w10.cell? ⟨w5.heap.size, 1, none⟩ = some (.slice x0A1 x0n1 x0c1) := rx0.cell 1; have zqw10 := bb.size; clear bb ot))
  clear k0_0w9 l0_0w9 k0_1w9 l0_1w9 k0_0w10 l0_0w10 k0_1w10 l0_1w10
  clear ox0 rx0
  clear cA0_0 cA0_1 cx0_0 cx0_1
  have cA0_0 : w10.cell? ⟨w.heap.size, 0, none⟩ = some (v0_0) := (rA0.next bel).cell 0
  have cA0_1 : w10.cell? ⟨w.heap.size, 1, none⟩ = some (v0_1) := (rA0.next bel).cell 1
  go_wp2_with fail
  refine (toK_ints _ d1 _ (s1.next bel) h1.out).mono ?_
  rintro e w11 ⟨t1A0, t1n0, t1c0, rfl, ot1, bb⟩
  replace ox1 := ox1.next bb
  replace bel := next_trans bel bb
  have zw11 := bb.size
  clear bb
  clear cA0_0 cA0_1
  have cA0_0 : w11.cell? ⟨w.heap.size, 0, none⟩ = some (v0_0) := (rA0.next bel).cell 0
  have cA0_1 : w11.cell? ⟨w.heap.size, 1, none⟩ = some (v0_1) := (rA0.next bel).cell 1
  go_wp2_with fail
  refine (eqK_ints _ _ d1 _ ox1.rd ot1.rd h1.out).mono ?_
  rintro e w12 ⟨rfl, bb⟩
  replace ox1 := ox1.next bb
  replace ot1 := ot1.next bb
  replace bel := next_trans bel bb
  have zw12 := bb.size
  clear bb
  clear ot1 ox1
  clear cA0_0 cA0_1
  have cA0_0 : w12.cell? ⟨w.heap.size, 0, none⟩ = some (v0_0) := (rA0.next bel).cell 0
  have cA0_1 : w12.cell? ⟨w.heap.size, 1, none⟩ = some (v0_1) := (rA0.next bel).cell 1
  have F := Lib.hid (bW.trans (bel.mono bW.size))
  clear bel bW cA0_0 cA0_1
  go_wp2
  go_ret
  exact ⟨rfl, F.out⟩
end Go.Proofs.Ytmaamlnooepogaa.wNormalIn
end
