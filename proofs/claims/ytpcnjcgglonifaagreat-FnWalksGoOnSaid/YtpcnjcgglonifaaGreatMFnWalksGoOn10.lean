/-
  MERGED: my texts Iter, NormImpl, RangeGive, RangePre, StepsIter, SeqImpl, SeqImplB, SeqX, DrawW, DrawL7W, DrawL7X, one behind the other, as they are. By an AI agent.
-/
import Derived.Test.YtpcnjcgglonifaaGreatMFnWalksGoOn9
import Derived.RangeFuncNested
import Derived.RangeFuncBound
import Derived.RangeFuncCalls
import Derived.RangeFuncLeaves
import Derived.Shelf.Abstract
import Derived.Shelf.RegionOpen
import Derived.WalkKit
import Derived.OwnWalkIn
import Derived.TacticsInMore
import Derived.LoopNIn
import Derived.LoopIn
section
namespace Go.Proofs.YtpcnjcgglonifaaGreat.iter
open Go.RowKit Go.Shelf base ints sig term termOk endAt endOf marks app sym sub segs segsHelp matchMath matchSpec whole extended termFacts shape kindsR ruleMath ruleSpec stepMath walkMath stepSpec stepImpl
set_option maxRecDepth 100000
attribute [local go_sem] Oper.semAt_some

section
variable {sg : List Int} {rs : List Rl} {t : List Int}
end

section
variable {P : Program} {n : Nat} {ops : Array Oper} {rest : List Oper} {o : Oper} {a : Act} {w : World} {Q : Exit → Act → World → Prop}
end

def Kr (n₀ B2 B3 : Nat) (A B : World) : Prop := Below n₀ A B ∧ B.heap[B2]? = A.heap[B2]? ∧ B.heap[B3]? = A.heap[B3]?
theorem Kr.row2 {n₀ B2 B3 : Nat} {A B : World} {t : TypeId} {cs : Array Value} (h : Kr n₀ B2 B3 A B) (r : Row A B2 t cs) : Row B B2 t cs := h.2.1.trans r
theorem Kr.row3 {n₀ B2 B3 : Nat} {A B : World} {t : TypeId} {cs : Array Value} (h : Kr n₀ B2 B3 A B) (r : Row A B3 t cs) : Row B B3 t cs := h.2.2.trans r

end Go.Proofs.YtpcnjcgglonifaaGreat.iter
end

section
namespace Go.Proofs.YtpcnjcgglonifaaGreat.iter
open Go.RowKit base ints sig term termOk endAt inside marks app sym sub segs segsHelp kinds termFacts matchMath whole takeMath take extended varsOf shape kindsR ruleMath ruleSpec ruleImpl stepMath walkMath stepSpec Go.Shelf stepImpl
set_option maxRecDepth 100000
attribute [local go_sem] Oper.semAt_some

end Go.Proofs.YtpcnjcgglonifaaGreat.iter
end

section
namespace Go.Proofs.YtpcnjcgglonifaaGreat.rangeGive
open Go.RowKit base segs shape

end Go.Proofs.YtpcnjcgglonifaaGreat.rangeGive
end

section
namespace Go.Proofs.YtpcnjcgglonifaaGreat.iter
open Go.RowKit base rangeGive

end Go.Proofs.YtpcnjcgglonifaaGreat.iter
end

section
namespace Go.Proofs.YtpcnjcgglonifaaGreat.iter
open Go.RowKit Go.Shelf base ints sig term termOk endAt endOf marks app sym sub segs segsHelp shifted termFacts shape kindsR kindsW ruleMath ruleSpec stepMath walkMath stepSpec stepImpl rangeGive
set_option maxRecDepth 100000
attribute [local go_sem] Oper.semAt_some

section
variable {sg : List Int} {rs : List Rl} {t : List Int}
end
end Go.Proofs.YtpcnjcgglonifaaGreat.iter
end

section
namespace Go.Proofs.YtpcnjcgglonifaaGreat.iter
open Go.RowKit Go.Shelf base ints sig term termOk endAt endOf marks app sym sub segs segsHelp shifted termFacts shape kindsR kindsW ruleMath ruleSpec ruleImpl stepMath walkMath stepSpec stepImpl rangeGive ownL
set_option maxRecDepth 100000
attribute [local go_sem] Oper.semAt_some

theorem Ow.cells {w : World} : ∀ {s : Sh} {cs : List Value} {d : Dat s} {F : List Nat}, Ow w s cs d F → ∀ k ∈ F, ∃ t c, Row w k t c
  | .num, _, _, _, h, k, hk => by obtain ⟨_, e⟩ := h; rw [e] at hk; cases hk
  | .bit, _, _, _, h, k, hk => by obtain ⟨_, e⟩ := h; rw [e] at hk; cases hk
  | .row e s, _, _, F, h, k, hk => by
    obtain ⟨A, n, c, e1, hl, h1⟩ := h
    rcases h1 with ⟨_, _, _, h1⟩ | ⟨g, cur, E, G, e2, hr, h2, h3, h4, h5, h6⟩
    · rw [h1] at hk; cases hk
    · rw [h5] at hk
      rcases List.mem_cons.1 hk with hk | hk
      · rw [hk]; exact ⟨_, _, hr⟩
      · obtain ⟨j, hj, hk⟩ := List.mem_flatMap.1 hk
        exact Ow.cells (h6 j (List.mem_range.1 hj)).2.2 k hk
  | .cat a b, _, _, _, h, k, hk => by
    obtain ⟨ca, cb, Fa, Fb, e, e2, h1, h2⟩ := h
    rw [e2] at hk
    rcases List.mem_append.1 hk with hk | hk
    · exact Ow.cells h1 k hk
    · exact Ow.cells h2 k hk
end Go.Proofs.YtpcnjcgglonifaaGreat.iter
end

section
namespace Go.Proofs.YtpcnjcgglonifaaGreat.iter
open Go.RowKit Go.Shelf base ints sig term termOk endAt endOf marks app sym sub segs segsHelp shifted termFacts shape kindsR kindsW ruleMath ruleSpec ruleImpl stepMath walkMath stepSpec stepImpl rangeGive ownL
set_option maxRecDepth 100000

end Go.Proofs.YtpcnjcgglonifaaGreat.iter
end

section
namespace Go.Proofs.YtpcnjcgglonifaaGreat.seqX
open Go.RowKit base sig term termOk termFacts segs shape kindsR kindsW ruleMath ruleSpec stepMath walkMath stepSpec iter
theorem seq_sz {L : List St} {C : Nat} (h : ∀ s ∈ L, s.2.2.length ≤ C) : sz sStepS L ≤ L.length * (C + 1) := by
  induction L with
  | nil => exact Nat.zero_le _
  | cons x r ih =>
    have h1 := ih (fun s hs => h s (List.mem_cons_of_mem _ hs))
    have h2 := h x (List.mem_cons_self ..)
    have e : sz sStepS (x :: r) = (r.length + 1) + ((0 + (0 + sz sI x.2.2)) + (r.map (sz sStep)).sum) := rfl
    have e2 : sz sStepS r = r.length + (r.map (sz sStep)).sum := rfl
    rw [e, sz_ints, List.length_cons, Nat.add_mul]
    rw [e2] at h1
    omega
theorem step_60 {sg : List Int} {x : Rl} {t v : List Int} {a : Nat} (h : stepO sg x t a = some v) : v.length ≤ 60 := by
  unfold stepO at h
  split at h
  · cases h
  · split at h
    · rename_i hf
      injection h with h
      rw [← h]
      exact hf.2
    · cases h
theorem stepsI_sz {sg : List Int} {rs : List Rl} {t : List Int} : sz sStepS (stepsI sg rs t) ≤ 1048576 := by
  cases h : rightB sg rs t with
  | false =>
    unfold stepsI
    rw [if_neg (by rw [h]; simp)]
    exact Nat.zero_le _
  | true =>
    unfold stepsI
    rw [if_pos h]
    obtain ⟨h1, h2⟩ := right_parts h
    have a := seq_sz (L := stepsL sg rs t) (C := 60) (fun s hs => by
      obtain ⟨a, r, _, _, _, _, e⟩ := steps_mem.1 hs
      exact step_60 e)
    have b := stepsMath.st_len (sg := sg) (rs := rs) (t := t) (i := t.length) (k := 0)
    rw [stepsMath.st_all] at b
    have c : t.length * rs.length ≤ 60 * 12 := Nat.mul_le_mul (term_len h2).2 (sys_parts h1).2.1
    have d : (stepsL sg rs t).length * (60 + 1) ≤ 720 * 61 := Nat.mul_le_mul (by omega) (Nat.le_refl _)
    omega
theorem specStepsFromX (a v u : Value) (d : Dat sSystem) (t : List Int) (w : World) (h : Rd w w.heap.size sSystem [a, v] d) (ht : Rd w w.heap.size sI [u] t) (hz : sz sSystem d ≤ 1048576) (hz' : sz sI t ≤ 1048576) :
    Calls Tryz.prog 112 #[.agg #[a, v], u] w (Copy1 w sStepS (stepsI d.1 d.2 t)) := (specStepsFrom a v u d t w h ht hz hz').mono fun _ _ hh => hh.copy
end Go.Proofs.YtpcnjcgglonifaaGreat.seqX
end

section
namespace Go.Proofs.YtpcnjcgglonifaaGreat.drawW
open Go.RowKit base ints sig term cursor marks app appAt sym segs dice drawX drawSys drawL7 walkMath
open shape (Sh Dat nc dft sI sz Ow Owned Piece rd_ints)
open kindsR (sRule sSystem)
open kindsW (sStep sStepS sWalk)
set_option maxRecDepth 100000

section
variable {w w' : World} {p lo : Nat} {A : Option Addr} {n c : Nat}
theorem ow_rdq : ∀ {s : Sh} {cs : List Value} {d : Dat s} {F : List Nat}, Ow w s cs d F → RdQ w (fun b => b ∈ F) s cs d
  | .num, _, _, _, h => h.1
  | .bit, _, _, _, h => h.1
  | .row e s, _, _, F, h => by
    obtain ⟨A, n, c, e1, hl, h1⟩ := h
    rcases h1 with ⟨rfl, rfl, rfl, _⟩ | ⟨g, cur, E, G, e2, hr, h2, h3, h4, h5, h6⟩
    · exact ⟨none, 0, 0, e1, ⟨by omega, by omega, fun _ => rfl⟩, hl, fun h => absurd h (by omega)⟩
    · refine ⟨A, n, c, e1, ⟨h2, h3, fun e => by rw [e] at e2; cases e2⟩, hl, fun hn => ⟨g, 0, e2, by rw [h5]; exact List.mem_cons_self .., fun j hj => ?_⟩⟩
      obtain ⟨q1, q2, q3⟩ := h6 j hj
      refine ⟨E j, q1, fun i hi => ?_, (ow_rdq q3).mono fun b hb => ?_⟩
      · rw [Nat.zero_add, hr.cell, q2 i (by omega)]
      · rw [h5]
        exact List.mem_cons_of_mem _ (List.mem_flatMap.2 ⟨j, List.mem_range.2 hj, hb⟩)
  | .cat a b, _, _, F, h => by
    obtain ⟨ca, cb, Fa, Fb, e, e2, h1, h2⟩ := h
    exact ⟨ca, cb, e, (ow_rdq h1).mono fun b hb => by rw [e2]; exact List.mem_append_left _ hb, (ow_rdq h2).mono fun b hb => by rw [e2]; exact List.mem_append_right _ hb⟩
theorem owned_rdq {hi : Nat} {s : Sh} {cs : List Value} {d : Dat s} (h : Owned w lo hi s cs d) : RdQ w (fun b => lo ≤ b ∧ b < hi) s cs d := by
  obtain ⟨F, h, _, h2⟩ := h
  exact (ow_rdq h).mono h2
theorem step_rdq {Q : Nat → Prop} {x r : Int} {v : Value} {l : List Int} (h : RdQ w Q sI [v] l) : RdQ w Q sStep [.int .i64 x, .int .i64 r, v] ((x, r, l) : Int × Int × List Int) :=
  ⟨[_], [_, _], rfl, rfl, [_], [_], rfl, rfl, h⟩
theorem step_parts {Q : Nat → Prop} {es : List Value} {d : Dat sStep} (h : RdQ w Q sStep es d) : ∃ V vn vc, es = [.int .i64 d.1, .int .i64 d.2.1, .slice V vn vc] ∧ RdQ w Q sI [.slice V vn vc] d.2.2 := by
  obtain ⟨ca0, cb0, e0, p0, ca1, cb1, e1, p1, q⟩ := h
  have p0 : ca0 = [.int .i64 d.1] := p0
  have p1 : ca1 = [.int .i64 d.2.1] := p1
  have hq := q
  obtain ⟨V, vn, vc, e2, -⟩ := hq
  subst p0 p1 e2
  exact ⟨V, vn, vc, by rw [e0, e1]; rfl, q⟩
theorem elemS {Q : Nat → Prop} {L : Option Addr} {ln lc : Nat} {D : List (Dat sStep)} {j : Nat} (h : RdQ w Q sStepS [.slice L ln lc] D) (hj : j < ln) : ∃ b off V vn vc x, L = some ⟨b, off, none⟩ ∧ Q b ∧ Hid (D.getD j (dft sStep) = x) ∧ w.cell? ⟨b, off + j * 3, none⟩ = some (.int .i64 x.1) ∧ w.cell? ⟨b, off + j * 3 + 1, none⟩ = some (.int .i64 x.2.1) ∧ w.cell? ⟨b, off + j * 3 + 2, none⟩ = some (.slice V vn vc) ∧ RdQ w Q sI [.slice V vn vc] x.2.2 := by
  obtain ⟨A, n, c, e, hc, hl, h1⟩ := h
  injection e with e _
  injection e with e1 e2 e3
  subst e1 e2 e3
  obtain ⟨b, off, e2, hb, h2⟩ := h1 (by omega)
  obtain ⟨es, he, hp, hr⟩ := h2 j hj
  obtain ⟨V, vn, vc, rfl, hv⟩ := step_parts hr
  exact ⟨b, off, V, vn, vc, _, e2, hb, Lib.hid rfl, hp 0 (by simp), hp 1 (by simp), hp 2 (by simp), hv⟩
theorem step_ne {Q : Nat → Prop} {N : Nat} {t : TypeId} {cs : List Value} {d : Dat sStep} {a1 a2 : Option Addr} {l1 k1 l2 k2 : Nat} (h : RdQ w Q sStep cs d) (hN : Row w N t #[.slice a1 l1 k1, .slice a2 l2 k2]) : RdQ w (fun b => Q b ∧ b ≠ N) sStep cs d := by
  obtain ⟨V, vn, vc, rfl, hv⟩ := step_parts h
  exact step_rdq (ints_ne hv hN)
theorem walk_ne {Q : Nat → Prop} {N : Nat} {t : TypeId} {cs : List Value} {d : Dat sWalk} {a1 a2 : Option Addr} {l1 k1 l2 k2 : Nat} (h : RdQ w Q sWalk cs d) (hN : Row w N t #[.slice a1 l1 k1, .slice a2 l2 k2]) : RdQ w (fun b => Q b ∧ b ≠ N) sWalk cs d := by
  obtain ⟨ca, cb, e, h1, A, n, c, e1, hc, hl, h2⟩ := h
  refine ⟨ca, cb, e, ints_ne h1 hN, A, n, c, e1, hc, hl, fun hn => ?_⟩
  obtain ⟨b, off, e2, hb, h3⟩ := h2 hn
  refine ⟨b, off, e2, ⟨hb, fun e3 => ?_⟩, fun j hj => ?_⟩
  · subst e3
    obtain ⟨es, he, hp, hr⟩ := h3 0 hn
    obtain ⟨V, vn, vc, rfl, hv⟩ := step_parts hr
    have h4 := hp 0 (by simp)
    rw [show off + 0 * nc sStep + 0 = off by simp] at h4
    rw [Row.cell (t := t) (cs := #[.slice a1 l1 k1, .slice a2 l2 k2]) hN] at h4
    match off, h4 with
    | 0, h4 => simp at h4
    | 1, h4 => simp at h4
    | off + 2, h4 => simp at h4
  · obtain ⟨es, he, hp, hr⟩ := h3 j hj
    exact ⟨es, he, hp, step_ne hr hN⟩
theorem walk_put {N i : Nat} {t : TypeId} {cs : List Value} {d : Dat sWalk} {a1 a2 : Option Addr} {l1 k1 l2 k2 : Nat} {u : Value} (h : RdQ w (Out w p) sWalk cs d) (hN : Row w N t #[.slice a1 l1 k1, .slice a2 l2 k2]) : RdQ (w.setCell ⟨N, i, none⟩ u) (Out (w.setCell ⟨N, i, none⟩ u) p) sWalk cs d :=
  ((walk_ne h hN).keep fun b hb => Below.heap_setCell w _ u b hb.2).mono fun b hb => ⟨by simpa using hb.1.1, hb.1.2⟩
theorem ownS_put {e : TypeId} {D : List (Dat sStep)} {N : Nat} {t : TypeId} {a1 a2 : Option Addr} {l1 k1 l2 k2 : Nat} (h : OwnQ w p lo e sStep A n c D) (hN : Row w N t #[.slice a1 l1 k1, .slice a2 l2 k2]) (hA : blk A ≠ some N) (i : Nat) (u : Value) : OwnQ (w.setCell ⟨N, i, none⟩ u) p lo e sStep A n c D := by
  obtain ⟨h1, vs, h2, h3⟩ := h
  refine ⟨h1, vs, World.ownsRow.kept h2 (grown_put (World.grownBy.refl w _) i u) (.inr (by rw [blk_own]; exact hA)), fun j hj => ?_⟩
  exact ((step_ne (h3 j hj) hN).keep fun b hb => Below.heap_setCell w _ u b hb.2).mono fun b hb => ⟨by simpa using hb.1.1, hb.1.2⟩
theorem ownS_some {e : TypeId} {D : List (Dat sStep)} (h : OwnQ w p lo e sStep A n c D) (h1 : 1 ≤ n) : ∃ g, A = some ⟨g, 0, none⟩ := by
  obtain ⟨_, vs, ho, _⟩ := h
  rcases ho.2 with ⟨e1, h0⟩ | ⟨g, cap, cur, e1, _⟩
  · omega
  · injection e1 with e1 _ _; exact ⟨g, e1⟩
theorem cells_set_ne {k n i j j' : Nat} {vs : List Value} {v : Value} (hi : i < k) (hne : j' ≠ j) : cellsOf k (vs.set (j * k + i) v) j' = cellsOf k vs j' := by
  refine List.ext_getElem? fun q => ?_
  unfold cellsOf
  rw [List.getElem?_take, List.getElem?_take]
  split
  · rename_i hq
    rw [List.getElem?_drop, List.getElem?_drop, List.getElem?_set_ne]
    intro e
    rcases Nat.lt_or_ge j' j with h | h
    · have := Nat.mul_le_mul_right k (show j' + 1 ≤ j by omega)
      rw [Nat.add_mul] at this
      omega
    · have := Nat.mul_le_mul_right k (show j + 1 ≤ j' by omega)
      rw [Nat.add_mul] at this
      omega
  · rfl
theorem cells_set_at {k i j : Nat} {vs : List Value} {v : Value} (hi : i < k) : cellsOf k (vs.set (j * k + i) v) j = (cellsOf k vs j).set i v := by
  refine List.ext_getElem? fun q => ?_
  unfold cellsOf
  rw [List.getElem?_take]
  split
  · rename_i hq
    by_cases e : q = i
    · subst e
      rw [List.getElem?_drop, List.getElem?_set, List.getElem?_set, if_pos rfl, if_pos rfl, List.length_take, List.length_drop]
      by_cases h : j * k + q < vs.length
      · rw [if_pos h, if_pos (by omega)]
      · rw [if_neg h, if_neg (by omega)]
    · rw [List.getElem?_drop, List.getElem?_set_ne (by omega), List.getElem?_set_ne (by omega), List.getElem?_take, if_pos hq, List.getElem?_drop]
  · rename_i hq
    rw [List.getElem?_eq_none]
    rw [List.length_set, List.length_take]
    omega
theorem ownS_set {g : Nat} {e : TypeId} {D : List (Dat sStep)} {j i : Nat} {v : Value} {y : Dat sStep} (h : OwnQ w p lo e sStep (some ⟨g, 0, none⟩) n c D) (hj : j < n) (hi : i < 3) (hne : p ≠ g)
    (hy : ∀ es, RdQ w (OutR w p (some g)) sStep es (D.getD j (dft sStep)) → RdQ w (OutR w p (some g)) sStep (es.set i v) y) : OwnQ (w.setCell ⟨g, j * 3 + i, none⟩ v) p lo e sStep (some ⟨g, 0, none⟩) n c (D.set j y) := by
  obtain ⟨h1, vs, h2, h3⟩ := h
  have keep : ∀ {us : List Value} {x : Dat sStep}, RdQ w (OutR w p (some g)) sStep us x → RdQ (w.setCell ⟨g, j * 3 + i, none⟩ v) (OutR (w.setCell ⟨g, j * 3 + i, none⟩ v) p (some g)) sStep us x := fun {us x} hu =>
    (hu.keep fun b hb => Below.heap_setCell w _ v b (fun e => hb.2.2 (by rw [e]))).mono fun b hb => ⟨by simpa using hb.1, hb.2⟩
  refine ⟨by simpa using h1, vs.set (j * 3 + i) v, ?_, fun j' hj' => ?_⟩
  · refine ⟨by rw [List.length_set]; exact h2.1, ?_⟩
    rcases h2.2 with ⟨e1, -⟩ | ⟨g', cap, cur, e1, hg, hrow, hn, hm, hs, ht⟩
    · injection e1 with e1; cases e1
    · injection e1 with e1 e2 e3
      injection e1 with e1
      injection e1 with e1
      subst e1
      refine .inr ⟨g, cap, cur.setIfInBounds (j * 3 + i) v, by rw [e3], hg, Row.put (t := e) hrow _ _, hn, hm, by rw [Array.size_setIfInBounds]; exact hs, ?_⟩
      rw [Array.toList_setIfInBounds, List.take_set, ht]
  · show RdQ _ (OutR _ p (some g)) sStep (cellsOf 3 (vs.set (j * 3 + i) v) j') _
    by_cases ej : j' = j
    · subst ej
      rw [cells_set_at hi, show (D.set j' y).getD j' (dft sStep) = y by simp [List.getD, h1, hj]]
      exact keep (hy _ (h3 j' hj))
    · rw [cells_set_ne (n := n) hi ej, show (D.set j y).getD j' (dft sStep) = D.getD j' (dft sStep) by simp [List.getD, List.getElem?_set_ne (fun e => ej e.symm)]]
      exact keep (h3 j' hj')
end
end Go.Proofs.YtpcnjcgglonifaaGreat.drawW
end

section
namespace Go.Proofs.YtpcnjcgglonifaaGreat.drawW
open Go.RowKit base ints sig term termOk termFacts cursor marks app appAt sym segs dice drawTerm drawAny drawSub drawS drawTwo drawX drawRule drawKnown drawSys drawL7 ruleMath ruleSpec stepMath walkMath stepSpec seqX walkX heldT kinds iter compImpl
open shape (Sh Dat nc dft sI sz Ow Owned Piece rd_ints sz_ints sz_len)
open kindsR (sRule sSystem)
open kindsW (sStep sStepS sWalk info_StepS)
set_option maxRecDepth 100000

theorem belowN (p : Nat) (A : Option Addr) (n c : Nat) (N : Int) (w : World) (hd : Dice w p A n c) (h1 : 1 ≤ N) (h2 : N ≤ 1048576) :
    Calls Tryz.prog 90 #[.pointer (some ⟨p, 0, none⟩), .int .i64 N] w (AnsDraw w p A n c 0 (N - 1)) := by
  by_cases hN : N ≤ 256
  · exact below p A n c N w hd h1 hN
  · have L1 := Lib.hid (byte p A n c w hd)
    clear hd
    go_enter Tryz.func90, Tryz.ntmps90
    go_wp2_with fail
    refine L1.out.mono ?_
    rintro e w1 ⟨x1, rfl, a1, b1, d1, g1⟩
    have L2 := Lib.hid (byte p A n c w1 d1)
    have G1 := Lib.hid g1
    clear L1 d1 g1
    go_wp2_with fail
    refine L2.out.mono ?_
    rintro e w2 ⟨x2, rfl, a2, b2, d2, g2⟩
    have L3 := Lib.hid (byte p A n c w2 d2)
    have G2 := Lib.hid (G1.out.trans g2)
    clear L2 d2 g2 G1
    go_wp2_with fail
    refine L3.out.mono ?_
    rintro e w3 ⟨x3, rfl, a3, b3, d3, g3⟩
    have L4 := Lib.hid (byte p A n c w3 d3)
    have G3 := Lib.hid (G2.out.trans g3)
    clear L3 d3 g3 G2
    go_wp2_with fail
    refine L4.out.mono ?_
    rintro e w4 ⟨x4, rfl, a4, b4, d4, g4⟩
    have F : AnsDraw w p A n c 0 (N - 1) (.returned (.int .i64 ((x1 * 16777216 + x2 * 65536 + x3 * 256 + x4) % N))) w4 := ⟨_, rfl, Int.emod_nonneg _ (by omega), by have := Int.emod_lt_of_pos (x1 * 16777216 + x2 * 65536 + x3 * 256 + x4) (show 0 < N by omega); omega, d4, G3.out.trans g4⟩
    have HF := Lib.hid F
    clear F d4 g4 L4 G3
    go_wp2
    go_ret
    exact HF.out

def SmallS (M : Nat) (D : List (Dat sStep)) : Prop := D.length ≤ M ∧ ∀ x ∈ D, (x.2.2 : List Int).length ≤ 65
theorem smallS_app {M : Nat} {D : List (Dat sStep)} {x : Dat sStep} (h : SmallS M D) (hx : (x.2.2 : List Int).length ≤ 65) : SmallS (M + 1) (D ++ [x]) :=
  ⟨by have := h.1; simpa using this, fun y hy => by
    rcases List.mem_append.1 hy with hy | hy
    · exact h.2 y hy
    · rw [List.mem_singleton.1 hy]; exact hx⟩
theorem smallS_set {M j : Nat} {D : List (Dat sStep)} {x : Dat sStep} (h : SmallS M D) (hx : (x.2.2 : List Int).length ≤ 65) : SmallS M (D.set j x) :=
  ⟨by rw [List.length_set]; exact h.1, fun y hy => by
    rcases List.mem_or_eq_of_mem_set hy with hy | rfl
    · exact h.2 y hy
    · exact hx⟩
theorem smallS_at {M j : Nat} {D : List (Dat sStep)} (h : SmallS M D) : ((D.getD j (dft sStep)).2.2 : List Int).length ≤ 65 := by
  by_cases hj : j < D.length
  · rw [List.getD_eq_getElem?_getD, List.getElem?_eq_getElem hj]
    exact h.2 _ (List.getElem_mem _)
  · rw [List.getD_eq_getElem?_getD, List.getElem?_eq_none (by omega)]
    exact Nat.zero_le _
theorem stepsI_small {sg : List Int} {rs : List Rl} {t : List Int} {j : Nat} : (((stepsI sg rs t).getD j (dft sStep)).2.2 : List Int).length ≤ 60 := by
  by_cases hj : j < (stepsI sg rs t).length
  · rw [List.getD_eq_getElem?_getD, List.getElem?_eq_getElem hj]
    have hx := List.getElem_mem (l := stepsI sg rs t) hj
    show ((stepsI sg rs t)[j]).2.2.length ≤ 60
    generalize (stepsI sg rs t)[j] = x at hx ⊢
    unfold stepsI at hx
    split at hx
    · rename_i hr
      exact (term_len (stepAt_ok (steps_at (right_parts hr).1 (right_parts hr).2 hx))).2
    · cases hx
  · rw [List.getD_eq_getElem?_getD, List.getElem?_eq_none (by omega)]
    exact Nat.zero_le _

def AnsWk (w : World) (p : Nat) (A : Option Addr) (n c : Nat) (e : Ending) (w' : World) : Prop :=
  ∃ F fn fc Q qn qc k, e = .returned (.agg #[.slice F fn fc, .slice Q qn qc]) ∧ RdQ w' (Out w' p) sWalk [.slice F fn fc, .slice Q qn qc] k ∧ sz sWalk k ≤ 2000 ∧ Dice w' p A n c ∧ w.grownBy w' (some p)
structure YW (w : World) (p : Nat) (A : Option Addr) (n c : Nat) (S : Option Addr) (sn sc : Nat) (R : Option Addr) (rn rc : Nat) (o : Nat) (F : Option Addr) (fn fc : Nat) (t : List Int) (Q : Option Addr) (qn qc : Nat) (D : List (Dat sStep)) (U : Option Addr) (un uc : Nat) (us : List Int) (wr : World) : Prop where
  d : Dice wr p A n c
  rS : Row wr w.heap.size 29 #[.slice S sn sc, .slice R rn rc]
  rN : Row wr (w.heap.size + 1) 41 #[.slice none 0 0, .slice none 0 0]
  g : w.grownBy wr (some p)
  hp : p < w.heap.size
  rO : Row wr o 41 #[.slice F fn fc, .slice Q qn qc]
  f : RdQ wr (OutR wr p (blk Q)) sI [.slice F fn fc] t
  own : OwnQ wr p (w.heap.size + 2) 81 sStep Q qn qc D
  hQ : blk Q ≠ some o
  ho : w.heap.size + 2 ≤ o
  v : RdQ wr (OutR wr p (blk Q)) sI [.slice U un uc] us
section
variable {w : World} {p : Nat} {A : Option Addr} {n c : Nat} {S : Option Addr} {sn sc : Nat} {R : Option Addr} {rn rc : Nat} {o : Nat} {F : Option Addr} {fn fc : Nat} {t : List Int} {Q : Option Addr} {qn qc : Nat} {D : List (Dat sStep)} {U : Option Addr} {un uc : Nat} {us : List Int} {wr w' : World}
theorem YW.dice (h : YW w p A n c S sn sc R rn rc o F fn fc t Q qn qc D U un uc us wr) (hd : Dice w' p A n c) (hg : wr.grownBy w' (some p)) : YW w p A n c S sn sc R rn rc o F fn fc t Q qn qc D U un uc us w' := by
  have h1 := h.hp
  have h2 := h.ho
  exact ⟨hd, Row.away h.rS hg (fun e => by injection e with e; omega), Row.away h.rN hg (fun e => by injection e with e; omega), h.g.trans hg, h.hp, Row.away h.rO hg (fun e => by injection e with e; omega), outR_dice h.f hg, h.own.dice hg (by omega), h.hQ, h.ho, outR_dice h.v hg⟩
theorem YW.next (h : YW w p A n c S sn sc R rn rc o F fn fc t Q qn qc D U un uc us wr) (hb : Below wr.heap.size wr w') : YW w p A n c S sn sc R rn rc o F fn fc t Q qn qc D U un uc us w' :=
  ⟨h.d.next hb, h.rS.next hb, h.rN.next hb, h.g.trans (grown_of_below hb _), h.hp, h.rO.next hb, outR_below h.f hb, h.own.below hb, h.hQ, h.ho, outR_below h.v hb⟩
theorem YW.setu {V : Option Addr} {vn vc : Nat} {vs : List Int} (h : YW w p A n c S sn sc R rn rc o F fn fc t Q qn qc D U un uc us wr) (hv : RdQ wr (OutR wr p (blk Q)) sI [.slice V vn vc] vs) : YW w p A n c S sn sc R rn rc o F fn fc t Q qn qc D V vn vc vs wr :=
  ⟨h.d, h.rS, h.rN, h.g, h.hp, h.rO, h.f, h.own, h.hQ, h.ho, hv⟩
theorem YW.put {g' qc' : Nat} {x : Dat sStep} (h : YW w p A n c S sn sc R rn rc o F fn fc t Q qn qc D U un uc us wr) (hown : OwnQ w' p (w.heap.size + 2) 81 sStep (some ⟨g', 0, none⟩) (qn + 1) qc' (D ++ [x])) (hg : wr.grownBy w' (blk Q)) (hat : blk Q = some g' ∨ g' = wr.heap.size) :
    YW w p A n c S sn sc R rn rc o F fn fc t (some ⟨g', 0, none⟩) (qn + 1) qc' (D ++ [x]) U un uc us (w'.setCell ⟨o, 1, none⟩ (.slice (some ⟨g', 0, none⟩) (qn + 1) qc')) := by
  have h1 := h.hp
  have h2 := h.ho
  have hz := h.rO.lt
  have hge := h.own.ge
  have hO := Row.away h.rO hg h.hQ
  have hb : Below (w.heap.size + 2) wr w' := (Below.refl _ _).grown hg (by omega) (fun k hk => (hge k hk).1)
  have hb2 : Below (w.heap.size + 2) wr (w'.setCell ⟨o, 1, none⟩ (.slice (some ⟨g', 0, none⟩) (qn + 1) qc')) := hb.setCell (p := ⟨o, 1, none⟩) (by show w.heap.size + 2 ≤ o; omega) _
  have hne : blk (some (⟨g', 0, none⟩ : Addr)) ≠ some o := by
    intro e
    have e : g' = o := by injection e
    subst e
    rcases hat with e | e
    · exact h.hQ e
    · omega
  have keep : ∀ {cs : List Value} {xs : List Int}, RdQ wr (OutR wr p (blk Q)) sI cs xs → RdQ w' (OutR w' p (blk (some ⟨g', 0, none⟩))) sI cs xs := fun {cs xs} hs =>
    (hs.keep fun b hb => hg.block b hb.1 (fun e => hb.2.2 e)).mono fun b hb => ⟨Nat.lt_of_lt_of_le hb.1 hg.size, hb.2.1, fun e => by
      have e : b = g' := by injection e
      subst e
      rcases hat with e | e
      · exact hb.2.2 e.symm
      · have := hb.1; omega⟩
  exact ⟨h.d.keep (hb2.mono (by omega)), h.rS.below hb2 (by omega), h.rN.below hb2 (by omega), grown_over h.g hb2 (by omega), h.hp, hO.put 1 _, ints_put (keep h.f) hO 1 _, ownS_put hown hO hne 1 _, hne, h.ho, ints_put (keep h.v) hO 1 _⟩
theorem YW.set {g j i : Nat} {v : Value} {y : Dat sStep} (h : YW w p A n c S sn sc R rn rc o F fn fc t (some ⟨g, 0, none⟩) qn qc D U un uc us wr) (hj : j < qn) (hi : i < 3)
    (hy : ∀ es, RdQ wr (OutR wr p (some g)) sStep es (D.getD j (dft sStep)) → RdQ wr (OutR wr p (some g)) sStep (es.set i v) y) :
    YW w p A n c S sn sc R rn rc o F fn fc t (some ⟨g, 0, none⟩) qn qc (D.set j y) U un uc us (wr.setCell ⟨g, j * 3 + i, none⟩ v) := by
  have h1 := h.hp
  have h2 := h.ho
  have hge := (h.own.ge g rfl).1
  have hgo : o ≠ g := fun e => h.hQ (by rw [e]; rfl)
  have hb : Below (w.heap.size + 2) wr (wr.setCell ⟨g, j * 3 + i, none⟩ v) := (Below.refl _ _).setCell (p := ⟨g, j * 3 + i, none⟩) hge _
  have keep : ∀ {cs : List Value} {xs : List Int}, RdQ wr (OutR wr p (some g)) sI cs xs → RdQ (wr.setCell ⟨g, j * 3 + i, none⟩ v) (OutR (wr.setCell ⟨g, j * 3 + i, none⟩ v) p (some g)) sI cs xs := fun {cs xs} hu =>
    (hu.keep fun b hb => Below.heap_setCell wr _ v b (fun e => hb.2.2 (by rw [e]))).mono fun b hb => ⟨by simpa using hb.1, hb.2⟩
  exact ⟨h.d.keep (hb.mono (by omega)), h.rS.below hb (by omega), h.rN.below hb (by omega), grown_over h.g hb (by omega), h.hp, h.rO.far (p := ⟨g, j * 3 + i, none⟩) hgo _, keep h.f, ownS_set h.own hj hi (by omega) hy, h.hQ, h.ho, keep h.v⟩
theorem ownS_cell {lo g j i : Nat} (h : OwnQ wr p lo 81 sStep (some ⟨g, 0, none⟩) qn qc D) (hj : j < qn) (hi : i < 3) : (∃ u, wr.cell? ⟨g, j * 3 + i, none⟩ = some u) ∧ wr.frozen? ⟨g, j * 3 + i, none⟩ = false := by
  obtain ⟨h1, vs, h2, h3⟩ := h
  rcases h2.2 with ⟨e1, -⟩ | ⟨g', cap, cur, e1, hg, hrow, hn, hm, hs, ht⟩
  · injection e1 with e1; cases e1
  · injection e1 with e1 e2 e3
    injection e1 with e1
    injection e1 with e1
    subst e1
    have hs : cur.size = cap * 3 := hs
    have hlt : j * 3 + i < cur.size := by omega
    exact ⟨⟨cur[j * 3 + i], by rw [Row.cell (t := 81) (cs := cur) hrow, Array.getElem?_eq_getElem hlt]⟩, Row.free (t := 81) (cs := cur) hrow _⟩
theorem YW.result (h : YW w p A n c S sn sc R rn rc o F fn fc t Q qn qc D U un uc us wr) (hD : SmallS 4 D) (ht : t.length ≤ 65) :
    AnsWk w p A n c (.returned (.agg #[.slice F fn fc, .slice Q qn qc])) ((wr.setCell ⟨w.heap.size + 1, 0, none⟩ (.slice F fn fc)).setCell ⟨w.heap.size + 1, 1, none⟩ (.slice Q qn qc)) := by
  have h1 := h.hp
  have r1 := h.rN.put 0 (.slice F fn fc)
  have hw : RdQ wr (Out wr p) sWalk [.slice F fn fc, .slice Q qn qc] ((t, D) : List Int × List (Dat sStep)) := RdQ.cat (ca := [_]) (cb := [_]) (h.f.mono fun b hb => ⟨hb.1, hb.2.1⟩) (h.own.rdq (by omega))
  have hS : Below (w.heap.size + 1) wr ((wr.setCell ⟨w.heap.size + 1, 0, none⟩ (.slice F fn fc)).setCell ⟨w.heap.size + 1, 1, none⟩ (.slice Q qn qc)) := ((Below.refl _ wr).setCell (p := ⟨w.heap.size + 1, 0, none⟩) (Nat.le_refl _) _).setCell (p := ⟨w.heap.size + 1, 1, none⟩) (Nat.le_refl _) _
  refine ⟨F, fn, fc, Q, qn, qc, ((t, D) : List Int × List (Dat sStep)), rfl, walk_put (walk_put hw h.rN) r1, ?_, h.d.keep (hS.mono (by omega)), grown_over h.g hS (by omega)⟩
  have q1 := steps_sz (L := D) (C := 65) (fun s hs => hD.2 s hs)
  have q2 := hD.1
  show sz sI t + sz sStepS D ≤ 2000
  rw [sz_ints]
  have := Nat.mul_le_mul_right (65 + 1) q2
  omega
end
def HeadW (w : World) (p : Nat) (A : Option Addr) (n c : Nat) (S : Option Addr) (sn sc : Nat) (R : Option Addr) (rn rc : Nat) (o : Nat) (F : Option Addr) (fn fc : Nat) (t : List Int) (u k : Value) (wr : World) : Prop :=
  ∃ (q : Nat) (U : Option Addr) (un uc : Nat) (us : List Int) (Q : Option Addr) (qn qc : Nat) (D : List (Dat sStep)), u = .slice U un uc ∧ k = .int .i64 q ∧ qn + q ≤ 4 ∧ SmallS qn D ∧ us.length ≤ 65 ∧ YW w p A n c S sn sc R rn rc o F fn fc t Q qn qc D U un uc us wr

set_option maxHeartbeats 8000000 in
theorem l7DrawWalk (p : Nat) (A : Option Addr) (n c : Nat) (S : Option Addr) (sn sc : Nat) (R : Option Addr) (rn rc : Nat) (d : Dat sSystem) (w : World) (hd : Dice w p A n c) (hs : RdQ w (Out w p) sSystem [.slice S sn sc, .slice R rn rc] d) (hz : sz sSystem d ≤ 2000) :
    Calls Tryz.prog 62 #[.pointer (some ⟨p, 0, none⟩), .agg #[.slice S sn sc, .slice R rn rc]] w (AnsWk w p A n c) := by
  obtain ⟨W, hW⟩ : ∃ W, W = (w.alloc (.cells #[.slice S sn sc, .slice R rn rc] 29)).alloc (.cells #[.slice none 0 0, .slice none 0 0] 41) := ⟨_, rfl⟩
  have rS : Row W w.heap.size 29 #[.slice S sn sc, .slice R rn rc] := by rw [hW]; exact row_alloc (row_top rfl)
  have rN : Row W (w.heap.size + 1) 41 #[.slice none 0 0, .slice none 0 0] := by rw [hW]; exact row_top (by simp)
  have bel : Below w.heap.size w W := by rw [hW]; exact ((Below.refl _ _).alloc (Nat.le_refl _) _).alloc (by simp) _
  have hp := hd.lt
  have LT := Lib.hid (l7DrawTerm p A n c S sn sc R rn rc d W (hd.next bel) (out_below hs bel) hz)
  have LY := Lib.hid (fun (w1 : World) (g1 : w.grownBy w1 (some p)) => out_dice hs g1)
  have hz1 : sz sSystem d ≤ 1048576 := by omega
  have HZ := Lib.hid hz1
  have zW : w.heap.size + 2 ≤ W.heap.size := rN.lt
  have HW := Lib.hid hW
  have hsn : sn ≤ 1048576 := by
    have h1 := (sys_szs hz1).1
    rw [sz_ints] at h1
    have := (rdq_sig hs).1
    omega
  have k0 : W.cell? ⟨w.heap.size, 0, none⟩ = some (.slice S sn sc) := rS.cell 0
  have k1 : W.cell? ⟨w.heap.size, 1, none⟩ = some (.slice R rn rc) := rS.cell 1
  have HB := Lib.hid (show Row W w.heap.size 29 #[.slice S sn sc, .slice R rn rc] ∧ Row W (w.heap.size + 1) 41 #[.slice none 0 0, .slice none 0 0] ∧ w.grownBy W (some p) from ⟨rS, rN, grown_of_below bel _⟩)
  clear hW hd hs hz hz1 bel rS rN
  go_enter Tryz.func62, Tryz.ntmps62
  go_upto_region 1 with fail
  rw [← HW.out]
  go_wp2_with fail
  refine LT.out.mono ?_
  rintro e w2 ⟨F, fn, fc, t, rfl, h1, h2, h3, h4, h5, d2, g2⟩
  obtain ⟨o, ho⟩ : ∃ o, w2.heap.size = o := ⟨_, rfl⟩
  obtain ⟨W3, hW3⟩ : ∃ W, W = w2.alloc (.cells #[.slice F fn fc, .slice none 0 0] 41) := ⟨_, rfl⟩
  have T : YW w p A n c S sn sc R rn rc o F fn fc t none 0 0 [] F fn fc t W3 := by
    have bb : Below w2.heap.size w2 W3 := by rw [hW3]; exact (Below.refl _ _).alloc (Nat.le_refl _) _
    have hf : RdQ w2 (OutR w2 p (blk none)) sI [.slice F fn fc] t := rdq_rd h1 ⟨h2, h3, h4⟩ fun b hb hbp => ⟨hb, hbp, fun e => by cases e⟩
    have zz := g2.size
    exact ⟨d2.next bb, (Row.away HB.out.1 g2 (fun e => by injection e with e; omega)).next bb, (Row.away HB.out.2.1 g2 (fun e => by injection e with e; omega)).next bb, (HB.out.2.2.trans g2).trans (grown_of_below bb _), hp, by rw [hW3, ← ho]; exact Row.new _ _ _, outR_below hf bb, OwnQ.nil _ _ _ _ _, (fun e => by cases e), by omega, outR_below hf bb⟩
  have HT65 : Hid (t.length ≤ 65) := Lib.hid (by have := h1.1; omega)
  have HW3 := Lib.hid hW3
  have HO := Lib.hid ho
  have L3 := Lib.hid (below p A n c 5 W3 T.d (by omega) (by omega))
  clear h1 h2 h3 h4 h5 d2 g2 hW3 ho LT HB HW k0 k1
  go_wp2_with fail
  rw [← HW3.out, HO.out]
  refine L3.out.mono ?_
  rintro e w4 ⟨x, rfl, x0, x1, d4, g4⟩
  replace T := T.dice d4 g4
  obtain ⟨q, rfl⟩ := Int.eq_ofNat_of_zero_le x0
  have HH := Lib.hid (show HeadW w p A n c S sn sc R rn rc o F fn fc t (.slice F fn fc) (.int .i64 (q : Int)) w4 from ⟨q, F, fn, fc, t, none, 0, 0, [], rfl, rfl, by omega, ⟨Nat.le_refl _, fun x hx => by cases hx⟩, HT65.out, T⟩)
  clear T d4 g4 L3 HW3 HO x0 x1
  go_wp2_with fail
  go_loopw [6, 7] (fun u k wr => HeadW w p A n c S sn sc R rn rc o F fn fc t u k wr) (fun _ k _ => (intOf k).toNat)
  case atStart => exact HH.out
  case round =>
    obtain ⟨q, U, un, uc, us, Q, qn, qc, D, rfl, rfl, hq, hD, hus, T⟩ := hrel
    clear HH
    cases q with
    | zero =>
      have LO := Lib.hid (once p A n c 12 wr T.d (by omega) (by omega))
      have hD4 : SmallS 4 D := ⟨by have := hD.1; omega, hD.2⟩
      have HD := Lib.hid hD4
      have hq4 : qn ≤ 4 := by omega
      have HT4 := Lib.hid T
      clear T hD hq hus hD4
      go_wp2_with fail
      refine LO.out.mono ?_
      rintro e v6 ⟨b, rfl, d6, g6⟩
      have T6 := HT4.out.dice d6 g6
      clear HT4 LO d6 g6
      cases b with
      | false =>
        have rr := T6
        have cN : v6.cell? ⟨w.heap.size + 1, 0, none⟩ = some (.slice none 0 0) := rr.rN.cell 0
        have cN1 : v6.cell? ⟨w.heap.size + 1, 1, none⟩ = some (.slice none 0 0) := rr.rN.cell 1
        have fN : v6.frozen? ⟨w.heap.size + 1, 0, none⟩ = false := rr.rN.free 0
        have fN1 : v6.frozen? ⟨w.heap.size + 1, 1, none⟩ = false := rr.rN.free 1
        have cV : v6.cell? ⟨o, 0, none⟩ = some (.slice F fn fc) := rr.rO.cell 0
        have cR : v6.cell? ⟨o, 1, none⟩ = some (.slice Q qn qc) := rr.rO.cell 1
        have FF := Lib.hid (rr.result (HD.out) HT65.out)
        clear rr T6
        go_wp2
        exact bodyPost_ret (v := .agg #[.slice F fn fc, .slice Q qn qc]) (by simp [results, Tryz.results62, go_sem, cN, cN1]) rfl FF.out
      | true =>
        by_cases hq0 : qn = 0
        · subst hq0
          have rr := T6
          have cN : v6.cell? ⟨w.heap.size + 1, 0, none⟩ = some (.slice none 0 0) := rr.rN.cell 0
          have cN1 : v6.cell? ⟨w.heap.size + 1, 1, none⟩ = some (.slice none 0 0) := rr.rN.cell 1
          have fN : v6.frozen? ⟨w.heap.size + 1, 0, none⟩ = false := rr.rN.free 0
          have fN1 : v6.frozen? ⟨w.heap.size + 1, 1, none⟩ = false := rr.rN.free 1
          have cV : v6.cell? ⟨o, 0, none⟩ = some (.slice F fn fc) := rr.rO.cell 0
          have cR : v6.cell? ⟨o, 1, none⟩ = some (.slice Q 0 qc) := rr.rO.cell 1
          have FF := Lib.hid (rr.result (HD.out) HT65.out)
          clear rr T6
          go_wp2
          exact bodyPost_ret (v := .agg #[.slice F fn fc, .slice Q 0 qc]) (by simp [results, Tryz.results62, go_sem, cN, cN1]) rfl FF.out
        · obtain ⟨g, rfl⟩ := ownS_some T6.own (by omega)
          have c1 : v6.cell? ⟨o, 1, none⟩ = some (.slice (some ⟨g, 0, none⟩) qn qc) := T6.rO.cell 1
          have hqp : (0 : Int) < (qn : Int) := by omega
          have LB := Lib.hid (below p A n c (qn : Int) v6 T6.d (by omega) (by omega))
          have HT6 := Lib.hid T6
          clear T6 hq0
          go_wp2_with fail
          refine LB.out.mono ?_
          rintro e v7 ⟨x, rfl, x0, x1, d7, g7⟩
          have T6 := HT6.out.dice d7 g7
          obtain ⟨j, rfl⟩ := Int.eq_ofNat_of_zero_le x0
          have hj : j < qn := by omega
          have j0 : (0 : Int) ≤ (j : Int) := by omega
          have j1 : (j : Int) < (qn : Int) := by omega
          have LB := Lib.hid (below p A n c 3 v7 T6.d (by omega) (by omega))
          have HT7 := Lib.hid T6
          clear T6 d7 g7 HT6 x0 x1 c1
          go_wp2_with fail
          refine LB.out.mono ?_
          rintro e w7 ⟨z, rfl, z0, z1, d8, g8⟩
          have T7 := HT7.out.dice d8 g8
          clear d8 g8 HT7 LB
          have hz3 : z = 0 ∨ z = 1 ∨ z = 2 := by omega
          clear z0 z1
          rcases hz3 with rfl | rfl | rfl
          · skip
            have HT := Lib.hid (T7.next (drew_below w7))
            have e1 : w7.cell? ⟨o, 1, none⟩ = some (.slice (some ⟨g, 0, none⟩) qn qc) := T7.rO.cell 1
            have hgo : g ≠ o := fun e => T7.hQ (by rw [e]; rfl)
            clear T7
            go_wp2_with fail
            refine AnyT.start (S := (fun w' => w'.cell? ⟨o, 1, none⟩ = some (.slice (some ⟨g, 0, none⟩) qn qc))) (fun _ => false) (by kernel_rfl) e1 (fun hHeld => ?_)
            refine AnyT.takeA (i := 0) (v := ?_) rfl (by kernel_rfl) (by kernel_rfl) (by kernel_rfl) (fun _ _ _ h => h) (Or.inl ⟨by rfl, ?_⟩) ?_
            rotate_left 1
            · (intro w0 _; go_simp; try with_reducible rfl)
            try simp only [Act.put, List.setIfInBounds_toArray, List.set_cons_zero, List.set_cons_succ, List.getElem_toArray, List.getElem_cons_zero, List.getElem_cons_succ]
            refine AnyT.take (i := 1) (v := ?_) rfl (by kernel_rfl) (by kernel_rfl) (by kernel_rfl) (by kernel_rfl) (fun _ _ _ h => h) (Or.inl ⟨by rfl, ?_⟩) (by assumption) ?_
            rotate_left 1
            · (intro w0 hSw; (try dsimp only at hSw); go_simp; try with_reducible rfl)
            try simp only [Act.put, List.setIfInBounds_toArray, List.set_cons_zero, List.set_cons_succ, List.getElem_toArray, List.getElem_cons_zero, List.getElem_cons_succ]
            refine AnyT.takeA (i := 2) (v := ?_) rfl (by kernel_rfl) (by kernel_rfl) (by kernel_rfl) (fun _ _ _ h => h) (Or.inl ⟨by rfl, ?_⟩) ?_
            rotate_left 1
            · (intro w0 _; go_simp; try with_reducible rfl)
            try simp only [Act.put, List.setIfInBounds_toArray, List.set_cons_zero, List.set_cons_succ, List.getElem_toArray, List.getElem_cons_zero, List.getElem_cons_succ]
            refine AnyT.takeA (i := 3) (v := ?_) rfl (by kernel_rfl) (by kernel_rfl) (by kernel_rfl) (fun _ _ _ h => h) (Or.inl ⟨by rfl, ?_⟩) ?_
            rotate_left 1
            · (intro w0 _; go_simp; try with_reducible rfl)
            try simp only [Act.put, List.setIfInBounds_toArray, List.set_cons_zero, List.set_cons_succ, List.getElem_toArray, List.getElem_cons_zero, List.getElem_cons_succ]
            refine AnyT.call (i := 4) (by kernel_rfl) rfl (fun K hK => ?_)
            try simp only [Act.put, List.setIfInBounds_toArray, List.set_cons_zero, List.set_cons_succ, List.getElem_toArray, List.getElem_cons_zero, List.getElem_cons_succ]
            rw [if_pos (by rfl)]
            go_simp
            (go_at_call 64; refine (fromTo p A n c (-1) 5 _ HT.out.d (by omega) (by omega) (by omega) (by omega)).mono ?_; rintro e w8 ⟨y, rfl, -, -, d8, g8⟩; have T8 := HT.out.dice d8 g8; have k1 : w8.cell? ⟨o, 1, none⟩ = some (.slice (some ⟨g, 0, none⟩) qn qc) := T8.rO.cell 1; obtain ⟨⟨uu, m1⟩, m2⟩ := ownS_cell (i := 0) T8.own hj (by omega); rw [Nat.add_zero] at m1 m2; go_wp2_with fail)
            refine hK.out _ _ (fun _ _ => ?_) (fun hKeep => ?_)
            · exact k1
            replace hHeld := hKeep (by first | rfl | trivial) hHeld
            clear hK K hKeep
            try simp only [Act.put, List.setIfInBounds_toArray, List.set_cons_zero, List.set_cons_succ, List.getElem_toArray, List.getElem_cons_zero, List.getElem_cons_succ]
            refine AnyT.takeA (i := 5) (v := ?_) rfl (by kernel_rfl) (by kernel_rfl) (by kernel_rfl) (fun _ _ _ h => h) (Or.inl ⟨by rfl, ?_⟩) ?_
            rotate_left 1
            · (intro w0 _; go_simp; try with_reducible rfl)
            try simp only [Act.put, List.setIfInBounds_toArray, List.set_cons_zero, List.set_cons_succ, List.getElem_toArray, List.getElem_cons_zero, List.getElem_cons_succ]
            refine AnyT.takeA (i := 6) (v := ?_) rfl (by kernel_rfl) (by kernel_rfl) (by kernel_rfl) (fun _ _ _ h => h) (Or.inl ⟨by rfl, ?_⟩) ?_
            rotate_left 1
            · (intro w0 _; go_simp; try with_reducible rfl)
            try simp only [Act.put, List.setIfInBounds_toArray, List.set_cons_zero, List.set_cons_succ, List.getElem_toArray, List.getElem_cons_zero, List.getElem_cons_succ]
            have T9 := T8.set (i := 0) (v := (.int .i64 y)) (y := ((y, (D.getD j (dft sStep)).2.1, (D.getD j (dft sStep)).2.2) : Int × Int × List Int)) hj (by omega) (fun es he => by obtain ⟨V, vn, vc, rfl, hv⟩ := step_parts he; exact step_rdq hv)
            rw [Nat.add_zero] at T9
            have l1 : (w8.setCell ⟨g, j * 3, none⟩ (.int .i64 y)).cell? ⟨o, 1, none⟩ = some (.slice (some ⟨g, 0, none⟩) qn qc) := T9.rO.cell 1
            refine AnyT.call (i := 7) (by kernel_rfl) rfl (fun K hK => ?_)
            try simp only [Act.put, List.setIfInBounds_toArray, List.set_cons_zero, List.set_cons_succ, List.getElem_toArray, List.getElem_cons_zero, List.getElem_cons_succ]
            rw [if_pos (by rfl)]
            go_simp
            refine hK.out _ _ (fun _ _ => ?_) (fun hKeep => ?_)
            · exact l1
            replace hHeld := hKeep (by first | rfl | trivial) hHeld
            clear hK K hKeep
            try simp only [Act.put, List.setIfInBounds_toArray, List.set_cons_zero, List.set_cons_succ, List.getElem_toArray, List.getElem_cons_zero, List.getElem_cons_succ]
            refine AnyT.done (by kernel_rfl) ?_ _
            clear T8 HT k1 d8 g8 e1 m1 m2 l1
            have rr := T9
            have cN : (w8.setCell ⟨g, j * 3, none⟩ (.int .i64 y)).cell? ⟨w.heap.size + 1, 0, none⟩ = some (.slice none 0 0) := rr.rN.cell 0
            have cN1 : (w8.setCell ⟨g, j * 3, none⟩ (.int .i64 y)).cell? ⟨w.heap.size + 1, 1, none⟩ = some (.slice none 0 0) := rr.rN.cell 1
            have fN : (w8.setCell ⟨g, j * 3, none⟩ (.int .i64 y)).frozen? ⟨w.heap.size + 1, 0, none⟩ = false := rr.rN.free 0
            have fN1 : (w8.setCell ⟨g, j * 3, none⟩ (.int .i64 y)).frozen? ⟨w.heap.size + 1, 1, none⟩ = false := rr.rN.free 1
            have cV : (w8.setCell ⟨g, j * 3, none⟩ (.int .i64 y)).cell? ⟨o, 0, none⟩ = some (.slice F fn fc) := rr.rO.cell 0
            have cR : (w8.setCell ⟨g, j * 3, none⟩ (.int .i64 y)).cell? ⟨o, 1, none⟩ = some (.slice (some ⟨g, 0, none⟩) qn qc) := rr.rO.cell 1
            have FF := Lib.hid (rr.result (smallS_set HD.out (smallS_at HD.out)) HT65.out)
            clear rr T9
            go_wp2
            exact bodyPost_ret (v := .agg #[.slice F fn fc, .slice (some ⟨g, 0, none⟩) qn qc]) (by simp [results, Tryz.results62, go_sem, cN, cN1]) rfl FF.out
          · skip
            have HT := Lib.hid (T7.next (drew_below w7))
            have e1 : w7.cell? ⟨o, 1, none⟩ = some (.slice (some ⟨g, 0, none⟩) qn qc) := T7.rO.cell 1
            have hgo : g ≠ o := fun e => T7.hQ (by rw [e]; rfl)
            clear T7
            go_wp2_with fail
            refine AnyT.start (S := (fun w' => w'.cell? ⟨o, 1, none⟩ = some (.slice (some ⟨g, 0, none⟩) qn qc))) (fun _ => false) (by kernel_rfl) e1 (fun hHeld => ?_)
            refine AnyT.takeA (i := 0) (v := ?_) rfl (by kernel_rfl) (by kernel_rfl) (by kernel_rfl) (fun _ _ _ h => h) (Or.inl ⟨by rfl, ?_⟩) ?_
            rotate_left 1
            · (intro w0 _; go_simp; try with_reducible rfl)
            try simp only [Act.put, List.setIfInBounds_toArray, List.set_cons_zero, List.set_cons_succ, List.getElem_toArray, List.getElem_cons_zero, List.getElem_cons_succ]
            refine AnyT.take (i := 1) (v := ?_) rfl (by kernel_rfl) (by kernel_rfl) (by kernel_rfl) (by kernel_rfl) (fun _ _ _ h => h) (Or.inl ⟨by rfl, ?_⟩) (by assumption) ?_
            rotate_left 1
            · (intro w0 hSw; (try dsimp only at hSw); go_simp; try with_reducible rfl)
            try simp only [Act.put, List.setIfInBounds_toArray, List.set_cons_zero, List.set_cons_succ, List.getElem_toArray, List.getElem_cons_zero, List.getElem_cons_succ]
            refine AnyT.takeA (i := 2) (v := ?_) rfl (by kernel_rfl) (by kernel_rfl) (by kernel_rfl) (fun _ _ _ h => h) (Or.inl ⟨by rfl, ?_⟩) ?_
            rotate_left 1
            · (intro w0 _; go_simp; try with_reducible rfl)
            try simp only [Act.put, List.setIfInBounds_toArray, List.set_cons_zero, List.set_cons_succ, List.getElem_toArray, List.getElem_cons_zero, List.getElem_cons_succ]
            refine AnyT.takeA (i := 3) (v := ?_) rfl (by kernel_rfl) (by kernel_rfl) (by kernel_rfl) (fun _ _ _ h => h) (Or.inl ⟨by rfl, ?_⟩) ?_
            rotate_left 1
            · (intro w0 _; go_simp; try with_reducible rfl)
            try simp only [Act.put, List.setIfInBounds_toArray, List.set_cons_zero, List.set_cons_succ, List.getElem_toArray, List.getElem_cons_zero, List.getElem_cons_succ]
            refine AnyT.call (i := 4) (by kernel_rfl) rfl (fun K hK => ?_)
            try simp only [Act.put, List.setIfInBounds_toArray, List.set_cons_zero, List.set_cons_succ, List.getElem_toArray, List.getElem_cons_zero, List.getElem_cons_succ]
            rw [if_pos (by rfl)]
            go_simp
            (go_at_call 64; refine (fromTo p A n c (-1) 3 _ HT.out.d (by omega) (by omega) (by omega) (by omega)).mono ?_; rintro e w8 ⟨y, rfl, -, -, d8, g8⟩; have T8 := HT.out.dice d8 g8; have k1 : w8.cell? ⟨o, 1, none⟩ = some (.slice (some ⟨g, 0, none⟩) qn qc) := T8.rO.cell 1; obtain ⟨⟨uu, m1⟩, m2⟩ := ownS_cell (i := 1) T8.own hj (by omega); go_wp2_with fail)
            refine hK.out _ _ (fun _ _ => ?_) (fun hKeep => ?_)
            · exact k1
            replace hHeld := hKeep (by first | rfl | trivial) hHeld
            clear hK K hKeep
            try simp only [Act.put, List.setIfInBounds_toArray, List.set_cons_zero, List.set_cons_succ, List.getElem_toArray, List.getElem_cons_zero, List.getElem_cons_succ]
            refine AnyT.takeA (i := 5) (v := ?_) rfl (by kernel_rfl) (by kernel_rfl) (by kernel_rfl) (fun _ _ _ h => h) (Or.inl ⟨by rfl, ?_⟩) ?_
            rotate_left 1
            · (intro w0 _; go_simp; try with_reducible rfl)
            try simp only [Act.put, List.setIfInBounds_toArray, List.set_cons_zero, List.set_cons_succ, List.getElem_toArray, List.getElem_cons_zero, List.getElem_cons_succ]
            refine AnyT.takeA (i := 6) (v := ?_) rfl (by kernel_rfl) (by kernel_rfl) (by kernel_rfl) (fun _ _ _ h => h) (Or.inl ⟨by rfl, ?_⟩) ?_
            rotate_left 1
            · (intro w0 _; go_simp; try with_reducible rfl)
            try simp only [Act.put, List.setIfInBounds_toArray, List.set_cons_zero, List.set_cons_succ, List.getElem_toArray, List.getElem_cons_zero, List.getElem_cons_succ]
            have T9 := T8.set (i := 1) (v := (.int .i64 y)) (y := (((D.getD j (dft sStep)).1, y, (D.getD j (dft sStep)).2.2) : Int × Int × List Int)) hj (by omega) (fun es he => by obtain ⟨V, vn, vc, rfl, hv⟩ := step_parts he; exact step_rdq hv)
            have l1 : (w8.setCell ⟨g, j * 3 + 1, none⟩ (.int .i64 y)).cell? ⟨o, 1, none⟩ = some (.slice (some ⟨g, 0, none⟩) qn qc) := T9.rO.cell 1
            refine AnyT.call (i := 7) (by kernel_rfl) rfl (fun K hK => ?_)
            try simp only [Act.put, List.setIfInBounds_toArray, List.set_cons_zero, List.set_cons_succ, List.getElem_toArray, List.getElem_cons_zero, List.getElem_cons_succ]
            rw [if_pos (by rfl)]
            go_simp
            refine hK.out _ _ (fun _ _ => ?_) (fun hKeep => ?_)
            · exact l1
            replace hHeld := hKeep (by first | rfl | trivial) hHeld
            clear hK K hKeep
            try simp only [Act.put, List.setIfInBounds_toArray, List.set_cons_zero, List.set_cons_succ, List.getElem_toArray, List.getElem_cons_zero, List.getElem_cons_succ]
            refine AnyT.done (by kernel_rfl) ?_ _
            clear T8 HT k1 d8 g8 e1 m1 m2 l1
            have rr := T9
            have cN : (w8.setCell ⟨g, j * 3 + 1, none⟩ (.int .i64 y)).cell? ⟨w.heap.size + 1, 0, none⟩ = some (.slice none 0 0) := rr.rN.cell 0
            have cN1 : (w8.setCell ⟨g, j * 3 + 1, none⟩ (.int .i64 y)).cell? ⟨w.heap.size + 1, 1, none⟩ = some (.slice none 0 0) := rr.rN.cell 1
            have fN : (w8.setCell ⟨g, j * 3 + 1, none⟩ (.int .i64 y)).frozen? ⟨w.heap.size + 1, 0, none⟩ = false := rr.rN.free 0
            have fN1 : (w8.setCell ⟨g, j * 3 + 1, none⟩ (.int .i64 y)).frozen? ⟨w.heap.size + 1, 1, none⟩ = false := rr.rN.free 1
            have cV : (w8.setCell ⟨g, j * 3 + 1, none⟩ (.int .i64 y)).cell? ⟨o, 0, none⟩ = some (.slice F fn fc) := rr.rO.cell 0
            have cR : (w8.setCell ⟨g, j * 3 + 1, none⟩ (.int .i64 y)).cell? ⟨o, 1, none⟩ = some (.slice (some ⟨g, 0, none⟩) qn qc) := rr.rO.cell 1
            have FF := Lib.hid (rr.result (smallS_set HD.out (smallS_at HD.out)) HT65.out)
            clear rr T9
            go_wp2
            exact bodyPost_ret (v := .agg #[.slice F fn fc, .slice (some ⟨g, 0, none⟩) qn qc]) (by simp [results, Tryz.results62, go_sem, cN, cN1]) rfl FF.out
          · skip
            have HT := Lib.hid (T7.next (drew_below w7))
            have e1 : w7.cell? ⟨o, 1, none⟩ = some (.slice (some ⟨g, 0, none⟩) qn qc) := T7.rO.cell 1
            have e0 : w7.cell? ⟨w.heap.size, 0, none⟩ = some (.slice S sn sc) := T7.rS.cell 0
            have hgo : g ≠ o := fun e => T7.hQ (by rw [e]; rfl)
            clear T7
            go_wp2_with fail
            refine AnyT.start (S := (fun w' => w'.cell? ⟨o, 1, none⟩ = some (.slice (some ⟨g, 0, none⟩) qn qc) ∧ w'.cell? ⟨w.heap.size, 0, none⟩ = some (.slice S sn sc))) (fun _ => false) (by kernel_rfl) ⟨e1, e0⟩ (fun hHeld => ?_)
            refine AnyT.takeA (i := 0) (v := ?_) rfl (by kernel_rfl) (by kernel_rfl) (by kernel_rfl) (fun _ _ _ h => h) (Or.inl ⟨by rfl, ?_⟩) ?_
            rotate_left 1
            · (intro w0 _; go_simp; try with_reducible rfl)
            try simp only [Act.put, List.setIfInBounds_toArray, List.set_cons_zero, List.set_cons_succ, List.getElem_toArray, List.getElem_cons_zero, List.getElem_cons_succ]
            refine AnyT.take (i := 1) (v := ?_) rfl (by kernel_rfl) (by kernel_rfl) (by kernel_rfl) (by kernel_rfl) (fun _ _ _ h => h) (Or.inl ⟨by rfl, ?_⟩) (by assumption) ?_
            rotate_left 1
            · (intro w0 hSw; (try dsimp only at hSw); go_simp; try with_reducible rfl)
            try simp only [Act.put, List.setIfInBounds_toArray, List.set_cons_zero, List.set_cons_succ, List.getElem_toArray, List.getElem_cons_zero, List.getElem_cons_succ]
            refine AnyT.takeA (i := 2) (v := ?_) rfl (by kernel_rfl) (by kernel_rfl) (by kernel_rfl) (fun _ _ _ h => h) (Or.inl ⟨by rfl, ?_⟩) ?_
            rotate_left 1
            · (intro w0 _; go_simp; try with_reducible rfl)
            try simp only [Act.put, List.setIfInBounds_toArray, List.set_cons_zero, List.set_cons_succ, List.getElem_toArray, List.getElem_cons_zero, List.getElem_cons_succ]
            refine AnyT.takeA (i := 3) (v := ?_) rfl (by kernel_rfl) (by kernel_rfl) (by kernel_rfl) (fun _ _ _ h => h) (Or.inl ⟨by rfl, ?_⟩) ?_
            rotate_left 1
            · (intro w0 _; go_simp; try with_reducible rfl)
            try simp only [Act.put, List.setIfInBounds_toArray, List.set_cons_zero, List.set_cons_succ, List.getElem_toArray, List.getElem_cons_zero, List.getElem_cons_succ]
            refine AnyT.takeA (i := 4) (v := ?_) rfl (by kernel_rfl) (by kernel_rfl) (by kernel_rfl) (fun _ _ _ h => h) (Or.inl ⟨by rfl, ?_⟩) ?_
            rotate_left 1
            · (intro w0 _; go_simp; try with_reducible rfl)
            try simp only [Act.put, List.setIfInBounds_toArray, List.set_cons_zero, List.set_cons_succ, List.getElem_toArray, List.getElem_cons_zero, List.getElem_cons_succ]
            refine AnyT.take (i := 5) (v := ?_) rfl (by kernel_rfl) (by kernel_rfl) (by kernel_rfl) (by kernel_rfl) (fun _ _ _ h => h) (Or.inl ⟨by rfl, ?_⟩) (by assumption) ?_
            rotate_left 1
            · (intro w0 hSw; (try dsimp only at hSw); go_simp; try with_reducible rfl)
            try simp only [Act.put, List.setIfInBounds_toArray, List.set_cons_zero, List.set_cons_succ, List.getElem_toArray, List.getElem_cons_zero, List.getElem_cons_succ]
            refine AnyT.call (i := 6) (by kernel_rfl) rfl (fun K hK => ?_)
            try simp only [Act.put, List.setIfInBounds_toArray, List.set_cons_zero, List.set_cons_succ, List.getElem_toArray, List.getElem_cons_zero, List.getElem_cons_succ]
            rw [if_pos (by rfl)]
            go_simp
            (go_at_call 63; refine (drawAnyN p A n c S sn sc d.1 _ HT.out.d (rdq_sig (LY.out _ HT.out.g)) hsn).mono ?_; rintro e w8 ⟨O, on, oc, xs, rfl, r8, r81, r82, r83, r84, d8, g8, hnew⟩; have T8 := HT.out.dice d8 g8; have k1 : w8.cell? ⟨o, 1, none⟩ = some (.slice (some ⟨g, 0, none⟩) qn qc) := T8.rO.cell 1; have k0 : w8.cell? ⟨w.heap.size, 0, none⟩ = some (.slice S sn sc) := T8.rS.cell 0; obtain ⟨⟨uu, m1⟩, m2⟩ := ownS_cell (i := 2) T8.own hj (by omega); go_wp2_with fail)
            refine hK.out _ _ (fun _ _ => ?_) (fun hKeep => ?_)
            · exact ⟨k1, k0⟩
            replace hHeld := hKeep (by first | rfl | trivial) hHeld
            clear hK K hKeep
            try simp only [Act.put, List.setIfInBounds_toArray, List.set_cons_zero, List.set_cons_succ, List.getElem_toArray, List.getElem_cons_zero, List.getElem_cons_succ]
            refine AnyT.takeA (i := 7) (v := ?_) rfl (by kernel_rfl) (by kernel_rfl) (by kernel_rfl) (fun _ _ _ h => h) (Or.inl ⟨by rfl, ?_⟩) ?_
            rotate_left 1
            · (intro w0 _; go_simp; try with_reducible rfl)
            try simp only [Act.put, List.setIfInBounds_toArray, List.set_cons_zero, List.set_cons_succ, List.getElem_toArray, List.getElem_cons_zero, List.getElem_cons_succ]
            refine AnyT.takeA (i := 8) (v := ?_) rfl (by kernel_rfl) (by kernel_rfl) (by kernel_rfl) (fun _ _ _ h => h) (Or.inl ⟨by rfl, ?_⟩) ?_
            rotate_left 1
            · (intro w0 _; go_simp; try with_reducible rfl)
            try simp only [Act.put, List.setIfInBounds_toArray, List.set_cons_zero, List.set_cons_succ, List.getElem_toArray, List.getElem_cons_zero, List.getElem_cons_succ]
            have hX : RdQ w8 (OutR w8 p (some g)) sI [.slice O on oc] xs := rdq_seg r8.1 ⟨r81, r82, r83⟩ fun hn => by
              obtain ⟨b, off, e, hb, hp, hcell⟩ := r8.2 hn
              exact ⟨b, off, e, ⟨hb, hp, fun e2 => by have h1 := hnew b (by rw [e]; rfl); have h2 := (HT.out.own.ge g rfl).2; injection e2 with e2; omega⟩, hcell⟩
            have hxl : xs.length ≤ 65 := by have := r8.1; omega
            have T9 := T8.set (i := 2) (v := (.slice O on oc)) (y := (((D.getD j (dft sStep)).1, (D.getD j (dft sStep)).2.1, xs) : Int × Int × List Int)) hj (by omega) (fun es he => by obtain ⟨V, vn, vc, rfl, hv⟩ := step_parts he; exact step_rdq hX)
            have l1 : (w8.setCell ⟨g, j * 3 + 2, none⟩ (.slice O on oc)).cell? ⟨o, 1, none⟩ = some (.slice (some ⟨g, 0, none⟩) qn qc) := T9.rO.cell 1
            have l0 : (w8.setCell ⟨g, j * 3 + 2, none⟩ (.slice O on oc)).cell? ⟨w.heap.size, 0, none⟩ = some (.slice S sn sc) := T9.rS.cell 0
            refine AnyT.call (i := 9) (by kernel_rfl) rfl (fun K hK => ?_)
            try simp only [Act.put, List.setIfInBounds_toArray, List.set_cons_zero, List.set_cons_succ, List.getElem_toArray, List.getElem_cons_zero, List.getElem_cons_succ]
            rw [if_pos (by rfl)]
            go_simp
            refine hK.out _ _ (fun _ _ => ?_) (fun hKeep => ?_)
            · exact ⟨l1, l0⟩
            replace hHeld := hKeep (by first | rfl | trivial) hHeld
            clear hK K hKeep
            try simp only [Act.put, List.setIfInBounds_toArray, List.set_cons_zero, List.set_cons_succ, List.getElem_toArray, List.getElem_cons_zero, List.getElem_cons_succ]
            refine AnyT.done (by kernel_rfl) ?_ _
            clear T8 HT k1 k0 d8 g8 r8 r81 r82 r83 r84 hnew hX e1 m1 m2 l1 l0 e0
            have rr := T9
            have cN : (w8.setCell ⟨g, j * 3 + 2, none⟩ (.slice O on oc)).cell? ⟨w.heap.size + 1, 0, none⟩ = some (.slice none 0 0) := rr.rN.cell 0
            have cN1 : (w8.setCell ⟨g, j * 3 + 2, none⟩ (.slice O on oc)).cell? ⟨w.heap.size + 1, 1, none⟩ = some (.slice none 0 0) := rr.rN.cell 1
            have fN : (w8.setCell ⟨g, j * 3 + 2, none⟩ (.slice O on oc)).frozen? ⟨w.heap.size + 1, 0, none⟩ = false := rr.rN.free 0
            have fN1 : (w8.setCell ⟨g, j * 3 + 2, none⟩ (.slice O on oc)).frozen? ⟨w.heap.size + 1, 1, none⟩ = false := rr.rN.free 1
            have cV : (w8.setCell ⟨g, j * 3 + 2, none⟩ (.slice O on oc)).cell? ⟨o, 0, none⟩ = some (.slice F fn fc) := rr.rO.cell 0
            have cR : (w8.setCell ⟨g, j * 3 + 2, none⟩ (.slice O on oc)).cell? ⟨o, 1, none⟩ = some (.slice (some ⟨g, 0, none⟩) qn qc) := rr.rO.cell 1
            have FF := Lib.hid (rr.result (smallS_set HD.out hxl) HT65.out)
            clear rr T9
            go_wp2
            exact bodyPost_ret (v := .agg #[.slice F fn fc, .slice (some ⟨g, 0, none⟩) qn qc]) (by simp [results, Tryz.results62, go_sem, cN, cN1]) rfl FF.out
    | succ q =>
      have c0 : wr.cell? ⟨w.heap.size, 0, none⟩ = some (.slice S sn sc) := T.rS.cell 0
      have c1 : wr.cell? ⟨w.heap.size, 1, none⟩ = some (.slice R rn rc) := T.rS.cell 1
      have hzu : sz sI us ≤ 1048576 := by rw [sz_ints]; omega
      have LS := Lib.hid (specStepsFromX _ _ _ d us wr (out_rd (LY.out wr T.g)) (T.v.rd fun b hb => hb.1) HZ.out hzu)
      go_wp2_with fail
      refine LS.out.mono ?_
      rintro e w5 ⟨L, ln, lc, rfl, oL, bb⟩
      have hlen : (stepsI d.1 d.2 us).length = ln := by
        obtain ⟨A1, c1, e1, -⟩ := oL.rd.slice
        injection e1 with _ e1
        exact e1.symm
      have hln : ln ≤ 1048576 := by rw [← hlen]; exact sz_len stepsI_sz
      have hge := T.own.ge
      have hpw : p < wr.heap.size := Nat.lt_of_lt_of_le hp T.g.size
      have QL : RdQ w5 (OutR w5 p (blk Q)) sStepS [.slice L ln lc] (stepsI d.1 d.2 us) := (owned_rdq oL).mono fun b hb => ⟨hb.2, by omega, fun e => by have := (hge b e.symm).2; omega⟩
      replace T := T.next bb
      have hsm : Hid (∀ j, (((stepsI d.1 d.2 us).getD j (dft sStep)).2.2 : List Int).length ≤ 60) := Lib.hid (fun j => stepsI_small)
      obtain ⟨LL, hLL⟩ : ∃ l, stepsI d.1 d.2 us = l := ⟨_, rfl⟩
      rw [hLL] at QL hsm
      clear c0 c1 LS oL bb hge hpw hlen hLL hzu
      by_cases hl0 : ln = 0
      · subst hl0
        clear QL hsm hln
        have LO := Lib.hid (once p A n c 12 w5 T.d (by omega) (by omega))
        have hD4 : SmallS 4 D := ⟨by have := hD.1; omega, hD.2⟩
        have HD := Lib.hid hD4
        have hq4 : qn ≤ 4 := by omega
        have HT4 := Lib.hid T
        clear T hD hq hus hD4
        go_wp2_with fail
        refine LO.out.mono ?_
        rintro e v6 ⟨b, rfl, d6, g6⟩
        have T6 := HT4.out.dice d6 g6
        clear HT4 LO d6 g6
        cases b with
        | false =>
          have rr := T6
          have cN : v6.cell? ⟨w.heap.size + 1, 0, none⟩ = some (.slice none 0 0) := rr.rN.cell 0
          have cN1 : v6.cell? ⟨w.heap.size + 1, 1, none⟩ = some (.slice none 0 0) := rr.rN.cell 1
          have fN : v6.frozen? ⟨w.heap.size + 1, 0, none⟩ = false := rr.rN.free 0
          have fN1 : v6.frozen? ⟨w.heap.size + 1, 1, none⟩ = false := rr.rN.free 1
          have cV : v6.cell? ⟨o, 0, none⟩ = some (.slice F fn fc) := rr.rO.cell 0
          have cR : v6.cell? ⟨o, 1, none⟩ = some (.slice Q qn qc) := rr.rO.cell 1
          have FF := Lib.hid (rr.result (HD.out) HT65.out)
          clear rr T6
          go_wp2
          exact bodyPost_ret (v := .agg #[.slice F fn fc, .slice Q qn qc]) (by simp [results, Tryz.results62, go_sem, cN, cN1]) rfl FF.out
        | true =>
          by_cases hq0 : qn = 0
          · subst hq0
            have rr := T6
            have cN : v6.cell? ⟨w.heap.size + 1, 0, none⟩ = some (.slice none 0 0) := rr.rN.cell 0
            have cN1 : v6.cell? ⟨w.heap.size + 1, 1, none⟩ = some (.slice none 0 0) := rr.rN.cell 1
            have fN : v6.frozen? ⟨w.heap.size + 1, 0, none⟩ = false := rr.rN.free 0
            have fN1 : v6.frozen? ⟨w.heap.size + 1, 1, none⟩ = false := rr.rN.free 1
            have cV : v6.cell? ⟨o, 0, none⟩ = some (.slice F fn fc) := rr.rO.cell 0
            have cR : v6.cell? ⟨o, 1, none⟩ = some (.slice Q 0 qc) := rr.rO.cell 1
            have FF := Lib.hid (rr.result (HD.out) HT65.out)
            clear rr T6
            go_wp2
            exact bodyPost_ret (v := .agg #[.slice F fn fc, .slice Q 0 qc]) (by simp [results, Tryz.results62, go_sem, cN, cN1]) rfl FF.out
          · obtain ⟨g, rfl⟩ := ownS_some T6.own (by omega)
            have c1 : v6.cell? ⟨o, 1, none⟩ = some (.slice (some ⟨g, 0, none⟩) qn qc) := T6.rO.cell 1
            have hqp : (0 : Int) < (qn : Int) := by omega
            have LB := Lib.hid (below p A n c (qn : Int) v6 T6.d (by omega) (by omega))
            have HT6 := Lib.hid T6
            clear T6 hq0
            go_wp2_with fail
            refine LB.out.mono ?_
            rintro e v7 ⟨x, rfl, x0, x1, d7, g7⟩
            have T6 := HT6.out.dice d7 g7
            obtain ⟨j, rfl⟩ := Int.eq_ofNat_of_zero_le x0
            have hj : j < qn := by omega
            have j0 : (0 : Int) ≤ (j : Int) := by omega
            have j1 : (j : Int) < (qn : Int) := by omega
            have LB := Lib.hid (below p A n c 3 v7 T6.d (by omega) (by omega))
            have HT7 := Lib.hid T6
            clear T6 d7 g7 HT6 x0 x1 c1
            go_wp2_with fail
            refine LB.out.mono ?_
            rintro e w7 ⟨z, rfl, z0, z1, d8, g8⟩
            have T7 := HT7.out.dice d8 g8
            clear d8 g8 HT7 LB
            have hz3 : z = 0 ∨ z = 1 ∨ z = 2 := by omega
            clear z0 z1
            rcases hz3 with rfl | rfl | rfl
            · skip
              have HT := Lib.hid (T7.next (drew_below w7))
              have e1 : w7.cell? ⟨o, 1, none⟩ = some (.slice (some ⟨g, 0, none⟩) qn qc) := T7.rO.cell 1
              have hgo : g ≠ o := fun e => T7.hQ (by rw [e]; rfl)
              clear T7
              go_wp2_with fail
              refine AnyT.start (S := (fun w' => w'.cell? ⟨o, 1, none⟩ = some (.slice (some ⟨g, 0, none⟩) qn qc))) (fun _ => false) (by kernel_rfl) e1 (fun hHeld => ?_)
              refine AnyT.takeA (i := 0) (v := ?_) rfl (by kernel_rfl) (by kernel_rfl) (by kernel_rfl) (fun _ _ _ h => h) (Or.inl ⟨by rfl, ?_⟩) ?_
              rotate_left 1
              · (intro w0 _; go_simp; try with_reducible rfl)
              try simp only [Act.put, List.setIfInBounds_toArray, List.set_cons_zero, List.set_cons_succ, List.getElem_toArray, List.getElem_cons_zero, List.getElem_cons_succ]
              refine AnyT.take (i := 1) (v := ?_) rfl (by kernel_rfl) (by kernel_rfl) (by kernel_rfl) (by kernel_rfl) (fun _ _ _ h => h) (Or.inl ⟨by rfl, ?_⟩) (by assumption) ?_
              rotate_left 1
              · (intro w0 hSw; (try dsimp only at hSw); go_simp; try with_reducible rfl)
              try simp only [Act.put, List.setIfInBounds_toArray, List.set_cons_zero, List.set_cons_succ, List.getElem_toArray, List.getElem_cons_zero, List.getElem_cons_succ]
              refine AnyT.takeA (i := 2) (v := ?_) rfl (by kernel_rfl) (by kernel_rfl) (by kernel_rfl) (fun _ _ _ h => h) (Or.inl ⟨by rfl, ?_⟩) ?_
              rotate_left 1
              · (intro w0 _; go_simp; try with_reducible rfl)
              try simp only [Act.put, List.setIfInBounds_toArray, List.set_cons_zero, List.set_cons_succ, List.getElem_toArray, List.getElem_cons_zero, List.getElem_cons_succ]
              refine AnyT.takeA (i := 3) (v := ?_) rfl (by kernel_rfl) (by kernel_rfl) (by kernel_rfl) (fun _ _ _ h => h) (Or.inl ⟨by rfl, ?_⟩) ?_
              rotate_left 1
              · (intro w0 _; go_simp; try with_reducible rfl)
              try simp only [Act.put, List.setIfInBounds_toArray, List.set_cons_zero, List.set_cons_succ, List.getElem_toArray, List.getElem_cons_zero, List.getElem_cons_succ]
              refine AnyT.call (i := 4) (by kernel_rfl) rfl (fun K hK => ?_)
              try simp only [Act.put, List.setIfInBounds_toArray, List.set_cons_zero, List.set_cons_succ, List.getElem_toArray, List.getElem_cons_zero, List.getElem_cons_succ]
              rw [if_pos (by rfl)]
              go_simp
              (go_at_call 64; refine (fromTo p A n c (-1) 5 _ HT.out.d (by omega) (by omega) (by omega) (by omega)).mono ?_; rintro e w8 ⟨y, rfl, -, -, d8, g8⟩; have T8 := HT.out.dice d8 g8; have k1 : w8.cell? ⟨o, 1, none⟩ = some (.slice (some ⟨g, 0, none⟩) qn qc) := T8.rO.cell 1; obtain ⟨⟨uu, m1⟩, m2⟩ := ownS_cell (i := 0) T8.own hj (by omega); rw [Nat.add_zero] at m1 m2; go_wp2_with fail)
              refine hK.out _ _ (fun _ _ => ?_) (fun hKeep => ?_)
              · exact k1
              replace hHeld := hKeep (by first | rfl | trivial) hHeld
              clear hK K hKeep
              try simp only [Act.put, List.setIfInBounds_toArray, List.set_cons_zero, List.set_cons_succ, List.getElem_toArray, List.getElem_cons_zero, List.getElem_cons_succ]
              refine AnyT.takeA (i := 5) (v := ?_) rfl (by kernel_rfl) (by kernel_rfl) (by kernel_rfl) (fun _ _ _ h => h) (Or.inl ⟨by rfl, ?_⟩) ?_
              rotate_left 1
              · (intro w0 _; go_simp; try with_reducible rfl)
              try simp only [Act.put, List.setIfInBounds_toArray, List.set_cons_zero, List.set_cons_succ, List.getElem_toArray, List.getElem_cons_zero, List.getElem_cons_succ]
              refine AnyT.takeA (i := 6) (v := ?_) rfl (by kernel_rfl) (by kernel_rfl) (by kernel_rfl) (fun _ _ _ h => h) (Or.inl ⟨by rfl, ?_⟩) ?_
              rotate_left 1
              · (intro w0 _; go_simp; try with_reducible rfl)
              try simp only [Act.put, List.setIfInBounds_toArray, List.set_cons_zero, List.set_cons_succ, List.getElem_toArray, List.getElem_cons_zero, List.getElem_cons_succ]
              have T9 := T8.set (i := 0) (v := (.int .i64 y)) (y := ((y, (D.getD j (dft sStep)).2.1, (D.getD j (dft sStep)).2.2) : Int × Int × List Int)) hj (by omega) (fun es he => by obtain ⟨V, vn, vc, rfl, hv⟩ := step_parts he; exact step_rdq hv)
              rw [Nat.add_zero] at T9
              have l1 : (w8.setCell ⟨g, j * 3, none⟩ (.int .i64 y)).cell? ⟨o, 1, none⟩ = some (.slice (some ⟨g, 0, none⟩) qn qc) := T9.rO.cell 1
              refine AnyT.call (i := 7) (by kernel_rfl) rfl (fun K hK => ?_)
              try simp only [Act.put, List.setIfInBounds_toArray, List.set_cons_zero, List.set_cons_succ, List.getElem_toArray, List.getElem_cons_zero, List.getElem_cons_succ]
              rw [if_pos (by rfl)]
              go_simp
              refine hK.out _ _ (fun _ _ => ?_) (fun hKeep => ?_)
              · exact l1
              replace hHeld := hKeep (by first | rfl | trivial) hHeld
              clear hK K hKeep
              try simp only [Act.put, List.setIfInBounds_toArray, List.set_cons_zero, List.set_cons_succ, List.getElem_toArray, List.getElem_cons_zero, List.getElem_cons_succ]
              refine AnyT.done (by kernel_rfl) ?_ _
              clear T8 HT k1 d8 g8 e1 m1 m2 l1
              have rr := T9
              have cN : (w8.setCell ⟨g, j * 3, none⟩ (.int .i64 y)).cell? ⟨w.heap.size + 1, 0, none⟩ = some (.slice none 0 0) := rr.rN.cell 0
              have cN1 : (w8.setCell ⟨g, j * 3, none⟩ (.int .i64 y)).cell? ⟨w.heap.size + 1, 1, none⟩ = some (.slice none 0 0) := rr.rN.cell 1
              have fN : (w8.setCell ⟨g, j * 3, none⟩ (.int .i64 y)).frozen? ⟨w.heap.size + 1, 0, none⟩ = false := rr.rN.free 0
              have fN1 : (w8.setCell ⟨g, j * 3, none⟩ (.int .i64 y)).frozen? ⟨w.heap.size + 1, 1, none⟩ = false := rr.rN.free 1
              have cV : (w8.setCell ⟨g, j * 3, none⟩ (.int .i64 y)).cell? ⟨o, 0, none⟩ = some (.slice F fn fc) := rr.rO.cell 0
              have cR : (w8.setCell ⟨g, j * 3, none⟩ (.int .i64 y)).cell? ⟨o, 1, none⟩ = some (.slice (some ⟨g, 0, none⟩) qn qc) := rr.rO.cell 1
              have FF := Lib.hid (rr.result (smallS_set HD.out (smallS_at HD.out)) HT65.out)
              clear rr T9
              go_wp2
              exact bodyPost_ret (v := .agg #[.slice F fn fc, .slice (some ⟨g, 0, none⟩) qn qc]) (by simp [results, Tryz.results62, go_sem, cN, cN1]) rfl FF.out
            · skip
              have HT := Lib.hid (T7.next (drew_below w7))
              have e1 : w7.cell? ⟨o, 1, none⟩ = some (.slice (some ⟨g, 0, none⟩) qn qc) := T7.rO.cell 1
              have hgo : g ≠ o := fun e => T7.hQ (by rw [e]; rfl)
              clear T7
              go_wp2_with fail
              refine AnyT.start (S := (fun w' => w'.cell? ⟨o, 1, none⟩ = some (.slice (some ⟨g, 0, none⟩) qn qc))) (fun _ => false) (by kernel_rfl) e1 (fun hHeld => ?_)
              refine AnyT.takeA (i := 0) (v := ?_) rfl (by kernel_rfl) (by kernel_rfl) (by kernel_rfl) (fun _ _ _ h => h) (Or.inl ⟨by rfl, ?_⟩) ?_
              rotate_left 1
              · (intro w0 _; go_simp; try with_reducible rfl)
              try simp only [Act.put, List.setIfInBounds_toArray, List.set_cons_zero, List.set_cons_succ, List.getElem_toArray, List.getElem_cons_zero, List.getElem_cons_succ]
              refine AnyT.take (i := 1) (v := ?_) rfl (by kernel_rfl) (by kernel_rfl) (by kernel_rfl) (by kernel_rfl) (fun _ _ _ h => h) (Or.inl ⟨by rfl, ?_⟩) (by assumption) ?_
              rotate_left 1
              · (intro w0 hSw; (try dsimp only at hSw); go_simp; try with_reducible rfl)
              try simp only [Act.put, List.setIfInBounds_toArray, List.set_cons_zero, List.set_cons_succ, List.getElem_toArray, List.getElem_cons_zero, List.getElem_cons_succ]
              refine AnyT.takeA (i := 2) (v := ?_) rfl (by kernel_rfl) (by kernel_rfl) (by kernel_rfl) (fun _ _ _ h => h) (Or.inl ⟨by rfl, ?_⟩) ?_
              rotate_left 1
              · (intro w0 _; go_simp; try with_reducible rfl)
              try simp only [Act.put, List.setIfInBounds_toArray, List.set_cons_zero, List.set_cons_succ, List.getElem_toArray, List.getElem_cons_zero, List.getElem_cons_succ]
              refine AnyT.takeA (i := 3) (v := ?_) rfl (by kernel_rfl) (by kernel_rfl) (by kernel_rfl) (fun _ _ _ h => h) (Or.inl ⟨by rfl, ?_⟩) ?_
              rotate_left 1
              · (intro w0 _; go_simp; try with_reducible rfl)
              try simp only [Act.put, List.setIfInBounds_toArray, List.set_cons_zero, List.set_cons_succ, List.getElem_toArray, List.getElem_cons_zero, List.getElem_cons_succ]
              refine AnyT.call (i := 4) (by kernel_rfl) rfl (fun K hK => ?_)
              try simp only [Act.put, List.setIfInBounds_toArray, List.set_cons_zero, List.set_cons_succ, List.getElem_toArray, List.getElem_cons_zero, List.getElem_cons_succ]
              rw [if_pos (by rfl)]
              go_simp
              (go_at_call 64; refine (fromTo p A n c (-1) 3 _ HT.out.d (by omega) (by omega) (by omega) (by omega)).mono ?_; rintro e w8 ⟨y, rfl, -, -, d8, g8⟩; have T8 := HT.out.dice d8 g8; have k1 : w8.cell? ⟨o, 1, none⟩ = some (.slice (some ⟨g, 0, none⟩) qn qc) := T8.rO.cell 1; obtain ⟨⟨uu, m1⟩, m2⟩ := ownS_cell (i := 1) T8.own hj (by omega); go_wp2_with fail)
              refine hK.out _ _ (fun _ _ => ?_) (fun hKeep => ?_)
              · exact k1
              replace hHeld := hKeep (by first | rfl | trivial) hHeld
              clear hK K hKeep
              try simp only [Act.put, List.setIfInBounds_toArray, List.set_cons_zero, List.set_cons_succ, List.getElem_toArray, List.getElem_cons_zero, List.getElem_cons_succ]
              refine AnyT.takeA (i := 5) (v := ?_) rfl (by kernel_rfl) (by kernel_rfl) (by kernel_rfl) (fun _ _ _ h => h) (Or.inl ⟨by rfl, ?_⟩) ?_
              rotate_left 1
              · (intro w0 _; go_simp; try with_reducible rfl)
              try simp only [Act.put, List.setIfInBounds_toArray, List.set_cons_zero, List.set_cons_succ, List.getElem_toArray, List.getElem_cons_zero, List.getElem_cons_succ]
              refine AnyT.takeA (i := 6) (v := ?_) rfl (by kernel_rfl) (by kernel_rfl) (by kernel_rfl) (fun _ _ _ h => h) (Or.inl ⟨by rfl, ?_⟩) ?_
              rotate_left 1
              · (intro w0 _; go_simp; try with_reducible rfl)
              try simp only [Act.put, List.setIfInBounds_toArray, List.set_cons_zero, List.set_cons_succ, List.getElem_toArray, List.getElem_cons_zero, List.getElem_cons_succ]
              have T9 := T8.set (i := 1) (v := (.int .i64 y)) (y := (((D.getD j (dft sStep)).1, y, (D.getD j (dft sStep)).2.2) : Int × Int × List Int)) hj (by omega) (fun es he => by obtain ⟨V, vn, vc, rfl, hv⟩ := step_parts he; exact step_rdq hv)
              have l1 : (w8.setCell ⟨g, j * 3 + 1, none⟩ (.int .i64 y)).cell? ⟨o, 1, none⟩ = some (.slice (some ⟨g, 0, none⟩) qn qc) := T9.rO.cell 1
              refine AnyT.call (i := 7) (by kernel_rfl) rfl (fun K hK => ?_)
              try simp only [Act.put, List.setIfInBounds_toArray, List.set_cons_zero, List.set_cons_succ, List.getElem_toArray, List.getElem_cons_zero, List.getElem_cons_succ]
              rw [if_pos (by rfl)]
              go_simp
              refine hK.out _ _ (fun _ _ => ?_) (fun hKeep => ?_)
              · exact l1
              replace hHeld := hKeep (by first | rfl | trivial) hHeld
              clear hK K hKeep
              try simp only [Act.put, List.setIfInBounds_toArray, List.set_cons_zero, List.set_cons_succ, List.getElem_toArray, List.getElem_cons_zero, List.getElem_cons_succ]
              refine AnyT.done (by kernel_rfl) ?_ _
              clear T8 HT k1 d8 g8 e1 m1 m2 l1
              have rr := T9
              have cN : (w8.setCell ⟨g, j * 3 + 1, none⟩ (.int .i64 y)).cell? ⟨w.heap.size + 1, 0, none⟩ = some (.slice none 0 0) := rr.rN.cell 0
              have cN1 : (w8.setCell ⟨g, j * 3 + 1, none⟩ (.int .i64 y)).cell? ⟨w.heap.size + 1, 1, none⟩ = some (.slice none 0 0) := rr.rN.cell 1
              have fN : (w8.setCell ⟨g, j * 3 + 1, none⟩ (.int .i64 y)).frozen? ⟨w.heap.size + 1, 0, none⟩ = false := rr.rN.free 0
              have fN1 : (w8.setCell ⟨g, j * 3 + 1, none⟩ (.int .i64 y)).frozen? ⟨w.heap.size + 1, 1, none⟩ = false := rr.rN.free 1
              have cV : (w8.setCell ⟨g, j * 3 + 1, none⟩ (.int .i64 y)).cell? ⟨o, 0, none⟩ = some (.slice F fn fc) := rr.rO.cell 0
              have cR : (w8.setCell ⟨g, j * 3 + 1, none⟩ (.int .i64 y)).cell? ⟨o, 1, none⟩ = some (.slice (some ⟨g, 0, none⟩) qn qc) := rr.rO.cell 1
              have FF := Lib.hid (rr.result (smallS_set HD.out (smallS_at HD.out)) HT65.out)
              clear rr T9
              go_wp2
              exact bodyPost_ret (v := .agg #[.slice F fn fc, .slice (some ⟨g, 0, none⟩) qn qc]) (by simp [results, Tryz.results62, go_sem, cN, cN1]) rfl FF.out
            · skip
              have HT := Lib.hid (T7.next (drew_below w7))
              have e1 : w7.cell? ⟨o, 1, none⟩ = some (.slice (some ⟨g, 0, none⟩) qn qc) := T7.rO.cell 1
              have e0 : w7.cell? ⟨w.heap.size, 0, none⟩ = some (.slice S sn sc) := T7.rS.cell 0
              have hgo : g ≠ o := fun e => T7.hQ (by rw [e]; rfl)
              clear T7
              go_wp2_with fail
              refine AnyT.start (S := (fun w' => w'.cell? ⟨o, 1, none⟩ = some (.slice (some ⟨g, 0, none⟩) qn qc) ∧ w'.cell? ⟨w.heap.size, 0, none⟩ = some (.slice S sn sc))) (fun _ => false) (by kernel_rfl) ⟨e1, e0⟩ (fun hHeld => ?_)
              refine AnyT.takeA (i := 0) (v := ?_) rfl (by kernel_rfl) (by kernel_rfl) (by kernel_rfl) (fun _ _ _ h => h) (Or.inl ⟨by rfl, ?_⟩) ?_
              rotate_left 1
              · (intro w0 _; go_simp; try with_reducible rfl)
              try simp only [Act.put, List.setIfInBounds_toArray, List.set_cons_zero, List.set_cons_succ, List.getElem_toArray, List.getElem_cons_zero, List.getElem_cons_succ]
              refine AnyT.take (i := 1) (v := ?_) rfl (by kernel_rfl) (by kernel_rfl) (by kernel_rfl) (by kernel_rfl) (fun _ _ _ h => h) (Or.inl ⟨by rfl, ?_⟩) (by assumption) ?_
              rotate_left 1
              · (intro w0 hSw; (try dsimp only at hSw); go_simp; try with_reducible rfl)
              try simp only [Act.put, List.setIfInBounds_toArray, List.set_cons_zero, List.set_cons_succ, List.getElem_toArray, List.getElem_cons_zero, List.getElem_cons_succ]
              refine AnyT.takeA (i := 2) (v := ?_) rfl (by kernel_rfl) (by kernel_rfl) (by kernel_rfl) (fun _ _ _ h => h) (Or.inl ⟨by rfl, ?_⟩) ?_
              rotate_left 1
              · (intro w0 _; go_simp; try with_reducible rfl)
              try simp only [Act.put, List.setIfInBounds_toArray, List.set_cons_zero, List.set_cons_succ, List.getElem_toArray, List.getElem_cons_zero, List.getElem_cons_succ]
              refine AnyT.takeA (i := 3) (v := ?_) rfl (by kernel_rfl) (by kernel_rfl) (by kernel_rfl) (fun _ _ _ h => h) (Or.inl ⟨by rfl, ?_⟩) ?_
              rotate_left 1
              · (intro w0 _; go_simp; try with_reducible rfl)
              try simp only [Act.put, List.setIfInBounds_toArray, List.set_cons_zero, List.set_cons_succ, List.getElem_toArray, List.getElem_cons_zero, List.getElem_cons_succ]
              refine AnyT.takeA (i := 4) (v := ?_) rfl (by kernel_rfl) (by kernel_rfl) (by kernel_rfl) (fun _ _ _ h => h) (Or.inl ⟨by rfl, ?_⟩) ?_
              rotate_left 1
              · (intro w0 _; go_simp; try with_reducible rfl)
              try simp only [Act.put, List.setIfInBounds_toArray, List.set_cons_zero, List.set_cons_succ, List.getElem_toArray, List.getElem_cons_zero, List.getElem_cons_succ]
              refine AnyT.take (i := 5) (v := ?_) rfl (by kernel_rfl) (by kernel_rfl) (by kernel_rfl) (by kernel_rfl) (fun _ _ _ h => h) (Or.inl ⟨by rfl, ?_⟩) (by assumption) ?_
              rotate_left 1
              · (intro w0 hSw; (try dsimp only at hSw); go_simp; try with_reducible rfl)
              try simp only [Act.put, List.setIfInBounds_toArray, List.set_cons_zero, List.set_cons_succ, List.getElem_toArray, List.getElem_cons_zero, List.getElem_cons_succ]
              refine AnyT.call (i := 6) (by kernel_rfl) rfl (fun K hK => ?_)
              try simp only [Act.put, List.setIfInBounds_toArray, List.set_cons_zero, List.set_cons_succ, List.getElem_toArray, List.getElem_cons_zero, List.getElem_cons_succ]
              rw [if_pos (by rfl)]
              go_simp
              (go_at_call 63; refine (drawAnyN p A n c S sn sc d.1 _ HT.out.d (rdq_sig (LY.out _ HT.out.g)) hsn).mono ?_; rintro e w8 ⟨O, on, oc, xs, rfl, r8, r81, r82, r83, r84, d8, g8, hnew⟩; have T8 := HT.out.dice d8 g8; have k1 : w8.cell? ⟨o, 1, none⟩ = some (.slice (some ⟨g, 0, none⟩) qn qc) := T8.rO.cell 1; have k0 : w8.cell? ⟨w.heap.size, 0, none⟩ = some (.slice S sn sc) := T8.rS.cell 0; obtain ⟨⟨uu, m1⟩, m2⟩ := ownS_cell (i := 2) T8.own hj (by omega); go_wp2_with fail)
              refine hK.out _ _ (fun _ _ => ?_) (fun hKeep => ?_)
              · exact ⟨k1, k0⟩
              replace hHeld := hKeep (by first | rfl | trivial) hHeld
              clear hK K hKeep
              try simp only [Act.put, List.setIfInBounds_toArray, List.set_cons_zero, List.set_cons_succ, List.getElem_toArray, List.getElem_cons_zero, List.getElem_cons_succ]
              refine AnyT.takeA (i := 7) (v := ?_) rfl (by kernel_rfl) (by kernel_rfl) (by kernel_rfl) (fun _ _ _ h => h) (Or.inl ⟨by rfl, ?_⟩) ?_
              rotate_left 1
              · (intro w0 _; go_simp; try with_reducible rfl)
              try simp only [Act.put, List.setIfInBounds_toArray, List.set_cons_zero, List.set_cons_succ, List.getElem_toArray, List.getElem_cons_zero, List.getElem_cons_succ]
              refine AnyT.takeA (i := 8) (v := ?_) rfl (by kernel_rfl) (by kernel_rfl) (by kernel_rfl) (fun _ _ _ h => h) (Or.inl ⟨by rfl, ?_⟩) ?_
              rotate_left 1
              · (intro w0 _; go_simp; try with_reducible rfl)
              try simp only [Act.put, List.setIfInBounds_toArray, List.set_cons_zero, List.set_cons_succ, List.getElem_toArray, List.getElem_cons_zero, List.getElem_cons_succ]
              have hX : RdQ w8 (OutR w8 p (some g)) sI [.slice O on oc] xs := rdq_seg r8.1 ⟨r81, r82, r83⟩ fun hn => by
                obtain ⟨b, off, e, hb, hp, hcell⟩ := r8.2 hn
                exact ⟨b, off, e, ⟨hb, hp, fun e2 => by have h1 := hnew b (by rw [e]; rfl); have h2 := (HT.out.own.ge g rfl).2; injection e2 with e2; omega⟩, hcell⟩
              have hxl : xs.length ≤ 65 := by have := r8.1; omega
              have T9 := T8.set (i := 2) (v := (.slice O on oc)) (y := (((D.getD j (dft sStep)).1, (D.getD j (dft sStep)).2.1, xs) : Int × Int × List Int)) hj (by omega) (fun es he => by obtain ⟨V, vn, vc, rfl, hv⟩ := step_parts he; exact step_rdq hX)
              have l1 : (w8.setCell ⟨g, j * 3 + 2, none⟩ (.slice O on oc)).cell? ⟨o, 1, none⟩ = some (.slice (some ⟨g, 0, none⟩) qn qc) := T9.rO.cell 1
              have l0 : (w8.setCell ⟨g, j * 3 + 2, none⟩ (.slice O on oc)).cell? ⟨w.heap.size, 0, none⟩ = some (.slice S sn sc) := T9.rS.cell 0
              refine AnyT.call (i := 9) (by kernel_rfl) rfl (fun K hK => ?_)
              try simp only [Act.put, List.setIfInBounds_toArray, List.set_cons_zero, List.set_cons_succ, List.getElem_toArray, List.getElem_cons_zero, List.getElem_cons_succ]
              rw [if_pos (by rfl)]
              go_simp
              refine hK.out _ _ (fun _ _ => ?_) (fun hKeep => ?_)
              · exact ⟨l1, l0⟩
              replace hHeld := hKeep (by first | rfl | trivial) hHeld
              clear hK K hKeep
              try simp only [Act.put, List.setIfInBounds_toArray, List.set_cons_zero, List.set_cons_succ, List.getElem_toArray, List.getElem_cons_zero, List.getElem_cons_succ]
              refine AnyT.done (by kernel_rfl) ?_ _
              clear T8 HT k1 k0 d8 g8 r8 r81 r82 r83 r84 hnew hX e1 m1 m2 l1 l0 e0
              have rr := T9
              have cN : (w8.setCell ⟨g, j * 3 + 2, none⟩ (.slice O on oc)).cell? ⟨w.heap.size + 1, 0, none⟩ = some (.slice none 0 0) := rr.rN.cell 0
              have cN1 : (w8.setCell ⟨g, j * 3 + 2, none⟩ (.slice O on oc)).cell? ⟨w.heap.size + 1, 1, none⟩ = some (.slice none 0 0) := rr.rN.cell 1
              have fN : (w8.setCell ⟨g, j * 3 + 2, none⟩ (.slice O on oc)).frozen? ⟨w.heap.size + 1, 0, none⟩ = false := rr.rN.free 0
              have fN1 : (w8.setCell ⟨g, j * 3 + 2, none⟩ (.slice O on oc)).frozen? ⟨w.heap.size + 1, 1, none⟩ = false := rr.rN.free 1
              have cV : (w8.setCell ⟨g, j * 3 + 2, none⟩ (.slice O on oc)).cell? ⟨o, 0, none⟩ = some (.slice F fn fc) := rr.rO.cell 0
              have cR : (w8.setCell ⟨g, j * 3 + 2, none⟩ (.slice O on oc)).cell? ⟨o, 1, none⟩ = some (.slice (some ⟨g, 0, none⟩) qn qc) := rr.rO.cell 1
              have FF := Lib.hid (rr.result (smallS_set HD.out hxl) HT65.out)
              clear rr T9
              go_wp2
              exact bodyPost_ret (v := .agg #[.slice F fn fc, .slice (some ⟨g, 0, none⟩) qn qc]) (by simp [results, Tryz.results62, go_sem, cN, cN1]) rfl FF.out
      · have L5 := Lib.hid (belowN p A n c (ln : Int) w5 T.d (by omega) (by omega))
        have hlz : ¬ (ln : Int) = 0 := by omega
        have hlz2 : ((ln : Int) == 0) = false := by rw [beq_eq_false_iff_ne]; exact hlz
        have HT := Lib.hid T
        have HQL := Lib.hid QL
        have HD := Lib.hid hD
        have HQ4 := Lib.hid hq
        clear T QL hD hq hus
        go_wp2_with fail
        refine L5.out.mono ?_
        rintro e w6 ⟨x, rfl, x0, x1, d6, g6⟩
        have T := HT.out.dice d6 g6
        have QL := outR_dice HQL.out g6
        obtain ⟨a, rfl⟩ := Int.eq_ofNat_of_zero_le x0
        have ha : a < ln := by omega
        obtain ⟨b, off, V, vn, vc, x, eL, hb, ex, q0, q1, q2, hv⟩ := elemS QL ha
        have hvn : List.length x.2.2 ≤ 65 := by have := hsm.out a; rw [ex.out] at this; omega
        subst eL
        obtain ⟨xa, xr, xv⟩ := x
        dsimp only at q0 q1 q2 hv hvn
        have TV := T.setu hv
        have bA := (Below.refl w6.heap.size w6).alloc (Nat.le_refl _) (.cells #[.int .i64 xa, .int .i64 xr, .slice V vn vc] 81)
        have bA2 := bA.alloc (by simp) (.cells #[.int .i64 xa, .int .i64 xr, .slice V vn vc] 81)
        have TA := TV.next bA2
        have c0 : w6.cell? ⟨o, 0, none⟩ = some (.slice F fn fc) := T.rO.cell 0
        have c1 : w6.cell? ⟨o, 1, none⟩ = some (.slice Q qn qc) := T.rO.cell 1
        have zo := T.rO.lt
        have hx : RdQ _ (OutR _ p (blk Q)) sStep [.int .i64 xa, .int .i64 xr, .slice V vn vc] ((xa, xr, xv) : Int × Int × List Int) := step_rdq TA.v
        have hqn : qn ≤ 4 := by have := HQ4.out; omega
        have hqb : q ≤ 4 := by have := HQ4.out; omega
        have hQ6 : Hid (blk Q ≠ some w6.heap.size) := Lib.hid (fun e => by have := (T.own.ge _ e).2; omega)
        have i0 : (0 : Int) ≤ (a : Int) := by omega
        have i1 : (a : Int) < (ln : Int) := by omega
        have zw := T.g.size
        have hoo := T.ho
        clear d6 g6 QL x0 x1 HT HQL L5 hv TV T hsm ex ha hl0
        go_wp2_with (at_builtin; refine appQ1 rfl _ _ 39 81 sStep _ _ Tryz.underlying39 info_StepS rfl (by decide) rfl p (w.heap.size + 2) Q qn qc D rfl TA.own (w6.heap.size + 1) 1 [.int .i64 xa, .int .i64 xr, .slice V vn vc] ((xa, xr, xv) : Int × Int × List Int) rfl (fun i hi => by match i, hi with | 0, _ => exact (row_top (by simp only [sz_alloc])).cell 0 | 1, _ => exact (row_top (by simp only [sz_alloc])).cell 1 | 2, _ => exact (row_top (by simp only [sz_alloc])).cell 2) hx (by omega) (by simp only [sz_alloc]; omega) ?_; intro A' c' w8 ho8 hg8 hat8 hb8; refine (?_ : Hid _).out)
        obtain ⟨g', rfl⟩ := ownS_some ho8 (by omega)
        have hat9 : blk Q = some g' ∨ g' = (((w6.alloc (.cells #[.int .i64 xa, .int .i64 xr, .slice V vn vc] 81)).alloc (.cells #[.int .i64 xa, .int .i64 xr, .slice V vn vc] 81)).heap.size) := by
          rcases hat8 with e | e
          · exact .inl e.symm
          · right
            have e : some g' = some _ := e
            injection e with e
        have rO8 := Row.away TA.rO hg8 TA.hQ
        have rB8 : Row w8 w6.heap.size 81 #[.int .i64 xa, .int .i64 xr, .slice V vn vc] := Row.away (row_alloc (row_top rfl)) hg8 hQ6.out
        have rB9 := rB8.far (show w6.heap.size ≠ o by omega) (p := ⟨o, 1, none⟩) (.slice (some ⟨g', 0, none⟩) (qn + 1) c')
        have T9 := TA.put ho8 hg8 hat9
        have y0 : w8.cell? ⟨o, 0, none⟩ = some (.slice F fn fc) := rO8.cell 0
        have y1 : w8.cell? ⟨o, 1, none⟩ = some (.slice Q qn qc) := rO8.cell 1
        have y2 := rO8.free 1
        have z2 : (w8.setCell ⟨o, 1, none⟩ (.slice (some ⟨g', 0, none⟩) (qn + 1) c')).cell? ⟨w6.heap.size, 2, none⟩ = some (.slice V vn vc) := rB9.cell 2
        have FF := Lib.hid (show HeadW w p A n c S sn sc R rn rc o F fn fc t (.slice V vn vc) (.int .i64 (q : Int)) _ from ⟨q, V, vn, vc, xv, _, qn + 1, c', _, rfl, rfl, by have := HQ4.out; omega, smallS_app HD.out hvn, hvn, T9⟩)
        clear T9 TA ho8 hg8 hat8 hat9 hb8 rO8 rB8 rB9 hx bA bA2
        refine Lib.hid ?_
        go_wp2
        go_roundw
        case rel => first | exact FF.out | simpa using FF.out
        case measure => simp [intOf]
end Go.Proofs.YtpcnjcgglonifaaGreat.drawW
end

section
namespace Go.Proofs.YtpcnjcgglonifaaGreat.drawW
open Go.RowKit base ints sig term termOk termFacts cursor marks app appAt sym segs dice drawTerm drawAny drawSub drawS drawTwo drawX drawRule drawKnown drawSys drawSysAny drawSysD drawSA drawL7 ruleMath ruleSpec stepMath walkMath heldT kinds compImpl
open shape (Sh Dat nc dft sI sz Ow Owned Piece rd_ints sz_ints sz_len)
open kindsR (sRule sSystem sRuleS)
open kindsW (sStep sStepS sWalk)
open kindsT (sSubst)
set_option maxRecDepth 100000

structure WI (w : World) (p lo : Nat) (A : Option Addr) (n c : Nat) (S : Option Addr) (sn sc : Nat) (sg : List Int) (R : Option Addr) (rn rc : Nat) (D : List (Dat sRule)) (F : Option Addr) (fn fc : Nat) (Q : Option Addr) (qn qc : Nat) (k : Dat sWalk) (wr : World) : Prop where
  s : RdQ wr (OutR wr p (blk R)) sI [.slice S sn sc] sg
  own : OwnQ wr p lo 145 sRule R rn rc D
  di : Dice wr p A n c
  r0 : Row wr w.heap.size 29 #[.slice none 0 0, .slice none 0 0]
  r1 : Row wr (w.heap.size + 1) 41 #[.slice none 0 0, .slice none 0 0]
  b : Below w.heap.size w wr
  wk : RdQ wr (Out wr p) sWalk [.slice F fn fc, .slice Q qn qc] k
  hp : w.heap.size + 2 ≤ p
  hl : p < lo
section
variable {w : World} {p lo : Nat} {A : Option Addr} {n c : Nat} {S : Option Addr} {sn sc : Nat} {sg : List Int} {R : Option Addr} {rn rc : Nat} {D : List (Dat sRule)} {F : Option Addr} {fn fc : Nat} {Q : Option Addr} {qn qc : Nat} {k : Dat sWalk} {wr w' : World}
theorem zero_wk (w : World) (Q : Nat → Prop) : RdQ w Q sWalk [.slice none 0 0, .slice none 0 0] (([], []) : List Int × List (Dat sStep)) :=
  ⟨[_], [_], rfl, ⟨none, 0, 0, rfl, ⟨Nat.le_refl _, by omega, fun _ => rfl⟩, rfl, fun h => absurd h (Nat.lt_irrefl _)⟩, ⟨none, 0, 0, rfl, ⟨Nat.le_refl _, by omega, fun _ => rfl⟩, rfl, fun h => absurd h (Nat.lt_irrefl _)⟩⟩
theorem WI.dice (h : WI w p lo A n c S sn sc sg R rn rc D F fn fc Q qn qc k wr) (hd : Dice w' p A n c) (hg : wr.grownBy w' (some p)) : WI w p lo A n c S sn sc sg R rn rc D F fn fc Q qn qc k w' := by
  have h1 := h.hp
  exact ⟨outR_dice h.s hg, h.own.dice hg h.hl, hd, Row.away h.r0 hg (fun e => by injection e with e; omega), Row.away h.r1 hg (fun e => by injection e with e; omega), h.b.grown hg h.b.size (fun k hk => by injection hk with hk; omega), out_dice h.wk hg, h.hp, h.hl⟩
theorem WI.next (h : WI w p lo A n c S sn sc sg R rn rc D F fn fc Q qn qc k wr) (hb : Below wr.heap.size wr w') : WI w p lo A n c S sn sc sg R rn rc D F fn fc Q qn qc k w' :=
  ⟨outR_below h.s hb, h.own.below hb, h.di.next hb, h.r0.next hb, h.r1.next hb, next_trans h.b hb, out_below h.wk hb, h.hp, h.hl⟩
theorem WI.setw {F' : Option Addr} {fn' fc' : Nat} {Q' : Option Addr} {qn' qc' : Nat} {k' : Dat sWalk} (h : WI w p lo A n c S sn sc sg R rn rc D F fn fc Q qn qc k wr) (hw : RdQ wr (Out wr p) sWalk [.slice F' fn' fc', .slice Q' qn' qc'] k') : WI w p lo A n c S sn sc sg R rn rc D F' fn' fc' Q' qn' qc' k' wr :=
  ⟨h.s, h.own, h.di, h.r0, h.r1, h.b, hw, h.hp, h.hl⟩
theorem WI.rdq (h : WI w p lo A n c S sn sc sg R rn rc D F fn fc Q qn qc k wr) : RdQ wr (Out wr p) sSystem [.slice S sn sc, .slice R rn rc] ((sg, D) : List Int × List (Dat sRule)) :=
  RdQ.cat (ca := [_]) (cb := [_]) (h.s.mono fun b hb => ⟨hb.1, hb.2.1⟩) (h.own.rdq h.hl)
end
theorem sys_sz2 {sg : List Int} {D : List (Dat sRule)} (h9 : sg.length ≤ 9) (hM : SmallD 13 D) : sz sSystem ((sg, D) : List Int × List (Dat sRule)) ≤ 2000 := by
  have h1 := sz_small hM
  show sz sI sg + sz sRuleS D ≤ 2000
  rw [sz_ints]
  omega
def AnsIns (w : World) (e : Ending) (w' : World) : Prop :=
  ∃ S sn sc R rn rc d F fn fc Q qn qc k O on oc t x, e = .returned (.tuple #[.agg #[.slice S sn sc, .slice R rn rc], .agg #[.slice F fn fc, .slice Q qn qc], .slice O on oc, .int .i64 x]) ∧ Go.Proofs.YtpcnjcgglonifaaGreat.shape.Rd w' w'.heap.size sSystem [.slice S sn sc, .slice R rn rc] d ∧ sz sSystem d ≤ 2000 ∧ Go.Proofs.YtpcnjcgglonifaaGreat.shape.Rd w' w'.heap.size sWalk [.slice F fn fc, .slice Q qn qc] k ∧ sz sWalk k ≤ 2000 ∧ Go.Proofs.YtpcnjcgglonifaaGreat.shape.Rd w' w'.heap.size sI [.slice O on oc] t ∧ List.length t ≤ 65 ∧ -1 ≤ x ∧ x ≤ 65 ∧ Below w.heap.size w w'
def AnsUnd (w : World) (e : Ending) (w' : World) : Prop :=
  ∃ S sn sc R rn rc d F fn fc Q qn qc k B m cB ss, e = .returned (.tuple #[.agg #[.slice S sn sc, .slice R rn rc], .agg #[.slice F fn fc, .slice Q qn qc], .agg #[.slice B m cB]]) ∧ Go.Proofs.YtpcnjcgglonifaaGreat.shape.Rd w' w'.heap.size sSystem [.slice S sn sc, .slice R rn rc] d ∧ sz sSystem d ≤ 2000 ∧ Go.Proofs.YtpcnjcgglonifaaGreat.shape.Rd w' w'.heap.size sWalk [.slice F fn fc, .slice Q qn qc] k ∧ sz sWalk k ≤ 2000 ∧ Go.Proofs.YtpcnjcgglonifaaGreat.shape.Rd w' w'.heap.size sSubst [.slice B m cB] ss ∧ sz sSubst ss ≤ 2000 ∧ Below w.heap.size w w'
def Slices (cur : Array Value) : Prop := ∀ (i : Nat) (v : Value), cur[i]? = some v → ∃ a l k, v = Value.slice a l k
theorem one_slice {a : Option Addr} {l k : Nat} : Slices #[.slice a l k] := fun i v h => by
  match i, h with
  | 0, h => injection h with h; exact ⟨_, _, _, h.symm⟩
  | i + 1, h => simp at h
theorem two_slices {a a' : Option Addr} {l k l' k' : Nat} : Slices #[.slice a l k, .slice a' l' k'] := fun i v h => by
  match i, h with
  | 0, h => injection h with h; exact ⟨_, _, _, h.symm⟩
  | 1, h => injection h with h; exact ⟨_, _, _, h.symm⟩
  | i + 2, h => simp at h
theorem ints_neA {w : World} {Q : Nat → Prop} {N : Nat} {t : TypeId} {cs : List Value} {xs : List Int} {cur : Array Value} (h : RdQ w Q sI cs xs) (hN : Row w N t cur) (hs : Slices cur) : RdQ w (fun b => Q b ∧ b ≠ N) sI cs xs := by
  obtain ⟨A, n, c, e, hc, hl, h1⟩ := h
  refine ⟨A, n, c, e, hc, hl, fun hn => ?_⟩
  obtain ⟨b, off, e2, hb, h2⟩ := h1 hn
  refine ⟨b, off, e2, ⟨hb, fun e3 => ?_⟩, h2⟩
  subst e3
  obtain ⟨es, he, hp, hr⟩ := h2 0 hn
  have hr : es = [.int .i64 (xs.getD 0 0)] := hr
  subst hr
  have h3 := hp 0 (by simp)
  rw [Row.cell (t := t) (cs := cur) hN] at h3
  obtain ⟨a, l, k, h4⟩ := hs _ (.int .i64 (xs.getD 0 0)) h3
  cases h4
theorem rule_neA {w : World} {Q : Nat → Prop} {N : Nat} {t : TypeId} {cs : List Value} {d : Dat sRule} {cur : Array Value} (h : RdQ w Q sRule cs d) (hN : Row w N t cur) (hs : Slices cur) : RdQ w (fun b => Q b ∧ b ≠ N) sRule cs d := by
  obtain ⟨ca, cb, e, h1, h2⟩ := h
  exact ⟨ca, cb, e, ints_neA h1 hN hs, ints_neA h2 hN hs⟩
theorem walk_neA {w : World} {Q : Nat → Prop} {N : Nat} {t : TypeId} {cs : List Value} {d : Dat sWalk} {cur : Array Value} (h : RdQ w Q sWalk cs d) (hN : Row w N t cur) (hs : Slices cur) : RdQ w (fun b => Q b ∧ b ≠ N) sWalk cs d := by
  obtain ⟨ca, cb, e, h1, A, n, c, e1, hc, hl, h2⟩ := h
  refine ⟨ca, cb, e, ints_neA h1 hN hs, A, n, c, e1, hc, hl, fun hn => ?_⟩
  obtain ⟨b, off, e2, hb, h3⟩ := h2 hn
  refine ⟨b, off, e2, ⟨hb, fun e3 => ?_⟩, fun j hj => ?_⟩
  · subst e3
    obtain ⟨es, he, hp, hr⟩ := h3 0 hn
    obtain ⟨V, vn, vc, rfl, hv⟩ := step_parts hr
    have h4 := hp 0 (by simp)
    rw [Row.cell (t := t) (cs := cur) hN] at h4
    obtain ⟨a, l, k, h5⟩ := hs _ _ h4
    cases h5
  · obtain ⟨es, he, hp, hr⟩ := h3 j hj
    obtain ⟨V, vn, vc, rfl, hv⟩ := step_parts hr
    exact ⟨_, he, hp, step_rdq (ints_neA hv hN hs)⟩
theorem walk_far {w : World} {p N i : Nat} {t : TypeId} {cs : List Value} {d : Dat sWalk} {cur : Array Value} {u : Value} (h : RdQ w (Out w p) sWalk cs d) (hN : Row w N t cur) (hs : Slices cur) : RdQ (w.setCell ⟨N, i, none⟩ u) (Out (w.setCell ⟨N, i, none⟩ u) p) sWalk cs d :=
  ((walk_neA h hN hs).keep fun b hb => Below.heap_setCell w _ u b hb.2).mono fun b hb => ⟨by simpa using hb.1.1, hb.1.2⟩
theorem own_far {w : World} {p lo n c N : Nat} {A : Option Addr} {e t : TypeId} {D : List (Dat sRule)} {cur : Array Value} (h : OwnQ w p lo e sRule A n c D) (hA : blk A ≠ some N) (hN : Row w N t cur) (hs : Slices cur) (i : Nat) (u : Value) : OwnQ (w.setCell ⟨N, i, none⟩ u) p lo e sRule A n c D := by
  obtain ⟨h1, vs, h2, h3⟩ := h
  refine ⟨h1, vs, World.ownsRow.kept h2 (grown_put (World.grownBy.refl w _) i u) (.inr (by rw [blk_own]; exact hA)), fun j hj => ?_⟩
  exact ((rule_neA (h3 j hj) hN hs).keep fun b hb => Below.heap_setCell w _ u b hb.2).mono fun b hb => ⟨by simpa using hb.1.1, hb.1.2⟩
theorem subst_rdq {w : World} {p lo N : Nat} {B : Option Addr} {m cB : Nat} {xss : List (List Int)} {t0 t1 t2 : TypeId} {a0 a1 a2 : Array Value} (h : OwnR w p lo B m cB xss) (hlo : N + 3 ≤ lo) (r0 : Row w N t0 a0) (s0 : Slices a0) (r1 : Row w (N + 1) t1 a1) (s1 : Slices a1) (r2 : Row w (N + 2) t2 a2) (s2 : Slices a2) :
    RdQ w (fun b => b < w.heap.size ∧ b ≠ N ∧ b ≠ N + 1 ∧ b ≠ N + 2) sSubst [.slice B m cB] xss := by
  have hcap := h.cap
  obtain ⟨h1, vs, ho, h3⟩ := h
  refine ⟨B, m, cB, rfl, hcap, h1, fun h0 => ?_⟩
  rcases ho.2 with ⟨e1, hz⟩ | ⟨g, cap, cur, e1, hg, hrow, hn, hm, hs, ht⟩
  · omega
  · injection e1 with e1 e2 e3
    subst e1 e3
    refine ⟨g, 0, rfl, ⟨(Array.getElem?_eq_some_iff.1 hrow).1, by omega, by omega, by omega⟩, fun j hj => ?_⟩
    have hvl : vs.length = m * 1 := ho.1
    obtain ⟨A', n', c', ev, hr, hc, -⟩ := h3 j hj
    have hq : RdQ w (fun b => b < w.heap.size) sI [.slice A' n' c'] (xss.getD j []) := rdq_rd hr hc fun b hb _ => hb
    refine ⟨[.slice A' n' c'], rfl, fun i hi => ?_, (ints_neA (ints_neA (ints_neA hq r0 s0) r1 s1) r2 s2).mono fun b hb => ⟨hb.1.1.1, hb.1.1.2, hb.1.2, hb.2⟩⟩
    have hi : i = 0 := by simpa using hi
    subst hi
    rw [show (0 + j * nc sI + 0) = j by simp [nc], Row.cell (t := 24) (cs := cur) hrow, ← Array.getElem?_toList]
    have h5 : cur.toList[j]? = vs[j]? := by rw [← ht, List.getElem?_take, if_pos (by omega)]
    rw [h5, ← ev, List.getD_eq_getElem?_getD, List.getElem?_eq_getElem (by omega)]
    rfl
theorem subst_put3 {w : World} {p lo N : Nat} {B : Option Addr} {m cB : Nat} {xss : List (List Int)} {t0 t1 t2 : TypeId} {a0 a1 a2 : Array Value} {u0 u1 u2 u3 u4 : Value} (h : OwnR w p lo B m cB xss) (hlo : N + 3 ≤ lo) (r0 : Row w N t0 a0) (s0 : Slices a0) (r1 : Row w (N + 1) t1 a1) (s1 : Slices a1) (r2 : Row w (N + 2) t2 a2) (s2 : Slices a2) :
    RdQ (((((w.setCell ⟨N, 0, none⟩ u0).setCell ⟨N, 1, none⟩ u1).setCell ⟨N + 1, 0, none⟩ u2).setCell ⟨N + 1, 1, none⟩ u3).setCell ⟨N + 2, 0, none⟩ u4) (fun b => b < w.heap.size) sSubst [.slice B m cB] xss :=
  ((((((subst_rdq h hlo r0 s0 r1 s1 r2 s2).keep fun b hb => Below.heap_setCell _ ⟨N, 0, none⟩ u0 b hb.2.1).keep fun b hb => Below.heap_setCell _ ⟨N, 1, none⟩ u1 b hb.2.1).keep fun b hb => Below.heap_setCell _ ⟨N + 1, 0, none⟩ u2 b hb.2.2.1).keep fun b hb => Below.heap_setCell _ ⟨N + 1, 1, none⟩ u3 b hb.2.2.1).keep fun b hb => Below.heap_setCell _ ⟨N + 2, 0, none⟩ u4 b hb.2.2.2).mono fun b hb => hb.1
theorem subst_small {m : Nat} {xss : List (List Int)} (h : Small 25 65 m xss) (hl : xss.length = m) : sz sSubst xss ≤ 2000 := by
  have h1 : ∀ l : List (List Int), (∀ x ∈ l, x.length ≤ 65) → (l.map (sz sI)).sum ≤ l.length * 65 := fun l => by
    induction l with
    | nil => intro _; exact Nat.le_refl _
    | cons x l ih =>
      intro hx
      have a := hx x (List.mem_cons_self ..)
      have b := ih fun y hy => hx y (List.mem_cons_of_mem _ hy)
      rw [List.map_cons, List.sum_cons, List.length_cons, Nat.add_mul, sz_ints]
      omega
  have h2 := h1 xss fun x hx => by
    obtain ⟨j, hj, rfl⟩ := List.mem_iff_getElem.1 hx
    have := h.2 j
    rw [List.getD_eq_getElem?_getD, List.getElem?_eq_getElem hj] at this
    exact this
  have h3 := h.1
  have h4 := Nat.mul_le_mul_right 65 (show xss.length ≤ 25 by omega)
  show xss.length + (xss.map (sz sI)).sum ≤ 2000
  omega


set_option maxHeartbeats 8000000 in
theorem drawWalkInside (A : Option Addr) (n c : Nat) (w : World) (h : SegB w w.heap.size A n) (hn : n ≤ 4096) :
    Calls Tryz.prog 26 #[.slice A n c] w (AnsIns w) := by
  obtain ⟨W, hW⟩ : ∃ W, W = (w.alloc (.cells #[.slice none 0 0, .slice none 0 0] 29)).alloc (.cells #[.slice none 0 0, .slice none 0 0] 41) := ⟨_, rfl⟩
  have r0 : Row W w.heap.size 29 #[.slice none 0 0, .slice none 0 0] := by rw [hW]; exact row_alloc (row_top rfl)
  have r1 : Row W (w.heap.size + 1) 41 #[.slice none 0 0, .slice none 0 0] := by rw [hW]; exact row_top (by simp)
  have b0 : Below w.heap.size w W := by rw [hW]; exact ((Below.refl _ _).alloc (Nat.le_refl _) _).alloc (by simp) _
  have h0 : SegB W W.heap.size A n := fun hp => by
    obtain ⟨b, off, e, hb, hc⟩ := h hp
    refine ⟨b, off, e, Nat.lt_of_lt_of_le hb b0.size, fun j hj => ?_⟩
    obtain ⟨x, x0, x1, hx⟩ := hc j hj
    exact ⟨x, x0, x1, (b0.cell (p := ⟨b, off + j, none⟩) hb).trans hx⟩
  have L := Lib.hid (new_ A n c W h0 hn)
  have HW := Lib.hid hW
  have zW := r1.lt
  clear h h0 hW
  go_enter Tryz.func26, Tryz.ntmps26
  go_wp2_with fail
  rw [← HW.out]
  refine L.out.mono ?_
  rintro e w1 ⟨p, rfl, hp, d1, bb⟩
  replace r0 := r0.next bb
  replace r1 := r1.next bb
  replace b0 := next_trans b0 bb
  have L2 := Lib.hid (drawSysAny p A n c w1 d1)
  have hp1 := d1.lt
  clear d1 bb L HW
  go_wp2_with fail
  refine L2.out.mono ?_
  rintro e w2 ⟨S, sn, sc, sg, R, rn, rc, D, rfl, s2, h9, o2, hM, d2, g2⟩
  have T : WI w p w1.heap.size A n c S sn sc sg R rn rc D none 0 0 none 0 0 (([], []) : List Int × List (Dat sStep)) w2 :=
    ⟨s2, o2, d2, Row.away r0 g2 (fun e => by injection e with e; omega), Row.away r1 g2 (fun e => by injection e with e; omega), b0.grown g2 b0.size (fun k hk => by injection hk with hk; omega), zero_wk _ _, by omega, hp1⟩
  have zsz := sys_sz2 h9 hM
  have HSZ := Lib.hid zsz
  have z12 : w1.heap.size ≤ w2.heap.size := g2.size
  obtain ⟨o7, ho7⟩ : ∃ o, w2.heap.size = o := ⟨_, rfl⟩
  obtain ⟨W3, hW3⟩ : ∃ W, W = w2.alloc (.cells #[.slice S sn sc, .slice R rn rc] 29) := ⟨_, rfl⟩
  have b3 : Below w2.heap.size w2 W3 := by rw [hW3]; exact (Below.refl _ _).alloc (Nat.le_refl _) _
  have r7 : Row W3 o7 29 #[.slice S sn sc, .slice R rn rc] := by rw [hW3, ← ho7]; exact Row.new _ _ _
  replace T := T.next b3
  have hp7 : p < o7 := by omega
  have zlo7 : w1.heap.size ≤ o7 := by omega
  have L3 := Lib.hid (l7DrawWalk p A n c S sn sc R rn rc ((sg, D) : List Int × List (Dat sRule)) W3 T.di T.rdq zsz)
  have HW3 := Lib.hid hW3
  have HO7 := Lib.hid ho7
  clear s2 o2 d2 g2 b3 hW3 ho7 L2 r0 r1 b0 zsz
  go_wp2_with fail
  rw [← HW3.out, HO7.out]
  refine L3.out.mono ?_
  rintro e w4 ⟨F, fn, fc, Q, qn, qc, k, rfl, kR, kz, d4, g4⟩
  replace T := (T.dice d4 g4).setw kR
  replace r7 := Row.away r7 g4 (fun e => by injection e with e; omega)
  obtain ⟨o8, ho8⟩ : ∃ o, w4.heap.size = o := ⟨_, rfl⟩
  obtain ⟨W5, hW5⟩ : ∃ W, W = w4.alloc (.cells #[.slice F fn fc, .slice Q qn qc] 41) := ⟨_, rfl⟩
  have b5 : Below w4.heap.size w4 W5 := by rw [hW5]; exact (Below.refl _ _).alloc (Nat.le_refl _) _
  have r8 : Row W5 o8 41 #[.slice F fn fc, .slice Q qn qc] := by rw [hW5, ← ho8]; exact Row.new _ _ _
  have hp8 : p < o8 := by have := r7.lt; omega
  have z78 : o7 < o8 := by have := r7.lt; omega
  replace T := T.next b5
  replace r7 := r7.next b5
  have HKZ := Lib.hid kz
  have HW5 := Lib.hid hW5
  have HO8 := Lib.hid ho8
  have hsn : sn ≤ 9 := by have := (rd_of T.s).1; omega
  have zw2 : w.heap.size + 2 ≤ o7 := by have := T.hp; omega
  clear kR kz d4 g4 b5 hW5 ho8 L3 HW3 HO7 h9 hM
  have L4 := Lib.hid (drawAnyN p A n c S sn sc sg W5 T.di (rd_of T.s) (by omega))
  go_upto_region 4 with fail
  rw [← HW5.out, HO8.out]
  have c7 : W5.cell? ⟨o7, 0, none⟩ = some (.slice S sn sc) := r7.cell 0
  go_wp2_with fail
  refine L4.out.mono ?_
  rintro e w6 ⟨O, on, oc, xs, rfl, q1, q2, q3, q4, q5, d6, g6, -⟩
  replace T := T.dice d6 g6
  replace r7 := Row.away r7 g6 (fun e => by injection e with e; omega)
  replace r8 := Row.away r8 g6 (fun e => by injection e with e; omega)
  have HTD := Lib.hid (T.next (drew_below w6))
  have HR7 := Lib.hid (r7.next (drew_below w6))
  have HR8 := Lib.hid (r8.next (drew_below w6))
  have HX := Lib.hid (show Go.Proofs.YtpcnjcgglonifaaGreat.drawTerm.Rd w6.drew p w6.drew.heap.size O on xs from q1)
  have HC := Lib.hid (show Cap O on oc from ⟨q2, q3, q4⟩)
  have e0 : w6.cell? ⟨o7, 0, none⟩ = some (.slice S sn sc) := r7.cell 0
  have e1 : w6.cell? ⟨o7, 1, none⟩ = some (.slice R rn rc) := r7.cell 1
  have e2 : w6.cell? ⟨o8, 0, none⟩ = some (.slice F fn fc) := r8.cell 0
  have e3 : w6.cell? ⟨o8, 1, none⟩ = some (.slice Q qn qc) := r8.cell 1
  clear T r7 r8 d6 g6 q1 q2 q3 q4 c7 L4 HW5 HO8
  go_wp2_with fail
  refine AnyT.start (S := (fun w' => w'.cell? ⟨o7, 0, none⟩ = some (.slice S sn sc) ∧ w'.cell? ⟨o7, 1, none⟩ = some (.slice R rn rc) ∧ w'.cell? ⟨o8, 0, none⟩ = some (.slice F fn fc) ∧ w'.cell? ⟨o8, 1, none⟩ = some (.slice Q qn qc))) (fun _ => false) (by kernel_rfl) ⟨e0, e1, e2, e3⟩ (fun hHeld => ?_)
  refine AnyT.take (i := 0) (v := ?_) rfl (by kernel_rfl) (by kernel_rfl) (by kernel_rfl) (by kernel_rfl) (fun _ _ _ h => h) (Or.inl ⟨by rfl, ?_⟩) (by assumption) ?_
  rotate_left 1
  · (intro w0 hSw; (try dsimp only at hSw); go_simp; try with_reducible rfl)
  try simp only [Act.put, List.setIfInBounds_toArray, List.set_cons_zero, List.set_cons_succ, List.getElem_toArray, List.getElem_cons_zero, List.getElem_cons_succ]
  refine AnyT.take (i := 1) (v := ?_) rfl (by kernel_rfl) (by kernel_rfl) (by kernel_rfl) (by kernel_rfl) (fun _ _ _ h => h) (Or.inl ⟨by rfl, ?_⟩) (by assumption) ?_
  rotate_left 1
  · (intro w0 hSw; (try dsimp only at hSw); go_simp; try with_reducible rfl)
  try simp only [Act.put, List.setIfInBounds_toArray, List.set_cons_zero, List.set_cons_succ, List.getElem_toArray, List.getElem_cons_zero, List.getElem_cons_succ]
  refine AnyT.takeA (i := 2) (v := ?_) rfl (by kernel_rfl) (by kernel_rfl) (by kernel_rfl) (fun _ _ _ h => h) (Or.inl ⟨by rfl, ?_⟩) ?_
  rotate_left 1
  · (intro w0 _; go_simp; try with_reducible rfl)
  try simp only [Act.put, List.setIfInBounds_toArray, List.set_cons_zero, List.set_cons_succ, List.getElem_toArray, List.getElem_cons_zero, List.getElem_cons_succ]
  refine AnyT.takeA (i := 3) (v := ?_) rfl (by kernel_rfl) (by kernel_rfl) (by kernel_rfl) (fun _ _ _ h => h) (Or.inl ⟨by rfl, ?_⟩) ?_
  rotate_left 1
  · (intro w0 _; go_simp; try with_reducible rfl)
  try simp only [Act.put, List.setIfInBounds_toArray, List.set_cons_zero, List.set_cons_succ, List.getElem_toArray, List.getElem_cons_zero, List.getElem_cons_succ]
  refine AnyT.takeA (i := 4) (v := ?_) rfl (by kernel_rfl) (by kernel_rfl) (by kernel_rfl) (fun _ _ _ h => h) (Or.inl ⟨by rfl, ?_⟩) ?_
  rotate_left 1
  · (intro w0 _; go_simp; try with_reducible rfl)
  try simp only [Act.put, List.setIfInBounds_toArray, List.set_cons_zero, List.set_cons_succ, List.getElem_toArray, List.getElem_cons_zero, List.getElem_cons_succ]
  refine AnyT.takeA (i := 5) (v := ?_) rfl (by kernel_rfl) (by kernel_rfl) (by kernel_rfl) (fun _ _ _ h => h) (Or.inl ⟨by rfl, ?_⟩) ?_
  rotate_left 1
  · (intro w0 _; go_simp; try with_reducible rfl)
  try simp only [Act.put, List.setIfInBounds_toArray, List.set_cons_zero, List.set_cons_succ, List.getElem_toArray, List.getElem_cons_zero, List.getElem_cons_succ]
  refine AnyT.call (i := 6) (by kernel_rfl) rfl (fun K hK => ?_)
  try simp only [Act.put, List.setIfInBounds_toArray, List.set_cons_zero, List.set_cons_succ, List.getElem_toArray, List.getElem_cons_zero, List.getElem_cons_succ]
  rw [if_pos (by rfl)]
  go_simp
  (go_at_call 64; refine (fromTo p A n c (-1) (on : Int) _ HTD.out.di (by omega) (by omega) (by omega) (by omega)).mono ?_; rintro e w7 ⟨x, rfl, x0, x1, d7, g7⟩; have T7 := HTD.out.dice d7 g7; have r7 := Row.away HR7.out g7 (fun e => by injection e with e; omega); have r8 := Row.away HR8.out g7 (fun e => by injection e with e; omega); have k0 : w7.cell? ⟨o7, 0, none⟩ = some (.slice S sn sc) := r7.cell 0; have k1 : w7.cell? ⟨o7, 1, none⟩ = some (.slice R rn rc) := r7.cell 1; have k2 : w7.cell? ⟨o8, 0, none⟩ = some (.slice F fn fc) := r8.cell 0; have k3 : w7.cell? ⟨o8, 1, none⟩ = some (.slice Q qn qc) := r8.cell 1; go_wp2_with fail)
  refine hK.out _ _ (fun _ _ => ?_) (fun hKeep => ?_)
  · exact ⟨k0, k1, k2, k3⟩
  replace hHeld := hKeep (by first | rfl | trivial) hHeld
  clear hK K hKeep
  try simp only [Act.put, List.setIfInBounds_toArray, List.set_cons_zero, List.set_cons_succ, List.getElem_toArray, List.getElem_cons_zero, List.getElem_cons_succ]
  have y0a : w7.cell? ⟨w.heap.size, 0, none⟩ = some (.slice none 0 0) := T7.r0.cell 0
  have y1a : w7.cell? ⟨w.heap.size, 1, none⟩ = some (.slice none 0 0) := T7.r0.cell 1
  have g0a := T7.r0.free 0
  have g1a := T7.r0.free 1
  have raa := T7.r0.put 0 (.slice S sn sc)
  have y2a : (w7.setCell ⟨w.heap.size, 0, none⟩ (.slice S sn sc)).cell? ⟨w.heap.size, 1, none⟩ = some (.slice none 0 0) := raa.cell 1
  have g2a := raa.free 1
  have rba := raa.put 1 (.slice R rn rc)
  have rq1 := (T7.r1.far (show w.heap.size + 1 ≠ w.heap.size by omega) (p := ⟨w.heap.size, 0, none⟩) (.slice S sn sc)).far (show w.heap.size + 1 ≠ w.heap.size by omega) (p := ⟨w.heap.size, 1, none⟩) (.slice R rn rc)
  have y0b : ((w7.setCell ⟨w.heap.size, 0, none⟩ (.slice S sn sc)).setCell ⟨w.heap.size, 1, none⟩ (.slice R rn rc)).cell? ⟨w.heap.size + 1, 0, none⟩ = some (.slice none 0 0) := rq1.cell 0
  have y1b : ((w7.setCell ⟨w.heap.size, 0, none⟩ (.slice S sn sc)).setCell ⟨w.heap.size, 1, none⟩ (.slice R rn rc)).cell? ⟨w.heap.size + 1, 1, none⟩ = some (.slice none 0 0) := rq1.cell 1
  have g0b := rq1.free 0
  have g1b := rq1.free 1
  have rab := rq1.put 0 (.slice F fn fc)
  have y2b : (((w7.setCell ⟨w.heap.size, 0, none⟩ (.slice S sn sc)).setCell ⟨w.heap.size, 1, none⟩ (.slice R rn rc)).setCell ⟨w.heap.size + 1, 0, none⟩ (.slice F fn fc)).cell? ⟨w.heap.size + 1, 1, none⟩ = some (.slice none 0 0) := rab.cell 1
  have g2b := rab.free 1
  have rbb := rab.put 1 (.slice Q qn qc)
  have f7o7 := (r7.far (show o7 ≠ w.heap.size by omega) (p := ⟨w.heap.size, 0, none⟩) (.slice S sn sc)).far (show o7 ≠ w.heap.size by omega) (p := ⟨w.heap.size, 1, none⟩) (.slice R rn rc)
  have f8o7 := (f7o7.far (show o7 ≠ w.heap.size + 1 by omega) (p := ⟨w.heap.size + 1, 0, none⟩) (.slice F fn fc)).far (show o7 ≠ w.heap.size + 1 by omega) (p := ⟨w.heap.size + 1, 1, none⟩) (.slice Q qn qc)
  have f7o8 := (r8.far (show o8 ≠ w.heap.size by omega) (p := ⟨w.heap.size, 0, none⟩) (.slice S sn sc)).far (show o8 ≠ w.heap.size by omega) (p := ⟨w.heap.size, 1, none⟩) (.slice R rn rc)
  have f8o8 := (f7o8.far (show o8 ≠ w.heap.size + 1 by omega) (p := ⟨w.heap.size + 1, 0, none⟩) (.slice F fn fc)).far (show o8 ≠ w.heap.size + 1 by omega) (p := ⟨w.heap.size + 1, 1, none⟩) (.slice Q qn qc)
  have rsB := (rba.far (show w.heap.size ≠ w.heap.size + 1 by omega) (p := ⟨w.heap.size + 1, 0, none⟩) (.slice F fn fc)).far (show w.heap.size ≠ w.heap.size + 1 by omega) (p := ⟨w.heap.size + 1, 1, none⟩) (.slice Q qn qc)
  have uu0 : ((((w7.setCell ⟨w.heap.size, 0, none⟩ (.slice S sn sc)).setCell ⟨w.heap.size, 1, none⟩ (.slice R rn rc)).setCell ⟨w.heap.size + 1, 0, none⟩ (.slice F fn fc)).setCell ⟨w.heap.size + 1, 1, none⟩ (.slice Q qn qc)).cell? ⟨w.heap.size, 0, none⟩ = some (.slice S sn sc) := rsB.cell 0
  have uu1 : ((((w7.setCell ⟨w.heap.size, 0, none⟩ (.slice S sn sc)).setCell ⟨w.heap.size, 1, none⟩ (.slice R rn rc)).setCell ⟨w.heap.size + 1, 0, none⟩ (.slice F fn fc)).setCell ⟨w.heap.size + 1, 1, none⟩ (.slice Q qn qc)).cell? ⟨w.heap.size, 1, none⟩ = some (.slice R rn rc) := rsB.cell 1
  have vv0 : ((((w7.setCell ⟨w.heap.size, 0, none⟩ (.slice S sn sc)).setCell ⟨w.heap.size, 1, none⟩ (.slice R rn rc)).setCell ⟨w.heap.size + 1, 0, none⟩ (.slice F fn fc)).setCell ⟨w.heap.size + 1, 1, none⟩ (.slice Q qn qc)).cell? ⟨w.heap.size + 1, 0, none⟩ = some (.slice F fn fc) := rbb.cell 0
  have vv1 : ((((w7.setCell ⟨w.heap.size, 0, none⟩ (.slice S sn sc)).setCell ⟨w.heap.size, 1, none⟩ (.slice R rn rc)).setCell ⟨w.heap.size + 1, 0, none⟩ (.slice F fn fc)).setCell ⟨w.heap.size + 1, 1, none⟩ (.slice Q qn qc)).cell? ⟨w.heap.size + 1, 1, none⟩ = some (.slice Q qn qc) := rbb.cell 1
  have hne : blk R ≠ some w.heap.size := fun e => by have := (T7.own.ge _ e).1; have := T7.hp; have := T7.hl; omega
  have hne1 : blk R ≠ some (w.heap.size + 1) := fun e => by have := (T7.own.ge _ e).1; have := T7.hp; have := T7.hl; omega
  have sB := ints_put (ints_put (ints_put (ints_put T7.s T7.r0 0 (.slice S sn sc)) raa 1 (.slice R rn rc)) rq1 0 (.slice F fn fc)) rab 1 (.slice Q qn qc)
  have oB := ownQ_put (ownQ_put (ownQ_put (ownQ_put T7.own T7.r0 hne 0 (.slice S sn sc)) raa hne 1 (.slice R rn rc)) rq1 hne1 0 (.slice F fn fc)) rab hne1 1 (.slice Q qn qc)
  have kB := walk_put (i := 1) (u := .slice Q qn qc) (walk_put (i := 0) (u := .slice F fn fc) (walk_put (i := 1) (u := .slice R rn rc) (walk_put (i := 0) (u := .slice S sn sc) T7.wk T7.r0) raa) rq1) rab
  have bB := (((T7.b.setCell (p := ⟨w.heap.size, 0, none⟩) (Nat.le_refl _) (.slice S sn sc)).setCell (p := ⟨w.heap.size, 1, none⟩) (Nat.le_refl _) (.slice R rn rc)).setCell (p := ⟨w.heap.size + 1, 0, none⟩) (Nat.le_succ _) (.slice F fn fc)).setCell (p := ⟨w.heap.size + 1, 1, none⟩) (Nat.le_succ _) (.slice Q qn qc)
  have tX := (HX.out.grown g7 (Nat.le_refl _)).more g7.size
  have tB := rdT_put (i := 1) (u := .slice Q qn qc) (rdT_put (i := 0) (u := .slice F fn fc) (rdT_put (i := 1) (u := .slice R rn rc) (rdT_put (i := 0) (u := .slice S sn sc) tX T7.r0) raa) rq1) rab
  have FF := Lib.hid (show AnsIns w (.returned (.tuple #[.agg #[.slice S sn sc, .slice R rn rc], .agg #[.slice F fn fc, .slice Q qn qc], .slice O on oc, .int .i64 x])) ((((w7.setCell ⟨w.heap.size, 0, none⟩ (.slice S sn sc)).setCell ⟨w.heap.size, 1, none⟩ (.slice R rn rc)).setCell ⟨w.heap.size + 1, 0, none⟩ (.slice F fn fc)).setCell ⟨w.heap.size + 1, 1, none⟩ (.slice Q qn qc)) from ⟨_, _, _, _, _, _, ((sg, D) : List Int × List (Dat sRule)), _, _, _, _, _, _, k, _, _, _, xs, x, rfl, RdQ.rd (Q := Out _ p) (fun b hb => hb.1) (RdQ.cat (ca := [_]) (cb := [_]) (sB.mono fun b hb => ⟨hb.1, hb.2.1⟩) (oB.rdq T7.hl)), HSZ.out, kB.rd (fun b hb => hb.1), HKZ.out, rd_ints.2 ⟨O, on, oc, rfl, tB.seg, HC.out⟩, by have := HX.out.1; omega, x0, by omega, bB⟩)
  have s70 := f7o7.cell 0
  have s71 := f7o7.cell 1
  have s72 := f7o8.cell 0
  have s73 := f7o8.cell 1
  have s80 := f8o7.cell 0
  have s81 := f8o7.cell 1
  have s82 := f8o8.cell 0
  have s83 := f8o8.cell 1
  have HS7 := Lib.hid (show _ ∧ _ ∧ _ ∧ _ from ⟨s70, s71, s72, s73⟩)
  have HS8 := Lib.hid (show _ ∧ _ ∧ _ ∧ _ from ⟨s80, s81, s82, s83⟩)
  clear T7 r7 r8 d7 g7 raa rba rab rbb rq1 f7o7 f7o8 f8o7 f8o8 rsB sB oB kB bB tX tB hne hne1 HTD HR7 HR8 s70 s71 s72 s73 s80 s81 s82 s83
  refine AnyT.call (i := 7) (by kernel_rfl) rfl (fun K hK => ?_)
  try simp only [Act.put, List.setIfInBounds_toArray, List.set_cons_zero, List.set_cons_succ, List.getElem_toArray, List.getElem_cons_zero, List.getElem_cons_succ]
  rw [if_pos (by rfl)]
  go_simp
  refine hK.out _ _ (fun _ _ => ?_) (fun hKeep => ?_)
  · exact HS7.out
  replace hHeld := hKeep (by first | rfl | trivial) hHeld
  clear hK K hKeep
  try simp only [Act.put, List.setIfInBounds_toArray, List.set_cons_zero, List.set_cons_succ, List.getElem_toArray, List.getElem_cons_zero, List.getElem_cons_succ]
  refine AnyT.call (i := 8) (by kernel_rfl) rfl (fun K hK => ?_)
  try simp only [Act.put, List.setIfInBounds_toArray, List.set_cons_zero, List.set_cons_succ, List.getElem_toArray, List.getElem_cons_zero, List.getElem_cons_succ]
  rw [if_pos (by rfl)]
  go_simp
  refine hK.out _ _ (fun _ _ => ?_) (fun hKeep => ?_)
  · exact HS8.out
  replace hHeld := hKeep (by first | rfl | trivial) hHeld
  clear hK K hKeep
  try simp only [Act.put, List.setIfInBounds_toArray, List.set_cons_zero, List.set_cons_succ, List.getElem_toArray, List.getElem_cons_zero, List.getElem_cons_succ]
  refine AnyT.takeA (i := 9) (v := ?_) rfl (by kernel_rfl) (by kernel_rfl) (by kernel_rfl) (fun _ _ _ h => h) (Or.inl ⟨by rfl, ?_⟩) ?_
  rotate_left 1
  · (intro w0 _; go_simp; try with_reducible rfl)
  try simp only [Act.put, List.setIfInBounds_toArray, List.set_cons_zero, List.set_cons_succ, List.getElem_toArray, List.getElem_cons_zero, List.getElem_cons_succ]
  refine AnyT.takeA (i := 10) (v := ?_) rfl (by kernel_rfl) (by kernel_rfl) (by kernel_rfl) (fun _ _ _ h => h) (Or.inl ⟨by rfl, ?_⟩) ?_
  rotate_left 1
  · (intro w0 _; go_simp; try with_reducible rfl)
  try simp only [Act.put, List.setIfInBounds_toArray, List.set_cons_zero, List.set_cons_succ, List.getElem_toArray, List.getElem_cons_zero, List.getElem_cons_succ]
  refine AnyT.done (by kernel_rfl) ?_ _
  clear e0 e1 e2 e3 k0 k1 k2 k3 HS7 HS8
  go_wp2
  exact bodyPost_ret (v := .tuple #[.agg #[.slice S sn sc, .slice R rn rc], .agg #[.slice F fn fc, .slice Q qn qc], .slice O on oc, .int .i64 x]) (by simp [results, Tryz.results26, go_sem, uu0, uu1, vv0, vv1]) rfl FF.out

set_option maxHeartbeats 8000000 in
theorem drawWalkUnder (A : Option Addr) (n c : Nat) (w : World) (h : SegB w w.heap.size A n) (hn : n ≤ 4096) :
    Calls Tryz.prog 31 #[.slice A n c] w (AnsUnd w) := by
  obtain ⟨W, hW⟩ : ∃ W, W = ((w.alloc (.cells #[.slice none 0 0, .slice none 0 0] 29)).alloc (.cells #[.slice none 0 0, .slice none 0 0] 41)).alloc (.cells #[.slice none 0 0] 59) := ⟨_, rfl⟩
  have r0 : Row W w.heap.size 29 #[.slice none 0 0, .slice none 0 0] := by rw [hW]; exact row_alloc (row_alloc (row_top rfl))
  have r1 : Row W (w.heap.size + 1) 41 #[.slice none 0 0, .slice none 0 0] := by rw [hW]; exact row_alloc (row_top (by simp))
  have r2 : Row W (w.heap.size + 2) 59 #[.slice none 0 0] := by rw [hW]; exact row_top (by simp)
  have b0 : Below w.heap.size w W := by rw [hW]; exact (((Below.refl _ _).alloc (Nat.le_refl _) _).alloc (by simp) _).alloc (by simp; omega) _
  have h0 : SegB W W.heap.size A n := fun hp => by
    obtain ⟨b, off, e, hb, hc⟩ := h hp
    refine ⟨b, off, e, Nat.lt_of_lt_of_le hb b0.size, fun j hj => ?_⟩
    obtain ⟨x, x0, x1, hx⟩ := hc j hj
    exact ⟨x, x0, x1, (b0.cell (p := ⟨b, off + j, none⟩) hb).trans hx⟩
  have L := Lib.hid (new_ A n c W h0 hn)
  have HW := Lib.hid hW
  have zW := r2.lt
  clear h h0 hW
  go_enter Tryz.func31, Tryz.ntmps31
  go_wp2_with fail
  rw [← HW.out]
  refine L.out.mono ?_
  rintro e w1 ⟨p, rfl, hp, d1, bb⟩
  replace r0 := r0.next bb
  replace r1 := r1.next bb
  replace r2 := r2.next bb
  replace b0 := next_trans b0 bb
  have L2 := Lib.hid (drawSysAny p A n c w1 d1)
  have hp1 := d1.lt
  have hp3 : w.heap.size + 3 ≤ p := by omega
  clear d1 bb L HW
  go_wp2_with fail
  refine L2.out.mono ?_
  rintro e w2 ⟨S, sn, sc, sg, R, rn, rc, D, rfl, s2, h9, o2, hM, d2, g2⟩
  replace r2 := Row.away r2 g2 (fun e => by injection e with e; omega)
  have T : WI w p w1.heap.size A n c S sn sc sg R rn rc D none 0 0 none 0 0 (([], []) : List Int × List (Dat sStep)) w2 :=
    ⟨s2, o2, d2, Row.away r0 g2 (fun e => by injection e with e; omega), Row.away r1 g2 (fun e => by injection e with e; omega), b0.grown g2 b0.size (fun k hk => by injection hk with hk; omega), zero_wk _ _, by omega, hp1⟩
  have zsz := sys_sz2 h9 hM
  have HSZ := Lib.hid zsz
  have z12 : w1.heap.size ≤ w2.heap.size := g2.size
  obtain ⟨o7, ho7⟩ : ∃ o, w2.heap.size = o := ⟨_, rfl⟩
  obtain ⟨W3, hW3⟩ : ∃ W, W = w2.alloc (.cells #[.slice S sn sc, .slice R rn rc] 29) := ⟨_, rfl⟩
  have b3 : Below w2.heap.size w2 W3 := by rw [hW3]; exact (Below.refl _ _).alloc (Nat.le_refl _) _
  have r7 : Row W3 o7 29 #[.slice S sn sc, .slice R rn rc] := by rw [hW3, ← ho7]; exact Row.new _ _ _
  replace T := T.next b3
  replace r2 := r2.next b3
  have hp7 : p < o7 := by omega
  have zlo7 : w1.heap.size ≤ o7 := by omega
  have L3 := Lib.hid (l7DrawWalk p A n c S sn sc R rn rc ((sg, D) : List Int × List (Dat sRule)) W3 T.di T.rdq zsz)
  have HW3 := Lib.hid hW3
  have HO7 := Lib.hid ho7
  clear s2 o2 d2 g2 b3 hW3 ho7 L2 r0 r1 b0 zsz
  go_wp2_with fail
  rw [← HW3.out, HO7.out]
  refine L3.out.mono ?_
  rintro e w4 ⟨F, fn, fc, Q, qn, qc, k, rfl, kR, kz, d4, g4⟩
  replace T := (T.dice d4 g4).setw kR
  replace r7 := Row.away r7 g4 (fun e => by injection e with e; omega)
  replace r2 := Row.away r2 g4 (fun e => by injection e with e; omega)
  obtain ⟨o8, ho8⟩ : ∃ o, w4.heap.size = o := ⟨_, rfl⟩
  obtain ⟨W5, hW5⟩ : ∃ W, W = w4.alloc (.cells #[.slice F fn fc, .slice Q qn qc] 41) := ⟨_, rfl⟩
  have b5 : Below w4.heap.size w4 W5 := by rw [hW5]; exact (Below.refl _ _).alloc (Nat.le_refl _) _
  have r8 : Row W5 o8 41 #[.slice F fn fc, .slice Q qn qc] := by rw [hW5, ← ho8]; exact Row.new _ _ _
  have hp8 : p < o8 := by have := r7.lt; omega
  have z78 : o7 < o8 := by have := r7.lt; omega
  replace T := T.next b5
  replace r7 := r7.next b5
  replace r2 := r2.next b5
  have HKZ := Lib.hid kz
  have HW5 := Lib.hid hW5
  have HO8 := Lib.hid ho8
  have hsn : sn ≤ 9 := by have := (rd_of T.s).1; omega
  have zw2 : w.heap.size + 2 ≤ o7 := by have := T.hp; omega
  clear kR kz d4 g4 b5 hW5 ho8 L3 HW3 HO7 h9 hM
  have L4 := Lib.hid (fun (w9 : World) (T9 : WI w p w1.heap.size A n c S sn sc sg R rn rc D F fn fc Q qn qc k w9) => drawAnyS p A n c S sn sc sg w9 T9.di (rd_of T9.s) (by omega))
  go_upto_region 4 with fail
  rw [← HW5.out, HO8.out]
  have HTD := Lib.hid (T.next (drew_below W5))
  have HR7 := Lib.hid (r7.next (drew_below W5))
  have HR8 := Lib.hid (r8.next (drew_below W5))
  have HR2 := Lib.hid (r2.next (drew_below W5))
  have zp2 : w.heap.size + 3 ≤ p := hp3
  have zlo : w1.heap.size ≤ W5.drew.heap.size := by have := r7.lt; show w1.heap.size ≤ W5.heap.size; omega
  have e0 : W5.drew.cell? ⟨o7, 0, none⟩ = some (.slice S sn sc) := HR7.out.cell 0
  have e1 : W5.drew.cell? ⟨o7, 1, none⟩ = some (.slice R rn rc) := HR7.out.cell 1
  have e2 : W5.drew.cell? ⟨o8, 0, none⟩ = some (.slice F fn fc) := HR8.out.cell 0
  have e3 : W5.drew.cell? ⟨o8, 1, none⟩ = some (.slice Q qn qc) := HR8.out.cell 1
  clear T r7 r8 r2 HW5 HO8
  refine AnyT.start (S := (fun w' => w'.cell? ⟨o7, 0, none⟩ = some (.slice S sn sc) ∧ w'.cell? ⟨o7, 1, none⟩ = some (.slice R rn rc) ∧ w'.cell? ⟨o8, 0, none⟩ = some (.slice F fn fc) ∧ w'.cell? ⟨o8, 1, none⟩ = some (.slice Q qn qc))) (fun _ => false) (by kernel_rfl) ⟨e0, e1, e2, e3⟩ (fun hHeld => ?_)
  refine AnyT.take (i := 0) (v := ?_) rfl (by kernel_rfl) (by kernel_rfl) (by kernel_rfl) (by kernel_rfl) (fun _ _ _ h => h) (Or.inl ⟨by rfl, ?_⟩) (by assumption) ?_
  rotate_left 1
  · (intro w0 hSw; (try dsimp only at hSw); go_simp; try with_reducible rfl)
  try simp only [Act.put, List.setIfInBounds_toArray, List.set_cons_zero, List.set_cons_succ, List.getElem_toArray, List.getElem_cons_zero, List.getElem_cons_succ]
  refine AnyT.take (i := 1) (v := ?_) rfl (by kernel_rfl) (by kernel_rfl) (by kernel_rfl) (by kernel_rfl) (fun _ _ _ h => h) (Or.inl ⟨by rfl, ?_⟩) (by assumption) ?_
  rotate_left 1
  · (intro w0 hSw; (try dsimp only at hSw); go_simp; try with_reducible rfl)
  try simp only [Act.put, List.setIfInBounds_toArray, List.set_cons_zero, List.set_cons_succ, List.getElem_toArray, List.getElem_cons_zero, List.getElem_cons_succ]
  refine AnyT.takeA (i := 2) (v := ?_) rfl (by kernel_rfl) (by kernel_rfl) (by kernel_rfl) (fun _ _ _ h => h) (Or.inl ⟨by rfl, ?_⟩) ?_
  rotate_left 1
  · (intro w0 _; go_simp; try with_reducible rfl)
  try simp only [Act.put, List.setIfInBounds_toArray, List.set_cons_zero, List.set_cons_succ, List.getElem_toArray, List.getElem_cons_zero, List.getElem_cons_succ]
  refine AnyT.takeA (i := 3) (v := ?_) rfl (by kernel_rfl) (by kernel_rfl) (by kernel_rfl) (fun _ _ _ h => h) (Or.inl ⟨by rfl, ?_⟩) ?_
  rotate_left 1
  · (intro w0 _; go_simp; try with_reducible rfl)
  try simp only [Act.put, List.setIfInBounds_toArray, List.set_cons_zero, List.set_cons_succ, List.getElem_toArray, List.getElem_cons_zero, List.getElem_cons_succ]
  refine AnyT.take (i := 4) (v := ?_) rfl (by kernel_rfl) (by kernel_rfl) (by kernel_rfl) (by kernel_rfl) (fun _ _ _ h => h) (Or.inl ⟨by rfl, ?_⟩) (by assumption) ?_
  rotate_left 1
  · (intro w0 hSw; (try dsimp only at hSw); go_simp; try with_reducible rfl)
  try simp only [Act.put, List.setIfInBounds_toArray, List.set_cons_zero, List.set_cons_succ, List.getElem_toArray, List.getElem_cons_zero, List.getElem_cons_succ]
  refine AnyT.call (i := 5) (by kernel_rfl) rfl (fun K hK => ?_)
  try simp only [Act.put, List.setIfInBounds_toArray, List.set_cons_zero, List.set_cons_succ, List.getElem_toArray, List.getElem_cons_zero, List.getElem_cons_succ]
  rw [if_pos (by rfl)]
  go_simp
  (go_at_call 76; refine (L4.out _ HTD.out).mono ?_; rintro e w7 ⟨B, m, cB, xss, rfl, oS, hsm, d7, g7⟩; have T7 := HTD.out.dice d7 g7; have r7 := Row.away HR7.out g7 (fun e => by injection e with e; omega); have r8 := Row.away HR8.out g7 (fun e => by injection e with e; omega); have r2 := Row.away HR2.out g7 (fun e => by injection e with e; omega); have k0 : w7.cell? ⟨o7, 0, none⟩ = some (.slice S sn sc) := r7.cell 0; have k1 : w7.cell? ⟨o7, 1, none⟩ = some (.slice R rn rc) := r7.cell 1; have k2 : w7.cell? ⟨o8, 0, none⟩ = some (.slice F fn fc) := r8.cell 0; have k3 : w7.cell? ⟨o8, 1, none⟩ = some (.slice Q qn qc) := r8.cell 1; go_wp2_with fail)
  refine hK.out _ _ (fun _ _ => ?_) (fun hKeep => ?_)
  · exact ⟨k0, k1, k2, k3⟩
  replace hHeld := hKeep (by first | rfl | trivial) hHeld
  clear hK K hKeep
  try simp only [Act.put, List.setIfInBounds_toArray, List.set_cons_zero, List.set_cons_succ, List.getElem_toArray, List.getElem_cons_zero, List.getElem_cons_succ]
  have y0a : w7.cell? ⟨w.heap.size, 0, none⟩ = some (.slice none 0 0) := T7.r0.cell 0
  have y1a : w7.cell? ⟨w.heap.size, 1, none⟩ = some (.slice none 0 0) := T7.r0.cell 1
  have g0a := T7.r0.free 0
  have g1a := T7.r0.free 1
  have raa := T7.r0.put 0 (.slice S sn sc)
  have y2a : (w7.setCell ⟨w.heap.size, 0, none⟩ (.slice S sn sc)).cell? ⟨w.heap.size, 1, none⟩ = some (.slice none 0 0) := raa.cell 1
  have g2a := raa.free 1
  have rba := raa.put 1 (.slice R rn rc)
  have rq1 := (T7.r1.far (show w.heap.size + 1 ≠ w.heap.size by omega) (p := ⟨w.heap.size, 0, none⟩) (.slice S sn sc)).far (show w.heap.size + 1 ≠ w.heap.size by omega) (p := ⟨w.heap.size, 1, none⟩) (.slice R rn rc)
  have y0b : ((w7.setCell ⟨w.heap.size, 0, none⟩ (.slice S sn sc)).setCell ⟨w.heap.size, 1, none⟩ (.slice R rn rc)).cell? ⟨w.heap.size + 1, 0, none⟩ = some (.slice none 0 0) := rq1.cell 0
  have y1b : ((w7.setCell ⟨w.heap.size, 0, none⟩ (.slice S sn sc)).setCell ⟨w.heap.size, 1, none⟩ (.slice R rn rc)).cell? ⟨w.heap.size + 1, 1, none⟩ = some (.slice none 0 0) := rq1.cell 1
  have g0b := rq1.free 0
  have g1b := rq1.free 1
  have rab := rq1.put 0 (.slice F fn fc)
  have y2b : (((w7.setCell ⟨w.heap.size, 0, none⟩ (.slice S sn sc)).setCell ⟨w.heap.size, 1, none⟩ (.slice R rn rc)).setCell ⟨w.heap.size + 1, 0, none⟩ (.slice F fn fc)).cell? ⟨w.heap.size + 1, 1, none⟩ = some (.slice none 0 0) := rab.cell 1
  have g2b := rab.free 1
  have rbb := rab.put 1 (.slice Q qn qc)
  have f7o7 := (r7.far (show o7 ≠ w.heap.size by omega) (p := ⟨w.heap.size, 0, none⟩) (.slice S sn sc)).far (show o7 ≠ w.heap.size by omega) (p := ⟨w.heap.size, 1, none⟩) (.slice R rn rc)
  have f8o7 := (f7o7.far (show o7 ≠ w.heap.size + 1 by omega) (p := ⟨w.heap.size + 1, 0, none⟩) (.slice F fn fc)).far (show o7 ≠ w.heap.size + 1 by omega) (p := ⟨w.heap.size + 1, 1, none⟩) (.slice Q qn qc)
  have f9o7 := f8o7.far (show o7 ≠ w.heap.size + 2 by omega) (p := ⟨w.heap.size + 2, 0, none⟩) (.slice B m cB)
  have f7o8 := (r8.far (show o8 ≠ w.heap.size by omega) (p := ⟨w.heap.size, 0, none⟩) (.slice S sn sc)).far (show o8 ≠ w.heap.size by omega) (p := ⟨w.heap.size, 1, none⟩) (.slice R rn rc)
  have f8o8 := (f7o8.far (show o8 ≠ w.heap.size + 1 by omega) (p := ⟨w.heap.size + 1, 0, none⟩) (.slice F fn fc)).far (show o8 ≠ w.heap.size + 1 by omega) (p := ⟨w.heap.size + 1, 1, none⟩) (.slice Q qn qc)
  have f9o8 := f8o8.far (show o8 ≠ w.heap.size + 2 by omega) (p := ⟨w.heap.size + 2, 0, none⟩) (.slice B m cB)
  have rsB := (rba.far (show w.heap.size ≠ w.heap.size + 1 by omega) (p := ⟨w.heap.size + 1, 0, none⟩) (.slice F fn fc)).far (show w.heap.size ≠ w.heap.size + 1 by omega) (p := ⟨w.heap.size + 1, 1, none⟩) (.slice Q qn qc)
  have rq2 := ((((r2.far (show w.heap.size + 2 ≠ w.heap.size by omega) (p := ⟨w.heap.size, 0, none⟩) (.slice S sn sc)).far (show w.heap.size + 2 ≠ w.heap.size by omega) (p := ⟨w.heap.size, 1, none⟩) (.slice R rn rc)).far (show w.heap.size + 2 ≠ w.heap.size + 1 by omega) (p := ⟨w.heap.size + 1, 0, none⟩) (.slice F fn fc)).far (show w.heap.size + 2 ≠ w.heap.size + 1 by omega) (p := ⟨w.heap.size + 1, 1, none⟩) (.slice Q qn qc))
  have y0c : ((((w7.setCell ⟨w.heap.size, 0, none⟩ (.slice S sn sc)).setCell ⟨w.heap.size, 1, none⟩ (.slice R rn rc)).setCell ⟨w.heap.size + 1, 0, none⟩ (.slice F fn fc)).setCell ⟨w.heap.size + 1, 1, none⟩ (.slice Q qn qc)).cell? ⟨w.heap.size + 2, 0, none⟩ = some (.slice none 0 0) := rq2.cell 0
  have g0c := rq2.free 0
  have rbc := rq2.put 0 (.slice B m cB)
  have rsC := rsB.far (show w.heap.size ≠ w.heap.size + 2 by omega) (p := ⟨w.heap.size + 2, 0, none⟩) (.slice B m cB)
  have rtC := rbb.far (show w.heap.size + 1 ≠ w.heap.size + 2 by omega) (p := ⟨w.heap.size + 2, 0, none⟩) (.slice B m cB)
  have uu0 : (((((w7.setCell ⟨w.heap.size, 0, none⟩ (.slice S sn sc)).setCell ⟨w.heap.size, 1, none⟩ (.slice R rn rc)).setCell ⟨w.heap.size + 1, 0, none⟩ (.slice F fn fc)).setCell ⟨w.heap.size + 1, 1, none⟩ (.slice Q qn qc)).setCell ⟨w.heap.size + 2, 0, none⟩ (.slice B m cB)).cell? ⟨w.heap.size, 0, none⟩ = some (.slice S sn sc) := rsC.cell 0
  have uu1 : (((((w7.setCell ⟨w.heap.size, 0, none⟩ (.slice S sn sc)).setCell ⟨w.heap.size, 1, none⟩ (.slice R rn rc)).setCell ⟨w.heap.size + 1, 0, none⟩ (.slice F fn fc)).setCell ⟨w.heap.size + 1, 1, none⟩ (.slice Q qn qc)).setCell ⟨w.heap.size + 2, 0, none⟩ (.slice B m cB)).cell? ⟨w.heap.size, 1, none⟩ = some (.slice R rn rc) := rsC.cell 1
  have vv0 : (((((w7.setCell ⟨w.heap.size, 0, none⟩ (.slice S sn sc)).setCell ⟨w.heap.size, 1, none⟩ (.slice R rn rc)).setCell ⟨w.heap.size + 1, 0, none⟩ (.slice F fn fc)).setCell ⟨w.heap.size + 1, 1, none⟩ (.slice Q qn qc)).setCell ⟨w.heap.size + 2, 0, none⟩ (.slice B m cB)).cell? ⟨w.heap.size + 1, 0, none⟩ = some (.slice F fn fc) := rtC.cell 0
  have vv1 : (((((w7.setCell ⟨w.heap.size, 0, none⟩ (.slice S sn sc)).setCell ⟨w.heap.size, 1, none⟩ (.slice R rn rc)).setCell ⟨w.heap.size + 1, 0, none⟩ (.slice F fn fc)).setCell ⟨w.heap.size + 1, 1, none⟩ (.slice Q qn qc)).setCell ⟨w.heap.size + 2, 0, none⟩ (.slice B m cB)).cell? ⟨w.heap.size + 1, 1, none⟩ = some (.slice Q qn qc) := rtC.cell 1
  have xx0 : (((((w7.setCell ⟨w.heap.size, 0, none⟩ (.slice S sn sc)).setCell ⟨w.heap.size, 1, none⟩ (.slice R rn rc)).setCell ⟨w.heap.size + 1, 0, none⟩ (.slice F fn fc)).setCell ⟨w.heap.size + 1, 1, none⟩ (.slice Q qn qc)).setCell ⟨w.heap.size + 2, 0, none⟩ (.slice B m cB)).cell? ⟨w.heap.size + 2, 0, none⟩ = some (.slice B m cB) := rbc.cell 0
  have hne : blk R ≠ some w.heap.size := fun e => by have := (T7.own.ge _ e).1; have := T7.hp; have := T7.hl; omega
  have hne1 : blk R ≠ some (w.heap.size + 1) := fun e => by have := (T7.own.ge _ e).1; have := T7.hp; have := T7.hl; omega
  have sB := ints_put (ints_put (ints_put (ints_put T7.s T7.r0 0 (.slice S sn sc)) raa 1 (.slice R rn rc)) rq1 0 (.slice F fn fc)) rab 1 (.slice Q qn qc)
  have oB := ownQ_put (ownQ_put (ownQ_put (ownQ_put T7.own T7.r0 hne 0 (.slice S sn sc)) raa hne 1 (.slice R rn rc)) rq1 hne1 0 (.slice F fn fc)) rab hne1 1 (.slice Q qn qc)
  have kB := walk_put (i := 1) (u := .slice Q qn qc) (walk_put (i := 0) (u := .slice F fn fc) (walk_put (i := 1) (u := .slice R rn rc) (walk_put (i := 0) (u := .slice S sn sc) T7.wk T7.r0) raa) rq1) rab
  have bB := (((T7.b.setCell (p := ⟨w.heap.size, 0, none⟩) (Nat.le_refl _) (.slice S sn sc)).setCell (p := ⟨w.heap.size, 1, none⟩) (Nat.le_refl _) (.slice R rn rc)).setCell (p := ⟨w.heap.size + 1, 0, none⟩) (Nat.le_succ _) (.slice F fn fc)).setCell (p := ⟨w.heap.size + 1, 1, none⟩) (Nat.le_succ _) (.slice Q qn qc)
  have hX := subst_put3 (u0 := .slice S sn sc) (u1 := .slice R rn rc) (u2 := .slice F fn fc) (u3 := .slice Q qn qc) (u4 := .slice B m cB) oS (by omega) T7.r0 two_slices T7.r1 two_slices r2 one_slice
  have hne2 : blk R ≠ some (w.heap.size + 2) := fun e => by have := (T7.own.ge _ e).1; have := T7.hl; omega
  have sC := (ints_neA sB rq2 one_slice).keep (fun b hb => Below.heap_setCell _ ⟨w.heap.size + 2, 0, none⟩ (.slice B m cB) b hb.2)
  have oC := own_far oB hne2 rq2 one_slice 0 (.slice B m cB)
  have kC := walk_far kB rq2 one_slice (i := 0) (u := .slice B m cB)
  have bC := bB.setCell (p := ⟨w.heap.size + 2, 0, none⟩) (by show w.heap.size ≤ w.heap.size + 2; omega) (.slice B m cB)
  have FF := Lib.hid (show AnsUnd w (.returned (.tuple #[.agg #[.slice S sn sc, .slice R rn rc], .agg #[.slice F fn fc, .slice Q qn qc], .agg #[.slice B m cB]])) (((((w7.setCell ⟨w.heap.size, 0, none⟩ (.slice S sn sc)).setCell ⟨w.heap.size, 1, none⟩ (.slice R rn rc)).setCell ⟨w.heap.size + 1, 0, none⟩ (.slice F fn fc)).setCell ⟨w.heap.size + 1, 1, none⟩ (.slice Q qn qc)).setCell ⟨w.heap.size + 2, 0, none⟩ (.slice B m cB)) from ⟨_, _, _, _, _, _, ((sg, D) : List Int × List (Dat sRule)), _, _, _, _, _, _, k, _, _, _, xss, rfl, RdQ.rd (Q := fun b => b < w7.heap.size) (fun b hb => by simpa using hb) (RdQ.cat (ca := [_]) (cb := [_]) (sC.mono fun b hb => by have := hb.1.1; simpa using this) ((oC.rdq T7.hl).mono fun b hb => by have := hb.1; simpa using this)), HSZ.out, kC.rd (fun b hb => hb.1), HKZ.out, hX.rd (fun b hb => by simpa using hb), subst_small hsm oS.1, bC⟩)
  have HS7 := Lib.hid (show _ ∧ _ ∧ _ ∧ _ from ⟨f7o7.cell 0, f7o7.cell 1, f7o8.cell 0, f7o8.cell 1⟩)
  have HS8 := Lib.hid (show _ ∧ _ ∧ _ ∧ _ from ⟨f8o7.cell 0, f8o7.cell 1, f8o8.cell 0, f8o8.cell 1⟩)
  have HS9 := Lib.hid (show _ ∧ _ ∧ _ ∧ _ from ⟨f9o7.cell 0, f9o7.cell 1, f9o8.cell 0, f9o8.cell 1⟩)
  clear T7 r7 r8 r2 d7 g7 raa rba rab rbb rbc rq1 rq2 f7o7 f7o8 f8o7 f8o8 f9o7 f9o8 rsB rsC rtC sB oB kB bB sC oC kC bC oS hsm hX hne hne1 hne2 HTD HR7 HR8 HR2
  refine AnyT.call (i := 6) (by kernel_rfl) rfl (fun K hK => ?_)
  try simp only [Act.put, List.setIfInBounds_toArray, List.set_cons_zero, List.set_cons_succ, List.getElem_toArray, List.getElem_cons_zero, List.getElem_cons_succ]
  rw [if_pos (by rfl)]
  go_simp
  refine hK.out _ _ (fun _ _ => ?_) (fun hKeep => ?_)
  · exact HS7.out
  replace hHeld := hKeep (by first | rfl | trivial) hHeld
  clear hK K hKeep
  try simp only [Act.put, List.setIfInBounds_toArray, List.set_cons_zero, List.set_cons_succ, List.getElem_toArray, List.getElem_cons_zero, List.getElem_cons_succ]
  refine AnyT.call (i := 7) (by kernel_rfl) rfl (fun K hK => ?_)
  try simp only [Act.put, List.setIfInBounds_toArray, List.set_cons_zero, List.set_cons_succ, List.getElem_toArray, List.getElem_cons_zero, List.getElem_cons_succ]
  rw [if_pos (by rfl)]
  go_simp
  refine hK.out _ _ (fun _ _ => ?_) (fun hKeep => ?_)
  · exact HS8.out
  replace hHeld := hKeep (by first | rfl | trivial) hHeld
  clear hK K hKeep
  try simp only [Act.put, List.setIfInBounds_toArray, List.set_cons_zero, List.set_cons_succ, List.getElem_toArray, List.getElem_cons_zero, List.getElem_cons_succ]
  refine AnyT.call (i := 8) (by kernel_rfl) rfl (fun K hK => ?_)
  try simp only [Act.put, List.setIfInBounds_toArray, List.set_cons_zero, List.set_cons_succ, List.getElem_toArray, List.getElem_cons_zero, List.getElem_cons_succ]
  rw [if_pos (by rfl)]
  go_simp
  refine hK.out _ _ (fun _ _ => ?_) (fun hKeep => ?_)
  · exact HS9.out
  replace hHeld := hKeep (by first | rfl | trivial) hHeld
  clear hK K hKeep
  try simp only [Act.put, List.setIfInBounds_toArray, List.set_cons_zero, List.set_cons_succ, List.getElem_toArray, List.getElem_cons_zero, List.getElem_cons_succ]
  refine AnyT.done (by kernel_rfl) ?_ _
  clear e0 e1 e2 e3 k0 k1 k2 k3 HS7 HS8 HS9
  go_wp2
  exact bodyPost_ret (v := .tuple #[.agg #[.slice S sn sc, .slice R rn rc], .agg #[.slice F fn fc, .slice Q qn qc], .agg #[.slice B m cB]]) (by simp [results, Tryz.results31, go_sem, uu0, uu1, vv0, vv1, xx0]) rfl FF.out
end Go.Proofs.YtpcnjcgglonifaaGreat.drawW
end
