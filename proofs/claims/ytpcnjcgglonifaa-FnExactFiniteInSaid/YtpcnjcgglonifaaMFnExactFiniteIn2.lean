/-
  MERGED: my texts OwnL, KindsW, VarsMath, Term2, TermFacts, Copy, Vars, AnsB, VarsOf, CountL, Linear, FillMath, RenMath, RuleMath, EndOf, Sym, CurO, Sub, Args, Depth, TermMath, PosMath, MatchMath, PutMath, Look, SubstOk, Gives, StepMath, WalkMath, StepsMath, OrderMath, ByMath, one behind the other, as they are. By an AI agent.
-/
import Derived.Test.YtpcnjcgglonifaaMFnExactFiniteIn1
import Derived.Deep.RegionHeld3
import Derived.WalkSpells
import Derived.Shelf.Abstract
import Derived.Deep.QuietTactic
import Derived.BigQuiet
section
namespace Go.Proofs.Ytpcnjcgglonifaa.ownL
open Go.RowKit base ints sig cursor marks app appAt sym segs shape drawX
set_option maxRecDepth 100000

theorem Ow.one {w : World} : ∀ {s : Sh} {cs : List Value} {d : Dat s} {F : List Nat}, Ow w s cs d F → ∀ u ∈ cs, u.oneCell' = true
  | .num, _, _, _, h, u, hu => by have h : _ = _ ∧ _ := h; rw [h.1] at hu; rw [List.mem_singleton.1 hu]; rfl
  | .bit, _, _, _, h, u, hu => by have h : _ = _ ∧ _ := h; rw [h.1] at hu; rw [List.mem_singleton.1 hu]; rfl
  | .row _ _, _, _, _, h, u, hu => by obtain ⟨A, n, c, e, _⟩ := h; rw [e] at hu; rw [List.mem_singleton.1 hu]; rfl
  | .cat a b, _, _, _, h, u, hu => by
    obtain ⟨ca, cb, Fa, Fb, e, _, h1, h2⟩ := h
    rw [e] at hu
    rcases List.mem_append.1 hu with hu | hu
    · exact Ow.one h1 u hu
    · exact Ow.one h2 u hu

def OwnL (w : World) (lo hi : Nat) (e : TypeId) (s : Sh) (A : Option Addr) (n c : Nat) (D : List (Dat s)) : Prop :=
  D.length = n ∧ (∀ k, blk A = some k → k < hi) ∧ ∃ (vs : List Value) (G : Nat → List Nat), w.ownsRow lo e (nc s) (.slice A n c) n vs ∧ (A = none → c = 0) ∧ ((List.range n).flatMap G).Nodup ∧
    ∀ j, j < n → Ow w s (cellsOf (nc s) vs j) (D.getD j (dft s)) (G j) ∧ ∀ q ∈ G j, lo ≤ q ∧ q < hi ∧ some q ≠ blk A
section
variable {w w' : World} {lo hi n c : Nat} {e : TypeId} {s : Sh} {A : Option Addr} {D : List (Dat s)}
theorem OwnL.nil (w : World) (lo hi : Nat) (e : TypeId) (s : Sh) : OwnL w lo hi e s none 0 0 [] := ⟨rfl, (fun k hk => by cases hk), [], fun _ => [], ⟨by simp, .inl ⟨rfl, rfl⟩⟩, fun _ => rfl, by simp, fun j hj => absurd hj (Nat.not_lt_zero _)⟩
theorem OwnL.empty (w : World) {lo hi : Nat} (e : TypeId) (s : Sh) (h : lo ≤ w.heap.size) (h2 : w.heap.size < hi) : OwnL (w.alloc (.cells #[] e)) lo hi e s (some ⟨w.heap.size, 0, none⟩) 0 0 [] :=
  ⟨rfl, (fun k hk => by injection hk with hk; rw [← hk]; exact h2), [], fun _ => [], ⟨by simp, .inr ⟨w.heap.size, 0, #[], rfl, h, heap_alloc_new w _, Nat.le_refl _, by decide, by simp, by simp⟩⟩, (fun e => by cases e), by simp, fun j hj => absurd hj (Nat.not_lt_zero _)⟩
theorem OwnL.keep (h : OwnL w lo hi e s A n c D) (hk : ∀ k, lo ≤ k → k < hi → k < w.heap.size → w'.heap[k]? = w.heap[k]?) (hs : w.heap.size ≤ w'.heap.size) : OwnL w' lo hi e s A n c D := by
  obtain ⟨h1, h2, vs, G, h3, h4, h5, h6⟩ := h
  refine ⟨h1, h2, vs, G, ?_, h4, h5, fun j hj => ⟨(h6 j hj).1.keep fun q hq => ?_, (h6 j hj).2⟩⟩
  · refine ⟨h3.1, ?_⟩
    rcases h3.2 with q | ⟨g, cap, cur, e1, hg, hr, q⟩
    · exact .inl q
    · have hlt := (Array.getElem?_eq_some_iff.1 hr).1
      injection e1 with e2 e3 e4
      exact .inr ⟨g, cap, cur, by rw [e2, e4], hg, (hk g hg (h2 g (by rw [e2]; rfl)) hlt).trans hr, q⟩
  · have := (h6 j hj).2 q hq
    exact hk q this.1 this.2.1 ((h6 j hj).1.lt q hq)
theorem OwnL.next (h : OwnL w lo hi e s A n c D) (hb : Below w.heap.size w w') : OwnL w' lo hi e s A n c D := h.keep (fun k _ _ hk => hb.block k hk) hb.size
theorem OwnL.btw {lo' hi' : Nat} (h : OwnL w lo hi e s A n c D) (hb : Btw lo' hi' w w') (ho : hi ≤ lo' ∨ hi' ≤ lo) : OwnL w' lo hi e s A n c D := h.keep (fun k h1 h2 hk => hb.block k hk (by omega)) hb.size
theorem OwnL.wider {lo' hi' : Nat} (h : OwnL w lo hi e s A n c D) (h1 : lo' ≤ lo) (h2 : hi ≤ hi') : OwnL w lo' hi' e s A n c D := by
  obtain ⟨q1, q2, vs, G, q3, q4, q5, q6⟩ := h
  refine ⟨q1, fun k hk => Nat.lt_of_lt_of_le (q2 k hk) h2, vs, G, ⟨q3.1, ?_⟩, q4, q5, fun j hj => ⟨(q6 j hj).1, fun q hq => ?_⟩⟩
  · rcases q3.2 with q | ⟨g, cap, cur, e1, hg, q⟩
    · exact .inl q
    · exact .inr ⟨g, cap, cur, e1, by omega, q⟩
  · have := (q6 j hj).2 q hq
    exact ⟨by omega, by omega, this.2.2⟩
theorem OwnL.ge (h : OwnL w lo hi e s A n c D) : ∀ k, blk A = some k → lo ≤ k ∧ k < w.heap.size := fun k hk => by
  obtain ⟨_, _, vs, G, ho, _⟩ := h
  exact World.ownsRow.lt ho k (by rw [blk_own]; exact hk)
theorem OwnL.owned (h : OwnL w lo hi e s A n c D) : Owned w lo hi (.row e s) [.slice A n c] D := by
  obtain ⟨h1, h2, vs, G, h3, h4, h5, h6⟩ := h
  rcases h3.2 with ⟨e1, h0⟩ | ⟨g, cap, cur, e1, hg, hrow, hn, hm, hs, ht⟩
  · injection e1 with a1 a2 a3
    subst a1 a2 a3
    exact ⟨[], ⟨none, 0, 0, rfl, h1, .inl ⟨rfl, rfl, rfl, rfl⟩⟩, by simp, fun k hk => by cases hk⟩
  · injection e1 with a1 a2 a3
    subst a1 a3
    have hl : vs.length = n * nc s := h3.1
    refine ⟨g :: (List.range n).flatMap G, ⟨_, n, c, rfl, h1, .inr ⟨g, cur, cellsOf (nc s) vs, G, rfl, hrow, hn, by unfold maxLen at hm; omega, hs, rfl, fun j hj => ?_⟩⟩, List.nodup_cons.2 ⟨fun hb => ?_, h5⟩, fun k hk => ?_⟩
    · have hjn : j * nc s + nc s ≤ n * nc s := by
        have := Nat.mul_le_mul_right (nc s) (show j + 1 ≤ n by omega)
        rw [Nat.add_mul] at this
        omega
      refine ⟨(h6 j hj).1.len, fun i hi => ?_, (h6 j hj).1⟩
      have h7 : cur.toList[j * nc s + i]? = vs[j * nc s + i]? := by rw [← ht, List.getElem?_take, if_pos (by omega)]
      rw [← Array.getElem?_toList, h7]
      unfold cellsOf
      rw [List.getElem?_take, if_pos hi, List.getElem?_drop]
    · obtain ⟨j, hj, hb⟩ := List.mem_flatMap.1 hb
      exact ((h6 j (List.mem_range.1 hj)).2 g hb).2.2 rfl
    · rcases List.mem_cons.1 hk with hk | hk
      · rw [hk]; exact ⟨hg, h2 g rfl⟩
      · obtain ⟨j, hj, hb⟩ := List.mem_flatMap.1 hk
        have := (h6 j (List.mem_range.1 hj)).2 k hb
        exact ⟨this.1, this.2.1⟩
theorem OwnL.rd (h : OwnL w lo hi e s A n c D) : Rd w w.heap.size (.row e s) [.slice A n c] D := h.owned.rd
theorem cells_left {k n j : Nat} {vs es : List Value} (hl : vs.length = n * k) (hj : j < n) : cellsOf k (vs ++ es) j = cellsOf k vs j := by
  have hjn : j * k + k ≤ n * k := by
    have := Nat.mul_le_mul_right k (show j + 1 ≤ n by omega)
    rw [Nat.add_mul] at this
    omega
  unfold cellsOf
  rw [List.drop_append_of_le_length (by omega), List.take_append_of_le_length (by rw [List.length_drop]; omega)]
theorem cells_right {k n j : Nat} {vs es : List Value} (hl : vs.length = n * k) : cellsOf k (vs ++ es) (n + j) = cellsOf k es j := by
  unfold cellsOf
  rw [show (n + j) * k = vs.length + j * k by rw [hl, Nat.add_mul], ← List.drop_drop, List.drop_left]
theorem flat_range {G H : Nat → List Nat} : ∀ {n m : Nat}, (List.range (n + m)).flatMap (fun j => if j < n then G j else H (j - n)) = (List.range n).flatMap G ++ (List.range m).flatMap H
  | n, 0 => by
    simp only [Nat.add_zero, List.range_zero, List.flatMap_nil, List.append_nil]
    rw [List.flatMap_def, List.flatMap_def]
    congr 1
    exact List.map_congr_left fun j hj => if_pos (List.mem_range.1 hj)
  | n, m + 1 => by
    rw [← Nat.add_assoc, List.range_succ, List.flatMap_append, flat_range, List.range_succ, List.flatMap_append]
    simp
    intro h; omega
theorem ownL_app {mid hi2 m : Nat} {vs es : List Value} {G : Nat → List Nat} {E : List (Dat s)} {H : Nat → List Nat} {A' : Option Addr} {c' : Nat} (h1 : D.length = n) (h2 : ∀ k, blk A = some k → k < hi) (h3 : w.ownsRow lo e (nc s) (.slice A n c) n vs) (h5 : ((List.range n).flatMap G).Nodup)
    (h6 : ∀ j, j < n → Ow w s (cellsOf (nc s) vs j) (D.getD j (dft s)) (G j) ∧ ∀ q ∈ G j, lo ≤ q ∧ q < hi ∧ some q ≠ blk A) (hmid : hi ≤ mid) (hlo : lo ≤ mid)
    (hE : E.length = m) (hn : ((List.range m).flatMap H).Nodup) (hin : ∀ j, j < m → Ow w s (cellsOf (nc s) es j) (E.getD j (dft s)) (H j) ∧ ∀ q ∈ H j, mid ≤ q ∧ q < hi2)
    (hown : w'.ownsRow lo e (nc s) (.slice A' (n + m) c') (n + m) (vs ++ es)) (hg : w.grownBy w' (blk A)) (hat : blk A' = blk A ∨ blk A' = some w.heap.size) (hc' : A' = none → c' = 0) : OwnL w' lo w'.heap.size e s A' (n + m) c' (D ++ E) := by
  have hvl : vs.length = n * nc s := h3.1
  have hA' : ∀ k, blk A' = some k → k < w'.heap.size := fun k hk => (World.ownsRow.lt hown k (by rw [blk_own]; exact hk)).2
  refine ⟨by simp [h1, hE], hA', vs ++ es, fun j => if j < n then G j else H (j - n), hown, hc', ?_, fun j hj => ?_⟩
  · rw [flat_range]
    refine List.nodup_append.2 ⟨h5, hn, fun x hx y hy e => ?_⟩
    obtain ⟨i, hi', hx⟩ := List.mem_flatMap.1 hx
    obtain ⟨j, hj', hy⟩ := List.mem_flatMap.1 hy
    have q1 := (h6 i (List.mem_range.1 hi')).2 x hx
    have q2 := (hin j (List.mem_range.1 hj')).2 y hy
    omega
  · dsimp only
    by_cases ej : j < n
    · rw [if_pos ej, cells_left hvl ej, show (D ++ E).getD j (dft s) = D.getD j (dft s) by simp [List.getD, List.getElem?_append_left (show j < D.length by omega)]]
      obtain ⟨o1, o2⟩ := h6 j ej
      refine ⟨o1.keep fun q hq => hg.block q (o1.lt q hq) (fun e => (o2 q hq).2.2 e), fun q hq => ?_⟩
      have q3 := o2 q hq
      refine ⟨q3.1, Nat.lt_of_lt_of_le (o1.lt q hq) hg.size, ?_⟩
      rcases hat with e2 | e2
      · rw [e2]; exact q3.2.2
      · rw [e2]; intro e3; injection e3 with e3; have := o1.lt q hq; omega
    · obtain ⟨i, rfl⟩ : ∃ i, j = n + i := ⟨j - n, by omega⟩
      have hi' : i < m := by omega
      rw [if_neg ej, cells_right hvl, show n + i - n = i by omega, show (D ++ E).getD (n + i) (dft s) = E.getD i (dft s) by simp [List.getD, List.getElem?_append_right (show D.length ≤ n + i by omega), h1]]
      obtain ⟨o1, o2⟩ := hin i hi'
      have hne : ∀ q ∈ H i, some q ≠ blk A := fun q hq e => by
        have := h2 q e.symm
        have := o2 q hq
        omega
      refine ⟨o1.keep fun q hq => hg.block q (o1.lt q hq) (fun e => hne q hq e), fun q hq => ?_⟩
      have q3 := o2 q hq
      refine ⟨by omega, Nat.lt_of_lt_of_le (o1.lt q hq) hg.size, ?_⟩
      rcases hat with e2 | e2
      · rw [e2]; exact hne q hq
      · rw [e2]; intro e3; injection e3 with e3; have := o1.lt q hq; omega
end

theorem OwnL.single {w : World} {lo hi g : Nat} {e : TypeId} {s : Sh} {es : List Value} {y : Dat s} (hr : Row w g e es.toArray) (ho : Owned w lo hi s es y) (hg : hi ≤ g) (hlo : lo ≤ g) : OwnL w lo (g + 1) e s (some ⟨g, 0, none⟩) 1 1 [y] := by
  obtain ⟨F, hF, hFn, hFb⟩ := ho
  have hel := hF.len
  refine ⟨rfl, fun k hk => by injection hk with hk; have hk : g = k := hk; omega, es, fun _ => F, ⟨by rw [hel]; simp, .inr ⟨g, 1, es.toArray, rfl, hlo, hr, Nat.le_refl _, by unfold maxLen; omega, by simp [hel], by simp [← hel]⟩⟩, (fun e => by cases e), by simpa using hFn, fun j hj => ?_⟩
  obtain rfl : j = 0 := by omega
  refine ⟨?_, fun q hq => ?_⟩
  · have : cellsOf (nc s) es 0 = es := by unfold cellsOf; rw [Nat.zero_mul, List.drop_zero, List.take_of_length_le (by omega)]
    rw [this]; exact hF
  · have := hFb q hq
    refine ⟨this.1, by omega, fun e => ?_⟩
    injection e with e
    have e : q = g := e
    omega
theorem run_appL {w : World} (ty T e : TypeId) (s : Sh) (z : Value) (bytes : Nat) (hT : Try.prog.underlying T = some (.slice e))
    (hI : (Try.prog.info? e).map (fun i => (i.zero, i.size, i.bytes)) = some (some z, nc s, bytes)) (hzc : z.cells.size = nc s) (hby : bytes ≤ 4096)
    (lo hi mid hi2 : Nat) (A : Option Addr) (n c g m c2 : Nat) (D E : List (Dat s)) (hown : OwnL w lo hi e s A n c D) (hx : OwnL w mid hi2 e s (some ⟨g, 0, none⟩) m c2 E) (hmid : hi ≤ mid) (hlm : lo ≤ mid) (hn : n ≤ 1048576) (hm : m ≤ 1048576) (hlo : lo ≤ w.heap.size) :
    ∃ A' c' w', (Builtin.append_ #[T, T] ty #[.slice A n c, .slice (some ⟨g, 0, none⟩) m c2]).run Try.prog w = .ok (.slice A' (n + m) c') w' ∧ OwnL w' lo w'.heap.size e s A' (n + m) c' (D ++ E) ∧ w.grownBy w' (blk A) ∧ (blk A' = blk A ∨ blk A' = some w.heap.size) ∧ Below lo w w' ∧ (A ≠ none ∨ 0 < m → ∃ g', A' = some ⟨g', 0, none⟩) := by
  obtain ⟨i0, hi', hz0, hz1, hz2⟩ := info_parts hI
  obtain ⟨h1, h2, vs, G, hr, h4, h5, h6⟩ := hown
  obtain ⟨k1, k2, us, H, kr, k4, k5, k6⟩ := hx
  have hul : us.length = m * nc s := kr.1
  have hone : ∀ u ∈ us, u.oneCell' = true := fun u hu => by
    obtain ⟨i, hi2, rfl⟩ := List.getElem_of_mem hu
    have hnp := nc_pos s
    have hj : i / nc s < m := by rw [Nat.div_lt_iff_lt_mul hnp]; omega
    refine Ow.one (k6 (i / nc s) hj).1 _ ?_
    unfold cellsOf
    have hdm : i / nc s * nc s + i % nc s = i := by rw [Nat.mul_comm]; exact Nat.div_add_mod i (nc s)
    have hmod := Nat.mod_lt i hnp
    refine List.mem_of_getElem? (i := i % nc s) ?_
    rw [List.getElem?_take, if_pos hmod, List.getElem?_drop, hdm]
    exact List.getElem?_eq_getElem hi2
  have hcells : ∀ j u, us[j]? = some u → w.cell? ((⟨g, 0, none⟩ : Addr).add j) = some u := fun j u hj => by
    have e2 : (⟨g, 0, none⟩ : Addr).add j = ⟨g, j, none⟩ := by unfold Addr.add; split <;> simp_all
    rw [e2]
    rcases kr.2 with ⟨e1, _⟩ | ⟨g', cap, cur, e1, _, hrow, _, _, _, ht⟩
    · cases e1
    · injection e1 with a1 a2 a3
      injection a1 with a1
      injection a1 with a1
      subst a1
      rw [Row.cell (t := e) (cs := cur) hrow, ← Array.getElem?_toList]
      have hjl := (List.getElem?_eq_some_iff.1 hj).1
      rw [← ht, List.getElem?_take, if_pos (by omega)] at hj
      exact hj
  obtain ⟨v', w', hrun, hown', hg, hnn, hat⟩ := run_append_own_at (P := Try.prog) w lo T ty e i0 z (nc s) bytes hT hi' hz0 hz1 hz2 hzc (nc_pos s) (.slice A n c) n vs hr ⟨g, 0, none⟩ m c2 us hul hcells hone (by unfold maxLen; omega) (by have h1 : (n + m) * bytes ≤ 2097152 * 4096 := Nat.mul_le_mul (by omega) hby; omega) hlo
  rw [blk_own] at hg
  have hform : ∃ A' c', v' = .slice A' (n + m) c' ∧ (A' = none → c' = 0) ∧ (A ≠ none ∨ 0 < m → ∃ g', A' = some ⟨g', 0, none⟩) := by
    rcases hown'.2 with ⟨e1, h0⟩ | ⟨g', cap, cur, e1, _⟩
    · refine ⟨none, 0, by rw [e1, h0], fun _ => rfl, fun hh => ?_⟩
      have := (hnn.1 e1)
      rcases hh with hh | hh
      · exact absurd (by have := this.1; injection this) hh
      · omega
    · exact ⟨_, _, e1, (fun e => by cases e), fun _ => ⟨g', rfl⟩⟩
  obtain ⟨A', c', rfl, hc', hf⟩ := hform
  rw [blk_own, blk_own] at hat
  exact ⟨A', c', w', hrun, ownL_app (hi2 := hi2) (H := H) h1 h2 hr h5 h6 hmid hlm k1 k5 (fun j hj => ⟨(k6 j hj).1, fun q hq => ⟨((k6 j hj).2 q hq).1, ((k6 j hj).2 q hq).2.1⟩⟩) hown' hg hat hc', hg, hat, (Below.refl lo w).grown hg hlo (fun k hk => (World.ownsRow.lt hr k (by rw [blk_own]; exact hk)).1), hf⟩
theorem wp_appL {w : World} {o : Oper} {a : Act} {K : Act → World → Prop} {Q : Exit → Act → World → Prop} (sx x : Operand) (T e : TypeId) (s : Sh) (z : Value) (bytes : Nat) (hT : Try.prog.underlying T = some (.slice e))
    (hI : (Try.prog.info? e).map (fun i => (i.zero, i.size, i.bytes)) = some (some z, nc s, bytes)) (hzc : z.cells.size = nc s) (hby : bytes ≤ 4096)
    (ho : o.op = .call { callee := .builtin .append, args := #[sx, x], argTypes := #[T, T] })
    (lo hi mid hi2 : Nat) (A : Option Addr) (n c g m c2 : Nat) (D E : List (Dat s)) (hs : a.eval sx = .slice A n c) (hown : OwnL w lo hi e s A n c D) (hxv : a.eval x = .slice (some ⟨g, 0, none⟩) m c2) (hx : OwnL w mid hi2 e s (some ⟨g, 0, none⟩) m c2 E) (hmid : hi ≤ mid) (hlm : lo ≤ mid) (hn : n ≤ 1048576) (hm : m ≤ 1048576) (hlo : lo ≤ w.heap.size)
    (h : ∀ A' c' w', OwnL w' lo w'.heap.size e s A' (n + m) c' (D ++ E) → w.grownBy w' (blk A) → (blk A' = blk A ∨ blk A' = some w.heap.size) → Below lo w w' → (A ≠ none ∨ 0 < m → ∃ g', A' = some ⟨g', 0, none⟩) → K (a.put o.dst (.slice A' (n + m) c')) w') : o.wp Try.prog a w K Q := by
  obtain ⟨A', c', w', hr, h2, h3, h4, h5, h6⟩ := run_appL o.type T e s z bytes hT hI hzc hby lo hi mid hi2 A n c g m c2 D E hown hx hmid hlm hn hm hlo
  unfold Oper.wp execOp
  simp only [ho, resolve, invoke, builtin, Sem.run_bind, Sem.run_pure, Result.andThen_ok, List.map_toArray, List.map_cons, List.map_nil, hs, hxv, hr]
  exact h A' c' w' h2 h3 h4 h5 h6
theorem appLm {w : World} {ops : Array Oper} {rest : List Oper} {o : Oper} {a : Act} {Q : Exit → Act → World → Prop} (hgd : o.guard = none) (sx x : Operand) (T e : TypeId) (s : Sh) (z : Value) (bytes : Nat) (hT : Try.prog.underlying T = some (.slice e))
    (hI : (Try.prog.info? e).map (fun i => (i.zero, i.size, i.bytes)) = some (some z, nc s, bytes)) (hzc : z.cells.size = nc s) (hby : bytes ≤ 4096)
    (ho : o.op = .call { callee := .builtin .append, args := #[sx, x], argTypes := #[T, T] })
    (lo hi mid hi2 : Nat) (A : Option Addr) (n c g m c2 : Nat) (D E : List (Dat s)) (hs : a.eval sx = .slice A n c) (hown : OwnL w lo hi e s A n c D) (hxv : a.eval x = .slice (some ⟨g, 0, none⟩) m c2) (hx : OwnL w mid hi2 e s (some ⟨g, 0, none⟩) m c2 E) (hmid : hi ≤ mid) (hlm : lo ≤ mid) (hn : n ≤ 1048576) (hm : m ≤ 1048576) (hlo : lo ≤ w.heap.size)
    (h : ∀ A' c' w', OwnL w' lo w'.heap.size e s A' (n + m) c' (D ++ E) → w.grownBy w' (blk A) → (blk A' = blk A ∨ blk A' = some w.heap.size) → Below lo w w' → (A ≠ none ∨ 0 < m → ∃ g', A' = some ⟨g', 0, none⟩) → wpList Try.prog ops Q rest (a.put o.dst (.slice A' (n + m) c')) w') : wpList Try.prog ops Q (o :: rest) a w :=
  wpList_plain hgd fun _ hK => wp_appL sx x T e s z bytes hT hI hzc hby ho lo hi mid hi2 A n c g m c2 D E hs hown hxv hx hmid hlm hn hm hlo fun A' c' w' h1 h2 h3 h4 h5 => hK _ _ (h A' c' w' h1 h2 h3 h4 h5)
end Go.Proofs.Ytpcnjcgglonifaa.ownL
end

section
namespace Go.Proofs.Ytpcnjcgglonifaa.kindsW
open Go.RowKit base ints sig cursor marks app sym appAt segs segsHelp segsMark kinds shape
set_option maxRecDepth 100000

abbrev sStep : Sh := .cat .num (.cat .num sI)
theorem parts_Step {w : World} {B : Nat} {v0 : Value} {d : Dat sStep} (h : Rd w B sStep [.int .i64 d.1, .int .i64 d.2.1, v0] d) : Rd w B .num [.int .i64 d.1] d.1 ∧ Rd w B .num [.int .i64 d.2.1] d.2.1 ∧ Rd w B sI [v0] d.2.2 := by
  obtain ⟨p0, q0⟩ := Rd.split (ca := [.int .i64 d.1]) (cb := [.int .i64 d.2.1, v0]) h rfl
  obtain ⟨p1, q1⟩ := Rd.split (ca := [.int .i64 d.2.1]) (cb := [v0]) q0 rfl
  exact ⟨p0, p1, q1⟩
theorem cells_Step {w : World} {B : Nat} {es : List Value} {d : Dat sStep} (h : Rd w B sStep es d) : ∃ (v0 : Value), es = [.int .i64 d.1, .int .i64 d.2.1, v0] := by
  obtain ⟨ca0, cb0, e0, p0, q0⟩ := h
  obtain ⟨ca1, cb1, e1, p1, q1⟩ := q0
  obtain ⟨A2, n2, c2, z2, -⟩ := q1
  exact ⟨.slice A2 n2 c2, by rw [e0, (show _ = _ from p0), e1, (show _ = _ from p1), z2] <;> rfl⟩

abbrev sStepS : Sh := .row 78 sStep
theorem info_StepS : (Try.prog.info? 78).map (fun i => (i.zero, i.size, i.bytes)) = some (some (.agg #[.int .i64 0, .int .i64 0, .slice none 0 0]), 3, 40) := by kernel_rfl
abbrev sWalk : Sh := .cat sI sStepS
end Go.Proofs.Ytpcnjcgglonifaa.kindsW
end

section
namespace Go.Proofs.Ytpcnjcgglonifaa.varsMath
open term termOk

theorem take_snoc {t : List Int} {k : Nat} (hk : k < t.length) {x : Int} (hx : t.getD k 0 = x) : t.take (k + 1) = t.take k ++ [x] := by
  rw [List.take_succ_eq_append_getElem hk, ← hx]
  simp [List.getD, hk]
end Go.Proofs.Ytpcnjcgglonifaa.varsMath
end

section
namespace Go.Proofs.Ytpcnjcgglonifaa.term

theorem scan_split {sg : List Int} : ∀ {l : List Int} {p q j : Nat}, scan sg (p + q) l = some j → ∃ i, i ≤ j ∧ scan sg p l = some i ∧ scan sg q (l.drop i) = some (j - i) := by
  intro l
  induction l with
  | nil =>
    intro p q j h
    cases p with
    | zero => exact ⟨0, Nat.zero_le _, rfl, by simpa using h⟩
    | succ p => rw [show p + 1 + q = (p + q) + 1 by omega, scan_nil] at h; cases h
  | cons x r ih =>
    intro p q j h
    cases p with
    | zero => exact ⟨0, Nat.zero_le _, rfl, by simpa using h⟩
    | succ p =>
      rw [show p + 1 + q = (p + q) + 1 by omega] at h
      by_cases ha : ar sg x < 0
      · rw [scan_bad ha] at h; cases h
      · rw [scan_step ha] at h
        obtain ⟨j', hj', rfl⟩ := Option.map_eq_some_iff.1 h
        rw [show p + q + (ar sg x).toNat = (p + (ar sg x).toNat) + q by omega] at hj'
        obtain ⟨i, h1, h2, h3⟩ := ih hj'
        refine ⟨i + 1, by omega, by rw [scan_step ha, h2]; rfl, ?_⟩
        rw [List.drop_succ_cons, h3]
        congr 1
        omega

theorem scan_tail {sg : List Int} : ∀ {l : List Int} {q j a : Nat}, scan sg q l = some j → a < j → ∃ q', scan sg (q' + 1) (l.drop a) = some (j - a) := by
  intro l
  induction l with
  | nil =>
    intro q j a h ha
    cases q with
    | zero => rw [scan_zero] at h; injection h; omega
    | succ q => rw [scan_nil] at h; cases h
  | cons x r ih =>
    intro q j a h ha
    cases q with
    | zero => rw [scan_zero] at h; injection h; omega
    | succ q =>
      cases a with
      | zero => exact ⟨q, h⟩
      | succ a =>
        by_cases hx : ar sg x < 0
        · rw [scan_bad hx] at h; cases h
        · rw [scan_step hx] at h
          obtain ⟨j', hj', rfl⟩ := Option.map_eq_some_iff.1 h
          obtain ⟨q', h'⟩ := ih (a := a) hj' (by omega)
          exact ⟨q', by rw [List.drop_succ_cons, h']; congr 1; omega⟩

theorem scan_pos {sg : List Int} {l : List Int} {q j : Nat} (h : scan sg (q + 1) l = some j) : 1 ≤ j := by
  cases l with
  | nil => rw [scan_nil] at h; cases h
  | cons x r =>
    by_cases hx : ar sg x < 0
    · rw [scan_bad hx] at h; cases h
    · rw [scan_step hx] at h
      obtain ⟨j', _, rfl⟩ := Option.map_eq_some_iff.1 h
      omega

theorem scan_le {sg : List Int} : ∀ {l : List Int} {q j : Nat}, scan sg q l = some j → j ≤ l.length := by
  intro l
  induction l with
  | nil =>
    intro q j h
    cases q with
    | zero => rw [scan_zero] at h; injection h; omega
    | succ q => rw [scan_nil] at h; cases h
  | cons x r ih =>
    intro q j h
    cases q with
    | zero => rw [scan_zero] at h; injection h; omega
    | succ q =>
      by_cases hx : ar sg x < 0
      · rw [scan_bad hx] at h; cases h
      · rw [scan_step hx] at h
        obtain ⟨j', hj', rfl⟩ := Option.map_eq_some_iff.1 h
        have := ih hj'
        simp
        omega

theorem scan_at {sg t : List Int} (h : scan sg 1 t = some t.length) {a : Nat} (ha : a < t.length) : ∃ j, scan sg 1 (t.drop a) = some j ∧ 1 ≤ j ∧ a + j ≤ t.length := by
  obtain ⟨q', h'⟩ := scan_tail h ha
  rw [Nat.add_comm] at h'
  obtain ⟨i, h1, h2, _⟩ := scan_split h'
  have h3 := scan_pos (q := 0) h2
  exact ⟨i, h2, h3, by omega⟩

theorem scan_args {sg t : List Int} {a j : Nat} (h : scan sg 1 (t.drop a) = some j) : ∃ i, j = i + 1 ∧ a < t.length ∧ ¬ ar sg (t.getD a 0) < 0 ∧ scan sg (ar sg (t.getD a 0)).toNat (t.drop (a + 1)) = some i := by
  by_cases ha : a < t.length
  · rw [drop_cons ha] at h
    by_cases hx : ar sg (t.getD a 0) < 0
    · rw [scan_bad hx] at h; cases h
    · rw [scan_step hx, Nat.zero_add] at h
      obtain ⟨i, hi, rfl⟩ := Option.map_eq_some_iff.1 h
      exact ⟨i, rfl, ha, hx, hi⟩
  · rw [List.drop_eq_nil_of_le (by omega), scan_nil] at h; cases h

theorem scan_first {sg t : List Int} {q a i : Nat} (h : scan sg (q + 1) (t.drop a) = some i) : ∃ j, scan sg 1 (t.drop a) = some j ∧ 1 ≤ j ∧ j ≤ i ∧ scan sg q (t.drop (a + j)) = some (i - j) := by
  rw [Nat.add_comm] at h
  obtain ⟨j, h1, h2, h3⟩ := scan_split h
  rw [List.drop_drop] at h3
  exact ⟨j, h2, scan_pos (q := 0) h2, h1, h3⟩

def len1 (sg t : List Int) (a : Nat) : Nat := (scan sg 1 (t.drop a)).getD 0
theorem len1_eq {sg t : List Int} {a j : Nat} (h : scan sg 1 (t.drop a) = some j) : len1 sg t a = j := by unfold len1; rw [h]; rfl

def places (sg t : List Int) : Nat → Nat → List Int
  | 0, _ => []
  | k + 1, p => (p : Int) :: places sg t k (p + len1 sg t p)

def maxOver (sg t : List Int) (g : Nat → Int) : Nat → Nat → Int
  | 0, _ => 0
  | k + 1, p => max (g p) (maxOver sg t g k (p + len1 sg t p))

def dep (sg t : List Int) : Nat → Nat → Int
  | 0, _ => 0
  | f + 1, a => maxOver sg t (dep sg t f) (ar sg (t.getD a 0)).toNat (a + 1) + 1

theorem maxOver_bd {sg t : List Int} {g : Nat → Int} {B : Int} (hB : 0 ≤ B) (hg : ∀ p, 0 ≤ g p ∧ g p ≤ B) : ∀ k p, 0 ≤ maxOver sg t g k p ∧ maxOver sg t g k p ≤ B
  | 0, _ => by simp [maxOver, hB]
  | k + 1, p => by
    have h1 := hg p
    have h2 := maxOver_bd (sg := sg) (t := t) hB hg k (p + len1 sg t p)
    simp only [maxOver]
    omega
theorem dep_bd {sg t : List Int} : ∀ f a, 0 ≤ dep sg t f a ∧ dep sg t f a ≤ f
  | 0, _ => by simp [dep]
  | f + 1, a => by
    have := maxOver_bd (sg := sg) (t := t) (g := dep sg t f) (B := f) (by omega) (fun p => dep_bd (sg := sg) (t := t) f p) (ar sg (t.getD a 0)).toNat (a + 1)
    simp only [dep]
    omega
end Go.Proofs.Ytpcnjcgglonifaa.term
end

section
namespace Go.Proofs.Ytpcnjcgglonifaa.termFacts
open sig term termOk

theorem term_parts {sg t : List Int} (h : termOkB sg t = true) : sigOkB sg = true ∧ t.length ≤ 60 ∧ scan sg 1 t = some t.length := by
  unfold termOkB termB at h
  simp only [Bool.and_eq_true, decide_eq_true_eq] at h
  exact h
theorem term_mk {sg t : List Int} (h1 : sigOkB sg = true) (h2 : t.length ≤ 60) (h3 : scan sg 1 t = some t.length) : termOkB sg t = true := by
  unfold termOkB termB
  simp [h1, h2, h3]
theorem term_len {sg t : List Int} (h : termOkB sg t = true) : 1 ≤ t.length ∧ t.length ≤ 60 := ⟨scan_pos (q := 0) (term_parts h).2.2, (term_parts h).2.1⟩
theorem term_ar {sg t : List Int} (h : termOkB sg t = true) {j : Nat} (hj : j < t.length) : ¬ ar sg (t.getD j 0) < 0 := by
  obtain ⟨i, h1, _, _⟩ := scan_at (term_parts h).2.2 hj
  obtain ⟨_, _, _, h2, _⟩ := scan_args h1
  exact h2
theorem term_num {sg t : List Int} (h : termOkB sg t = true) {j : Nat} (hj : j < t.length) : -24 ≤ t.getD j 0 ∧ t.getD j 0 < 8 := by
  have h1 := term_ar h hj
  have h2 := (sig_arities (term_parts h).1).2
  unfold ar at h1
  split at h1
  · omega
  · split at h1
    · omega
    · omega
theorem term_mem {sg t : List Int} (h : termOkB sg t = true) {x : Int} (hx : x ∈ t) : -24 ≤ x ∧ x < 8 := by
  obtain ⟨j, hj, rfl⟩ := List.getElem_of_mem hx
  have := term_num h hj
  simpa [List.getD, hj] using this
end Go.Proofs.Ytpcnjcgglonifaa.termFacts
end

section
namespace Go.Proofs.Ytpcnjcgglonifaa.sub
open Go.RowKit base ints marks app sym

theorem Seg.cut {w : World} {B b off m a j : Nat} {t : List Int} (h : Seg w B (some ⟨b, off, none⟩) m t) (hj : a + j ≤ m) : Seg w B (some ⟨b, off + a, none⟩) j ((t.drop a).take j) := by
  refine ⟨by have := h.1; simp; omega, fun hn => ?_⟩
  obtain ⟨b', off', e, hb, hc⟩ := h.2 (by omega)
  injection e with e
  injection e with e1 e2
  subst e1 e2
  refine ⟨_, _, rfl, hb, fun q hq => ?_⟩
  rw [Nat.add_assoc, hc (a + q) (by omega)]
  simp [List.getD, List.getElem?_take, hq]

set_option maxHeartbeats 400000 in
theorem copyInts (S : Option Addr) (m c : Nat) (ys : List Int) (w : World) (h : Seg w w.heap.size S m ys) (hnone : S = none → c = 0) (hm : m ≤ 1048576) :
    Calls Try.prog 58 #[.slice S m c] w (AnsList w ys) := by
  have ho := own_empty w w.heap.size (Nat.le_refl _)
  have bb : Below w.heap.size w (w.alloc (.cells #[] 2)) := (Below.refl _ _).alloc (Nat.le_refl _) _
  have hs := h.alloc (Nat.le_refl _) (.cells #[] 2)
  have HN := Lib.hid hnone
  clear hnone h
  go_enter Try.func58, Try.ntmps58
  go_wp2_with (at_builtin; refine appAll rfl _ _ rfl w.heap.size (some ⟨w.heap.size, 0, none⟩) 0 0 [] rfl ho S m c w.heap.size ys rfl hs HN.out (by omega) (by omega) (by simp) ?_; intro A' c' w' ho' b')
  simp only [Nat.zero_add, List.nil_append] at ho'
  have F : AnsList w ys (.returned (.slice A' m c')) w' := ⟨A', m, c', rfl, ho', bb.trans b'⟩
  have HF := Lib.hid F
  clear F ho' b' bb hs ho
  go_wp2
  go_ret
  exact HF.out

end Go.Proofs.Ytpcnjcgglonifaa.sub
end

section
namespace Go.Proofs.Ytpcnjcgglonifaa.varsOf
open Go.RowKit base ints sig term termOk marks app sym sub segs varsMath termFacts
set_option maxRecDepth 100000

theorem Seg.pre {w : World} {B n k : Nat} {A : Option Addr} {xs : List Int} (h : Seg w B A n xs) (hk : k ≤ n) : Seg w B A k (xs.take k) := by
  refine ⟨by have := h.1; simp; omega, fun h0 => ?_⟩
  obtain ⟨b, off, e, hb, hc⟩ := h.2 (by omega)
  refine ⟨b, off, e, hb, fun j hj => ?_⟩
  rw [hc j (by omega)]
  simp [List.getD, List.getElem?_take, hj]
end Go.Proofs.Ytpcnjcgglonifaa.varsOf
end

section
namespace Go.Proofs.Ytpcnjcgglonifaa.varsOf
open Go.RowKit base

def AnsB (w : World) (b : Bool) (e : Ending) (w' : World) : Prop := e = .returned (.bool b) ∧ Below w.heap.size w w'
theorem ansB {w w' : World} {a b : Bool} (h : a = b) (hb : Below w.heap.size w w') : AnsB w b (.returned (.bool a)) w' := ⟨by rw [h], hb⟩
end Go.Proofs.Ytpcnjcgglonifaa.varsOf
end

section
namespace Go.Proofs.Ytpcnjcgglonifaa.varsOf
open Go.RowKit base ints sig term termOk marks app sym sub segs varsMath termFacts
set_option maxRecDepth 100000

end Go.Proofs.Ytpcnjcgglonifaa.varsOf
end

section
namespace Go.Proofs.Ytpcnjcgglonifaa.count
open Go.RowKit base ints sig term termOk

def cnt (t : List Int) (x : Int) (k : Nat) : Nat := (t.take k).count x
end Go.Proofs.Ytpcnjcgglonifaa.count
end

section
namespace Go.Proofs.Ytpcnjcgglonifaa.linear
open Go.RowKit base ints sig term termOk marks sym count varsMath termFacts varsOf
set_option maxRecDepth 100000

def many (t : List Int) (x : Int) : Nat := cnt t x t.length
end Go.Proofs.Ytpcnjcgglonifaa.linear
end

section
namespace Go.Proofs.Ytpcnjcgglonifaa.fillMath
open sig term termOk termFacts varsMath

def vt (i : Nat) : List Int := [-1 - (i : Int)]
def rep (L : Nat → List Int) (n : Int) : List Int := if 0 ≤ n then [n] else L (-1 - n).toNat
def fillL (L : Nat → List Int) (t : List Int) : List Int := t.flatMap (rep L)
theorem rep_sym {L : Nat → List Int} {n : Int} (h : 0 ≤ n) : rep L n = [n] := by unfold rep; rw [if_pos h]
theorem rep_var {L : Nat → List Int} {n : Int} (h : n < 0) : rep L n = L (-1 - n).toNat := by unfold rep; rw [if_neg (by omega)]
theorem fill_nil (L : Nat → List Int) : fillL L [] = [] := rfl
theorem fill_cons (L : Nat → List Int) (x : Int) (r : List Int) : fillL L (x :: r) = rep L x ++ fillL L r := by simp [fillL]
theorem fill_append (L : Nat → List Int) (a b : List Int) : fillL L (a ++ b) = fillL L a ++ fillL L b := by simp [fillL]
theorem fill_take {L : Nat → List Int} {t : List Int} {k : Nat} {x : Int} (hk : k < t.length) (hx : t.getD k 0 = x) : fillL L (t.take (k + 1)) = fillL L (t.take k) ++ rep L x := by
  rw [take_snoc hk hx, fill_append, fill_cons, fill_nil, List.append_nil]
theorem rep_len {L : Nat → List Int} {M : Nat} (h1 : 1 ≤ M) (hM : ∀ i, (L i).length ≤ M) (n : Int) : (rep L n).length ≤ M := by
  unfold rep
  split
  · simpa using h1
  · exact hM _
theorem fill_len {L : Nat → List Int} {M : Nat} (h1 : 1 ≤ M) (hM : ∀ i, (L i).length ≤ M) : ∀ t : List Int, (fillL L t).length ≤ t.length * M
  | [] => by simp [fill_nil]
  | x :: r => by
    have h2 := rep_len h1 hM x
    have h3 := fill_len h1 hM r
    rw [fill_cons, List.length_append, List.length_cons, Nat.add_mul]
    omega
theorem fill_ext {L L' : Nat → List Int} : ∀ {t : List Int}, (∀ x ∈ t, x < 0 → L (-1 - x).toNat = L' (-1 - x).toNat) → fillL L t = fillL L' t
  | [], _ => rfl
  | x :: r, h => by
    rw [fill_cons, fill_cons, fill_ext (fun y hy => h y (List.mem_cons_of_mem _ hy))]
    congr 1
    unfold rep
    split
    · rfl
    · exact h x (List.mem_cons_self ..) (by omega)
theorem scan_join {sg : List Int} : ∀ {l l' : List Int} {q q' j : Nat}, scan sg q l = some l.length → scan sg q' l' = some j → scan sg (q + q') (l ++ l') = some (l.length + j)
  | [], l', q, q', j, h, h' => by
    cases q with
    | zero => simpa using h'
    | succ q => rw [scan_nil] at h; cases h
  | x :: r, l', q, q', j, h, h' => by
    cases q with
    | zero => rw [scan_zero] at h; simp at h
    | succ q =>
      by_cases ha : ar sg x < 0
      · rw [scan_bad ha] at h; cases h
      · rw [scan_step ha] at h
        obtain ⟨i, hi, e⟩ := Option.map_eq_some_iff.1 h
        have e2 : i = r.length := by simp at e; omega
        subst e2
        have h2 := scan_join hi h'
        rw [show q + 1 + q' = (q + q') + 1 by omega, List.cons_append, scan_step ha, show q + q' + (ar sg x).toNat = q + (ar sg x).toNat + q' by omega, h2]
        simp
        omega
theorem scan_fill {sg : List Int} {L : Nat → List Int} : ∀ {t : List Int} {q : Nat}, scan sg q t = some t.length → (∀ x ∈ t, x < 0 → scan sg 1 (L (-1 - x).toNat) = some (L (-1 - x).toNat).length) → scan sg q (fillL L t) = some (fillL L t).length
  | [], q, h, _ => h
  | x :: r, q, h, hL => by
    cases q with
    | zero => rw [scan_zero] at h; simp at h
    | succ q =>
      by_cases ha : ar sg x < 0
      · rw [scan_bad ha] at h; cases h
      · rw [scan_step ha] at h
        obtain ⟨i, hi, e⟩ := Option.map_eq_some_iff.1 h
        have e2 : i = r.length := by simp at e; omega
        subst e2
        have h2 := scan_fill hi (fun y hy => hL y (List.mem_cons_of_mem _ hy))
        rw [fill_cons]
        by_cases hx : 0 ≤ x
        · rw [rep_sym hx, List.singleton_append, scan_step ha, h2]
          simp
        · have h3 := hL x (List.mem_cons_self ..) (by omega)
          have h0 : ar sg x = 0 := by
            unfold ar at ha ⊢
            split
            · rfl
            · rename_i h4
              rw [if_neg h4] at ha
              split at ha
              · omega
              · omega
          rw [h0] at h2
          rw [rep_var (by omega), Nat.add_comm q 1]
          have h4 := scan_join h3 (by simpa using h2)
          rw [h4, List.length_append]
def sh (k x : Int) : Int := if x < 0 then x - k else x
end Go.Proofs.Ytpcnjcgglonifaa.fillMath
end

section
namespace Go.Proofs.Ytpcnjcgglonifaa.renMath
open sig term termOk termFacts varsMath fillMath

def idx : List Int → Int → Nat
  | [], _ => 0
  | y :: r, x => if y = x then 0 else idx r x + 1
theorem idx_first : ∀ {o : List Int} {x : Int} {k : Nat}, k < o.length → (∀ j, j < k → o.getD j 0 ≠ x) → o.getD k 0 = x → idx o x = k
  | y :: r, x, 0, _, _, h => by
    have h : y = x := by simpa using h
    rw [idx, if_pos h]
  | y :: r, x, k + 1, hk, hl, h => by
    have h0 : ¬ y = x := by simpa using hl 0 (by omega)
    rw [idx, if_neg h0, idx_first (k := k) (by simpa using hk) (fun j hj => by simpa using hl (j + 1) (by omega)) (by simpa using h)]
end Go.Proofs.Ytpcnjcgglonifaa.renMath
end

section
namespace Go.Proofs.Ytpcnjcgglonifaa.ruleMath
open sig term termOk termFacts varsMath count linear renMath

abbrev Rl := List Int × List Int
def hd (t : List Int) : Int := t.getD 0 0
def newB (l : List Int) (x : Int) : Bool := decide (x < 0 ∧ x ∉ l)
def ruleOkB (sg : List Int) (r : Rl) : Bool := termOkB sg r.1 && (termOkB sg r.2 && (!decide (hd r.1 < 0) && !r.2.any (newB r.1)))
def sysOkB (sg : List Int) (rs : List Rl) : Bool := sigOkB sg && (decide (rs.length ≤ 12) && rs.all (ruleOkB sg))

theorem rule_parts {sg : List Int} {r : Rl} (h : ruleOkB sg r = true) : termOkB sg r.1 = true ∧ termOkB sg r.2 = true ∧ 0 ≤ hd r.1 ∧ ∀ x, x ∈ r.2 → x < 0 → x ∈ r.1 := by
  unfold ruleOkB at h
  simp only [Bool.and_eq_true, Bool.not_eq_true', decide_eq_false_iff_not] at h
  refine ⟨h.1, h.2.1, by omega, fun x hx h0 => ?_⟩
  have h1 := h.2.2.2
  rw [List.any_eq_false] at h1
  have h2 := h1 x hx
  unfold newB at h2
  simp only [decide_eq_true_eq] at h2
  exact Classical.byContradiction fun hn => h2 ⟨h0, hn⟩
theorem sys_parts {sg : List Int} {rs : List Rl} (h : sysOkB sg rs = true) : sigOkB sg = true ∧ rs.length ≤ 12 ∧ ∀ r ∈ rs, ruleOkB sg r = true := by
  unfold sysOkB at h
  simp only [Bool.and_eq_true, decide_eq_true_eq, List.all_eq_true] at h
  exact ⟨h.1, h.2.1, h.2.2⟩
theorem sys_mk {sg : List Int} {rs : List Rl} (h1 : sigOkB sg = true) (h2 : rs.length ≤ 12) (h3 : ∀ r ∈ rs, ruleOkB sg r = true) : sysOkB sg rs = true := by
  unfold sysOkB
  simp only [Bool.and_eq_true, decide_eq_true_eq, List.all_eq_true]
  exact ⟨h1, h2, h3⟩
theorem sys_sig {sg : List Int} {rs : List Rl} (h : sigOkB sg = false) : sysOkB sg rs = false := by unfold sysOkB; rw [h]; rfl
theorem sys_long {sg : List Int} {rs : List Rl} {n : Nat} (hl : rs.length = n) (h : ¬ n ≤ 12) : sysOkB sg rs = false := by
  unfold sysOkB; rw [hl, decide_eq_false h]; simp
theorem rl_mem {rs : List Rl} {k : Nat} (hk : k < rs.length) : rs.getD k ([], []) ∈ rs := by
  have : rs.getD k ([], []) = rs[k] := by simp [List.getD, hk]
  rw [this]; exact List.getElem_mem hk
theorem sys_bad {sg : List Int} {rs : List Rl} {k : Nat} (hk : k < rs.length) (h : ruleOkB sg (rs.getD k ([], [])) = false) : sysOkB sg rs = false := by
  cases hs : sysOkB sg rs with
  | false => rfl
  | true => have := (sys_parts hs).2.2 _ (rl_mem hk); rw [h] at this; cases this
theorem all_rounds {rs : List Rl} {P : Rl → Prop} (h : ∀ j, j < rs.length → P (rs.getD j ([], []))) : ∀ r ∈ rs, P r := by
  intro r hr
  obtain ⟨i, hi, rfl⟩ := List.getElem_of_mem hr
  have := h i hi
  simpa [List.getD, hi] using this
theorem sys_good {sg : List Int} {rs : List Rl} (h1 : sigOkB sg = true) (h2 : rs.length ≤ 12) (h3 : ∀ j, j < rs.length → ruleOkB sg (rs.getD j ([], [])) = true) : sysOkB sg rs = true :=
  sys_mk h1 h2 (all_rounds h3)

theorem lists_eq {rs rs' : List Rl} (hl : rs.length = rs'.length) (h : ∀ j, j < rs.length → rs.getD j ([], []) = rs'.getD j ([], [])) : rs = rs' :=
  List.ext_getElem hl fun j h1 h2 => by
    have := h j h1
    simpa [List.getD, h1, h2] using this

end Go.Proofs.Ytpcnjcgglonifaa.ruleMath
end

section
namespace Go.Proofs.Ytpcnjcgglonifaa.endAt
open Go.RowKit base ints sig term arity endOf cursor termOk

def inB (t : List Int) (x : Int) : Bool := decide (0 ≤ x ∧ x < t.length)
def thereB (sg t : List Int) (x : Int) : Bool := termOkB sg t && inB t x
def endOfI (sg t : List Int) (x : Int) : Int := if thereB sg t x = true then endI sg t x.toNat else -1

theorem termOk_parts {sg t : List Int} (h : termOkB sg t = true) : sigOkB sg = true ∧ t.length ≤ 60 ∧ scan sg 1 t = some t.length := by
  unfold termOkB termB at h
  simp only [Bool.and_eq_true, decide_eq_true_eq] at h
  exact h
theorem there_parts {sg t : List Int} {x : Int} (h : thereB sg t x = true) : termOkB sg t = true ∧ 0 ≤ x ∧ x < t.length := by
  unfold thereB inB at h
  simp only [Bool.and_eq_true, decide_eq_true_eq] at h
  exact h
theorem there_no {sg t : List Int} {x : Int} (h : termOkB sg t = false ∨ x < 0 ∨ (t.length : Int) ≤ x) : thereB sg t x = false := by
  unfold thereB inB
  rcases h with h | h | h
  · rw [h, Bool.false_and]
  · rw [decide_eq_false (by omega), Bool.and_false]
  · rw [decide_eq_false (by omega), Bool.and_false]
theorem there_yes {sg t : List Int} {x : Int} (h : termOkB sg t = true) (h0 : 0 ≤ x) (h1 : x < t.length) : thereB sg t x = true := by
  unfold thereB inB
  rw [h, decide_eq_true ⟨h0, h1⟩]
  rfl

def AnsEndOf (w : World) (sg t : List Int) (x : Int) (e : Ending) (w' : World) : Prop := e = .returned (.int .i64 (endOfI sg t x)) ∧ Below w.heap.size w w'
theorem endOf_no {w w' : World} {sg t : List Int} {x : Int} (h : thereB sg t x = false) (hb : Below w.heap.size w w') : AnsEndOf w sg t x (.returned (.int .i64 (-1))) w' :=
  ⟨by unfold endOfI; rw [if_neg (by rw [h]; simp)], hb⟩
theorem endOf_yes {w w' : World} {sg t : List Int} {x : Int} (h : thereB sg t x = true) (hb : Below w.heap.size w w') : AnsEndOf w sg t x (.returned (.int .i64 (endI sg t x.toNat))) w' :=
  ⟨by unfold endOfI; rw [if_pos h], hb⟩

def AnsAt (w : World) (A : Option Addr) (n c : Nat) (A' : Option Addr) (m c' : Nat) (sg t : List Int) (x : Int) (e : Ending) (w' : World) : Prop :=
  Below w.heap.size w w' ∧ ((thereB sg t x = true ∧ ∃ p, e = .returned (.pointer (some ⟨p, 0, none⟩)) ∧ w.heap.size ≤ p ∧ Cur w' p A n c A' m c' sg t x.toNat) ∨ (thereB sg t x = false ∧ e = .returned (.pointer none)))
theorem at_no {w w' : World} {A A' : Option Addr} {n c m c' : Nat} {sg t : List Int} {x : Int} (h : thereB sg t x = false) (hb : Below w.heap.size w w') : AnsAt w A n c A' m c' sg t x (.returned (.pointer none)) w' := ⟨hb, .inr ⟨h, rfl⟩⟩

set_option maxHeartbeats 1000000 in
theorem cursorAt (A A' : Option Addr) (n c m c' : Nat) (sg t : List Int) (x : Int) (w : World) (h : Seg w w.heap.size A n sg) (h' : Seg w w.heap.size A' m t) (hn : n ≤ 1048576) (hm : m ≤ 1048576) :
    Calls Try.prog 123 #[.agg #[.slice A n c], .slice A' m c', .int .i64 x] w (AnsAt w A n c A' m c' sg t x) := by
  obtain ⟨W, hW⟩ : ∃ W, W = w.alloc (.cells #[.slice A n c] 32) := ⟨_, rfl⟩
  have rA : Row W w.heap.size 32 #[.slice A n c] := by rw [hW]; exact Row.new _ _ _
  have bel : Below w.heap.size w W := by rw [hW]; exact (Below.refl _ _).alloc (Nat.le_refl _) _
  replace h := (h.below bel).more bel.size
  replace h' := (h'.below bel).more bel.size
  have HW := Lib.hid hW
  have HL := Lib.hid h'.1
  clear hW
  have L := Lib.hid (implTermOk A A' n c m c' sg t W h h' hn hm)
  cases hok : termOkB sg t with
  | false =>
    have HS := Lib.hid hok
    clear hok h h'
    go_enter Try.func123, Try.ntmps123
    go_wp2_with fail
    rw [← HW.out]
    refine L.out.mono ?_
    rintro e w1 ⟨he, bb⟩
    rw [HS.out] at he
    subst he
    have F := Lib.hid (fun A n c A' m c' => at_no (A := A) (n := n) (c := c) (A' := A') (m := m) (c' := c') (x := x) (there_no (.inl HS.out)) (next_trans bel bb))
    clear bb bel rA
    go_wp2
    go_ret
    exact F.out _ _ _ _ _ _
  | true =>
    have HS := Lib.hid hok
    clear hok
    by_cases hin : 0 ≤ x ∧ x < (m : Int)
    · have hars := (sig_arities (termOk_parts HS.out).1).1
      have HT := Lib.hid (there_yes HS.out hin.1 (by rw [HL.out]; exact hin.2))
      obtain ⟨k, rfl⟩ := Int.eq_ofNat_of_zero_le hin.1
      obtain ⟨i0, i1⟩ := hin
      go_enter Try.func123, Try.ntmps123
      go_wp2_with fail
      rw [← HW.out]
      refine L.out.mono ?_
      rintro e w1 ⟨he, bb⟩
      rw [HS.out] at he
      subst he
      replace h := h.next bb
      replace h' := h'.next bb
      replace rA := rA.next bb
      replace bel := next_trans bel bb
      have cA : w1.cell? ⟨w.heap.size, 0, none⟩ = some (.slice A n c) := rA.cell 0
      have CN := cur_new (c := c) (c' := c') h h' hn hm hars k (by omega)
      have F : AnsAt w A n c A' m c' sg t (k : Int) (.returned (.pointer (some ⟨w1.heap.size, 0, none⟩))) (w1.alloc (.cells #[.slice A n c, .slice A' m c', .int .i64 k] 125)) :=
        ⟨bel.alloc (Nat.le_of_lt rA.lt) _, .inl ⟨HT.out, _, rfl, Nat.le_of_lt rA.lt, by rw [Int.toNat_natCast]; exact CN⟩⟩
      have HF := Lib.hid F
      clear F CN bb bel rA h h' hars HT
      go_wp2
      go_ret
      exact HF.out
    · have HT := Lib.hid (there_no (sg := sg) (t := t) (x := x) (by rw [HL.out]; omega))
      by_cases hx0 : x < 0
      · clear hin
        go_enter Try.func123, Try.ntmps123
        go_wp2_with fail
        rw [← HW.out]
        refine L.out.mono ?_
        rintro e w1 ⟨he, bb⟩
        rw [HS.out] at he
        subst he
        have F := Lib.hid (fun A n c A' m c' => at_no (A := A) (n := n) (c := c) (A' := A') (m := m) (c' := c') HT.out (next_trans bel bb))
        clear bb bel rA h h'
        go_wp2
        go_ret
        exact F.out _ _ _ _ _ _
      · have hx1 : (m : Int) ≤ x := by omega
        clear hin
        go_enter Try.func123, Try.ntmps123
        go_wp2_with fail
        rw [← HW.out]
        refine L.out.mono ?_
        rintro e w1 ⟨he, bb⟩
        rw [HS.out] at he
        subst he
        have F := Lib.hid (fun A n c A' m c' => at_no (A := A) (n := n) (c := c) (A' := A') (m := m) (c' := c') HT.out (next_trans bel bb))
        clear bb bel rA h h'
        go_wp2
        go_ret
        exact F.out _ _ _ _ _ _

set_option maxHeartbeats 1000000 in
theorem implEndOf (A A' : Option Addr) (n c m c' : Nat) (sg t : List Int) (x : Int) (w : World) (h : Seg w w.heap.size A n sg) (h' : Seg w w.heap.size A' m t) (hn : n ≤ 1048576) (hm : m ≤ 1048576) (_ : -9223372036854775808 ≤ x) (_ : x ≤ 9223372036854775807) :
    Calls Try.prog 118 #[.agg #[.slice A n c], .slice A' m c', .int .i64 x] w (AnsEndOf w sg t x) := by
  obtain ⟨W, hW⟩ : ∃ W, W = w.alloc (.cells #[.slice A n c] 32) := ⟨_, rfl⟩
  have bel : Below w.heap.size w W := by rw [hW]; exact (Below.refl _ _).alloc (Nat.le_refl _) _
  replace h := (h.below bel).more bel.size
  replace h' := (h'.below bel).more bel.size
  have HW := Lib.hid hW
  have HL := Lib.hid h'.1
  clear hW
  have L := Lib.hid (cursorAt A A' n c m c' sg t x W h h' hn hm)
  clear h h'
  go_enter Try.func118, Try.ntmps118
  go_wp2_with fail
  rw [← HW.out]
  refine L.out.mono ?_
  rintro e w1 ⟨bb, ⟨ht, p, rfl, hp, hc⟩ | ⟨ht, rfl⟩⟩
  · replace bel := next_trans bel bb
    have HT := Lib.hid ht
    have hsz : W.heap.size < w1.heap.size := Nat.lt_of_le_of_lt hp hc.row.lt
    have hwp : w.heap.size ≤ p := by rw [HW.out] at hp; simp at hp; omega
    clear ht bb
    go_wp2_with fail
    refine (pass p A n c A' m c' sg t x.toNat _ hc).mono ?_
    obtain ⟨hok, h0, h1⟩ := there_parts HT.out
    obtain ⟨j, hj, hj1, hj2⟩ := scan_at (termOk_parts hok).2.2 (a := x.toNat) (by omega)
    rintro e w2 ⟨hg, ⟨j', hj', rfl, hc2⟩ | ⟨hj', rfl, -⟩⟩
    · have c2 : w2.cell? ⟨p, 2, none⟩ = some (.int .i64 ((x.toNat + j' : Nat) : Int)) := hc2.row.cell 2
      have b2 : Below w.heap.size w w2 := bel.grown hg (by have := bel.size; omega) (fun k hk => by injection hk; omega)
      have F := endOf_yes HT.out b2
      rw [endI_some hj'] at F
      rw [show ((x.toNat : Int) + (j' : Int)) = ((x.toNat + j' : Nat) : Int) by simp] at F
      have HF := Lib.hid F
      clear F b2 hg hc2 hj hj1 hj2 hj' h0 h1 hok hc bel HT
      generalize x.toNat + j' = z at *
      go_wp2
      go_ret
      exact HF.out
    · rw [hj] at hj'
      cases hj'
  · have F := Lib.hid (endOf_no ht (next_trans bel bb))
    clear bb bel ht
    go_wp2
    go_ret
    exact F.out
end Go.Proofs.Ytpcnjcgglonifaa.endAt
end

section
namespace Go.Proofs.Ytpcnjcgglonifaa.sym
open Go.RowKit base ints sig term termOk marks app

end Go.Proofs.Ytpcnjcgglonifaa.sym
end

section
namespace Go.Proofs.Ytpcnjcgglonifaa.curO
open Go.RowKit base ints sig term arity cursor sub
set_option maxRecDepth 100000

structure CurO (w : World) (p o : Nat) (ty : TypeId) (cs : Array Value) (A : Option Addr) (n c : Nat) (A' : Option Addr) (m c' : Nat) (sg t : List Int) (k : Nat) : Prop where
  row : Row w p ty (cs.setIfInBounds (o + 2) (.int .i64 k))
  h0 : cs[o]? = some (.slice A n c)
  h1 : cs[o + 1]? = some (.slice A' m c')
  sz : o + 2 < cs.size
  s : Seg w p A n sg
  s' : Seg w p A' m t
  le : k ≤ m
  hn : n ≤ 1048576
  hm : m ≤ 1048576
  ars : Arities sg
section
variable {w w' : World} {p o : Nat} {ty : TypeId} {cs : Array Value} {A : Option Addr} {n c : Nat} {A' : Option Addr} {m c' : Nat} {sg t : List Int} {k : Nat}
theorem CurO.c0 (h : CurO w p o ty cs A n c A' m c' sg t k) : w.cell? ⟨p, o, none⟩ = some (.slice A n c) := by
  rw [h.row.cell o, Array.getElem?_setIfInBounds_ne (by omega)]; exact h.h0
theorem CurO.c1 (h : CurO w p o ty cs A n c A' m c' sg t k) : w.cell? ⟨p, o + 1, none⟩ = some (.slice A' m c') := by
  rw [h.row.cell (o + 1), Array.getElem?_setIfInBounds_ne (by omega)]; exact h.h1
theorem CurO.c2 (h : CurO w p o ty cs A n c A' m c' sg t k) : w.cell? ⟨p, o + 2, none⟩ = some (.int .i64 k) := by
  rw [h.row.cell (o + 2), Array.getElem?_setIfInBounds_self_of_lt h.sz]
theorem CurO.below (h : CurO w p o ty cs A n c A' m c' sg t k) (hb : Below w.heap.size w w') : CurO w' p o ty cs A n c A' m c' sg t k :=
  have hp := h.row.lt
  ⟨h.row.next hb, h.h0, h.h1, h.sz, h.s.below (hb.mono (Nat.le_of_lt hp)), h.s'.below (hb.mono (Nat.le_of_lt hp)), h.le, h.hn, h.hm, h.ars⟩
theorem CurO.drewN (h : CurO w p o ty cs A n c A' m c' sg t k) (d : Nat) : CurO (w.drewN d) p o ty cs A n c A' m c' sg t k :=
  ⟨h.row, h.h0, h.h1, h.sz, h.s, h.s', h.le, h.hn, h.hm, h.ars⟩
theorem CurO.step (h : CurO w p o ty cs A n c A' m c' sg t k) (hk : k < m) (d : Nat) :
    CurO ((w.drewN d).setCell ⟨p, o + 2, none⟩ (.int .i64 ((k : Int) + 1))) p o ty cs A n c A' m c' sg t (k + 1) := by
  have r := (h.row.drewN d).put (o + 2) (.int .i64 ((k : Int) + 1))
  rw [Array.setIfInBounds_setIfInBounds] at r
  refine ⟨?_, h.h0, h.h1, h.sz, (h.s.drewN d).put (p := ⟨p, o + 2, none⟩) (Nat.le_refl _) _, (h.s'.drewN d).put (p := ⟨p, o + 2, none⟩) (Nat.le_refl _) _, hk, h.hn, h.hm, h.ars⟩
  have e : (.int .i64 ((k : Int) + 1) : Value) = .int .i64 ((k + 1 : Nat) : Int) := by simp
  rw [← e]
  exact r
end

def NextO (w : World) (p o : Nat) (ty : TypeId) (cs : Array Value) (A : Option Addr) (n c : Nat) (A' : Option Addr) (m c' : Nat) (sg t : List Int) (k : Nat) (e : Ending) (w' : World) : Prop :=
  w.grownBy w' (some p) ∧ ((k < m ∧ e = .returned (.int .i64 (ar sg (t.getD k 0))) ∧ CurO w' p o ty cs A n c A' m c' sg t (k + 1)) ∨ (k = m ∧ e = .returned (.int .i64 (-1)) ∧ CurO w' p o ty cs A n c A' m c' sg t k))

set_option maxHeartbeats 1000000 in
theorem nextO (p o : Nat) (ty : TypeId) (cs : Array Value) (A : Option Addr) (n c : Nat) (A' : Option Addr) (m c' : Nat) (sg t : List Int) (k : Nat) (w : World) (h : CurO w p o ty cs A n c A' m c' sg t k) :
    Calls Try.prog 106 #[.pointer (some ⟨p, o, none⟩)] w (NextO w p o ty cs A n c A' m c' sg t k) := by
  have hk := h.le
  have hm := h.hm
  have c0 := h.c0
  have c1 := h.c1
  have c2 := h.c2
  have f2 : w.frozen? ⟨p, o + 2, none⟩ = false := h.row.free (o + 2)
  by_cases hlt : k < m
  · obtain ⟨b, off, x, rfl, hbb, hx, ex⟩ := h.s'.spot hlt
    have i0 : (0 : Int) ≤ (k : Int) := by omega
    have i1 : (k : Int) < (m : Int) := by omega
    have HS := Lib.hid (fun d => h.step hlt d)
    have HG := Lib.hid (fun d => grown_put (grown_drewN (World.grownBy.refl w (some p)) d) (o + 2) (.int .i64 ((k : Int) + 1)))
    clear h
    go_enter Try.func106, Try.ntmps106
    go_wp2
    go_quiet (fail)
    go_wp2
    go_quiet (fail)
    go_wp2_with fail
    refine (implArity A n c sg x _ ((HS.out _).s.more (Nat.le_of_lt (HS.out _).row.lt)) (HS.out 0).hn).mono ?_
    rintro e w' ⟨rfl, bb⟩
    have F : NextO w p o ty cs A n c (some ⟨b, off, none⟩) m c' sg t k (.returned (.int .i64 (ar sg x))) w' :=
      ⟨grown_trans (HG.out _) (grown_below bb _), .inl ⟨hlt, by rw [ex.out], (HS.out _).below bb⟩⟩
    have HF := Lib.hid F
    clear F HG HS bb ex
    go_wp2
    go_ret
    exact HF.out
  · have e : k = m := by omega
    have HS := Lib.hid (fun d => h.drewN d)
    have HE := Lib.hid e
    have i2 : decide (m ≤ k) = true := by simp; omega
    clear e h
    go_enter Try.func106, Try.ntmps106
    go_wp2
    go_quiet (fail)
    go_wp2
    go_ret
    exact ⟨grown_drewN (World.grownBy.refl w (some p)) _, .inr ⟨HE.out, rfl, HS.out _⟩⟩

def PassO (w : World) (p o : Nat) (ty : TypeId) (cs : Array Value) (A : Option Addr) (n c : Nat) (A' : Option Addr) (m c' : Nat) (sg t : List Int) (k : Nat) (e : Ending) (w' : World) : Prop :=
  w.grownBy w' (some p) ∧ ((∃ j, scan sg 1 (t.drop k) = some j ∧ e = .returned (.bool true) ∧ CurO w' p o ty cs A n c A' m c' sg t (k + j)) ∨ (scan sg 1 (t.drop k) = none ∧ e = .returned (.bool false) ∧ ∃ k', CurO w' p o ty cs A n c A' m c' sg t k'))

def HeadO (w : World) (p o : Nat) (ty : TypeId) (cs : Array Value) (A : Option Addr) (n c : Nat) (A' : Option Addr) (m c' : Nat) (sg t : List Int) (a : Nat) (q : Value) (wr : World) : Prop :=
  ∃ k q' : Nat, q = .int .i64 q' ∧ q' ≤ 3 * k + 1 ∧ Scn sg t a k q' ∧ CurO wr p o ty cs A n c A' m c' sg t k ∧ w.grownBy wr (some p)

def atO (p o : Nat) (wr : World) : Nat := (intOf ((wr.cell? ⟨p, o + 2, none⟩).getD undef)).toNat
theorem atO_cur {w : World} {p o : Nat} {ty : TypeId} {cs : Array Value} {A : Option Addr} {n c : Nat} {A' : Option Addr} {m c' : Nat} {sg t : List Int} {k : Nat} (h : CurO w p o ty cs A n c A' m c' sg t k) : atO p o w = k := by
  unfold atO
  rw [h.c2]
  simp [intOf]

set_option maxHeartbeats 1000000 in
theorem passO (p o : Nat) (ty : TypeId) (cs : Array Value) (A : Option Addr) (n c : Nat) (A' : Option Addr) (m c' : Nat) (sg t : List Int) (a : Nat) (w : World) (h : CurO w p o ty cs A n c A' m c' sg t a) :
    Calls Try.prog 89 #[.pointer (some ⟨p, o, none⟩)] w (PassO w p o ty cs A n c A' m c' sg t a) := by
  have hm := h.hm
  have HL := Lib.hid h.s'.1
  have hs := h.ars
  have H0 : HeadO w p o ty cs A n c A' m c' sg t a (.int .i64 1) w := ⟨a, 1, rfl, by omega, Scn.start (by rw [HL.out]; exact h.le), h, World.grownBy.refl _ _⟩
  have HH := Lib.hid H0
  clear H0 h
  go_enter Try.func89, Try.ntmps89
  go_wp2_with fail
  go_loopw [3, 4] (fun q _ wr => HeadO w p o ty cs A n c A' m c' sg t a q wr) (fun _ _ wr => m - atO p o wr)
  case atStart => exact HH.out
  case round =>
    obtain ⟨k, q, rfl, hq, hl, hc, hg⟩ := hrel
    clear HH
    have hk := hc.le
    by_cases h0 : q = 0
    · subst h0
      have S : PassO w p o ty cs A n c A' m c' sg t a (.returned (.bool true)) wr := ⟨hg, .inl ⟨k - a, hl.done, rfl, by rw [show a + (k - a) = k by have := hl.1; omega]; exact hc⟩⟩
      have HS := Lib.hid S
      clear S hl hc hg
      go_wp2
      go_ret
      exact HS.out
    · obtain ⟨q1, rfl⟩ : ∃ q1, q = q1 + 1 := ⟨q - 1, by omega⟩
      have hq0 : (0 : Int) < ((q1 + 1 : Nat) : Int) := by omega
      go_wp2_with fail
      refine (nextO p o ty cs A n c A' m c' sg t k wr hc).mono ?_
      rintro e w2 ⟨g2, ⟨hlt, rfl, hc2⟩ | ⟨hk', rfl, hc2⟩⟩
      · obtain ⟨z, hz⟩ : ∃ z, ar sg (t.getD k 0) = z := ⟨_, rfl⟩
        have hzb := ar_bd hs (t.getD k 0)
        rw [hz] at hzb ⊢
        by_cases hneg : z < 0
        · have S : PassO w p o ty cs A n c A' m c' sg t a (.returned (.bool false)) w2 := ⟨grown_trans hg g2, .inr ⟨hl.bad (by rw [HL.out]; exact hlt) rfl (by rw [hz]; exact hneg), rfl, _, hc2⟩⟩
          have HS := Lib.hid S
          clear S hl hc hg hc2 g2 hz
          go_wp2
          go_ret
          exact HS.out
        · have hl' := hl.step (by rw [HL.out]; exact hlt) rfl (by rw [hz]; exact hneg)
          rw [hz] at hl'
          have S : HeadO w p o ty cs A n c A' m c' sg t a (.int .i64 ((q1 : Int) + z)) w2 := ⟨k + 1, q1 + z.toNat, by congr 1; omega, by omega, hl', hc2, grown_trans hg g2⟩
          have HS := Lib.hid S
          have M := Lib.hid (show m - atO p o w2 < m - atO p o wr by rw [atO_cur hc, atO_cur hc2]; omega)
          have hz1 := hzb.1
          have hz2 := hzb.2
          have hq2 : (q1 : Int) ≤ 3145728 := by omega
          clear S hl hc hg hc2 g2 hz hl' hzb
          go_wp2
          go_roundw
          case rel => rw [show (q1 : Int) + 1 + z - 1 = (q1 : Int) + z by omega]; exact HS.out
          case measure => exact M.out
      · have S : PassO w p o ty cs A n c A' m c' sg t a (.returned (.bool false)) w2 := ⟨grown_trans hg g2, .inr ⟨hl.out (by rw [HL.out]; omega), rfl, _, hc2⟩⟩
        have HS := Lib.hid S
        clear S hl hc hg hc2 g2
        go_wp2
        go_ret
        exact HS.out

def PartO (w : World) (p o : Nat) (ty : TypeId) (cs : Array Value) (A : Option Addr) (n c : Nat) (b off m c' : Nat) (sg t : List Int) (k j : Nat) (e : Ending) (w' : World) : Prop :=
  e = .returned (.slice (some ⟨b, off + k, none⟩) j (c' - k)) ∧ w.grownBy w' (some p) ∧ CurO w' p o ty cs A n c (some ⟨b, off, none⟩) m c' sg t (k + j)
set_option maxHeartbeats 1000000 in
theorem partO (p o : Nat) (ty : TypeId) (cs : Array Value) (A : Option Addr) (n c b off m c' : Nat) (sg t : List Int) (k j : Nat) (w : World) (h : CurO w p o ty cs A n c (some ⟨b, off, none⟩) m c' sg t k) (hj : scan sg 1 (t.drop k) = some j) (hkj : k + j ≤ m) (h1 : 1 ≤ j) (hmc : m ≤ c') (hc : c' ≤ 9223372036854775807) :
    Calls Try.prog 127 #[.pointer (some ⟨p, o, none⟩)] w (PartO w p o ty cs A n c b off m c' sg t k j) := by
  have hm := h.hm
  have c2 := h.c2
  have L := Lib.hid (passO p o ty cs A n c (some ⟨b, off, none⟩) m c' sg t k w h)
  have HJ := Lib.hid hj
  have a1 : (k : Int) ≤ (k : Int) + (j : Int) := by omega
  have a2 : (k : Int) + (j : Int) ≤ (c' : Int) := by omega
  have a3 : ¬ c' = k := by omega
  have a4 : k + j ≤ c' := by omega
  have a5 : k + j - k = j := by omega
  clear hj h
  go_enter Try.func127, Try.ntmps127
  go_wp2_with fail
  refine L.out.mono ?_
  rintro e w1 ⟨hg, ⟨j', hj', rfl, hc1⟩ | ⟨hj', rfl, -⟩⟩
  · obtain rfl : j = j' := by rw [HJ.out] at hj'; injection hj'
    have d1 := hc1.c1
    have d2 := hc1.c2
    have HF := Lib.hid (fun d => (show PartO w p o ty cs A n c b off m c' sg t k j (.returned (.slice (some ⟨b, off + k, none⟩) (k + j - k) (c' - k))) (w1.drewN d) from ⟨by rw [a5], grown_drewN hg d, hc1.drewN d⟩))
    clear hc1 hg hj' L
    go_wp2
    go_quiet (fail)
    go_wp2
    go_ret
    exact HF.out _
  · rw [HJ.out] at hj'
    cases hj'

theorem ofCur {w : World} {p : Nat} {A : Option Addr} {n c : Nat} {A' : Option Addr} {m c' : Nat} {sg t : List Int} {k : Nat} (h : Cur w p A n c A' m c' sg t k) (u : Value) :
    CurO w p 0 125 #[.slice A n c, .slice A' m c', u] A n c A' m c' sg t k :=
  ⟨by have r := h.row; simpa using r, by simp, by simp, by simp, h.s, h.s', h.le, h.hn, h.hm, h.ars⟩
theorem toCur {w : World} {p : Nat} {A : Option Addr} {n c : Nat} {A' : Option Addr} {m c' : Nat} {sg t : List Int} {k : Nat} {u : Value} (h : CurO w p 0 125 #[.slice A n c, .slice A' m c', u] A n c A' m c' sg t k) :
    Cur w p A n c A' m c' sg t k :=
  ⟨by have r := h.row; simpa using r, h.s, h.s', h.le, h.hn, h.hm, h.ars⟩
theorem partC (p : Nat) (A : Option Addr) (n c b off m c' : Nat) (sg t : List Int) (k j : Nat) (w : World) (h : Cur w p A n c (some ⟨b, off, none⟩) m c' sg t k) (hj : scan sg 1 (t.drop k) = some j) (hkj : k + j ≤ m) (h1 : 1 ≤ j) (hmc : m ≤ c') (hc : c' ≤ 9223372036854775807) :
    Calls Try.prog 127 #[.pointer (some ⟨p, 0, none⟩)] w fun e w' => e = .returned (.slice (some ⟨b, off + k, none⟩) j (c' - k)) ∧ w.grownBy w' (some p) ∧ Cur w' p A n c (some ⟨b, off, none⟩) m c' sg t (k + j) :=
  (partO p 0 _ _ A n c b off m c' sg t k j w (ofCur h undef) hj hkj h1 hmc hc).mono fun _ _ ⟨e1, e2, e3⟩ => ⟨e1, e2, toCur e3⟩
end Go.Proofs.Ytpcnjcgglonifaa.curO
end

section
namespace Go.Proofs.Ytpcnjcgglonifaa.sub
open Go.RowKit base ints sig term arity endOf cursor termOk endAt marks app sym curO

def subL (sg t : List Int) (a : Nat) : List Int := (t.drop a).take (len1 sg t a)
set_option maxHeartbeats 1000000 in
theorem l1Sub (A A' : Option Addr) (n c m c' : Nat) (sg t : List Int) (a j : Nat) (w : World) (h : Seg w w.heap.size A n sg) (h' : Seg w w.heap.size A' m t) (hn : n ≤ 1048576) (hm : m ≤ 1048576) (hc' : m ≤ c') (hc2 : c' ≤ 9223372036854775807)
    (hs : Arities sg) (ha : a < m) (hj : scan sg 1 (t.drop a) = some j) (hj1 : 1 ≤ j) (hj2 : a + j ≤ m) :
    Calls Try.prog 95 #[.agg #[.slice A n c], .slice A' m c', .int .i64 (a : Int)] w (AnsList w (subL sg t a)) := by
  obtain ⟨b, off, x, rfl, -, -, -⟩ := h'.spot ha
  obtain ⟨W, hW⟩ : ∃ W, W = w.alloc (.cells #[.slice A n c] 32) := ⟨_, rfl⟩
  have bel : Below w.heap.size w W := by rw [hW]; exact (Below.refl _ _).alloc (Nat.le_refl _) _
  have zW : w.heap.size < W.heap.size := by rw [hW]; simp
  replace h := (h.below bel).more bel.size
  replace h' := (h'.below bel).more bel.size
  have HW := Lib.hid hW
  clear hW
  have L := Lib.hid (specEnd A _ n c m c' sg t (a : Int) W h h' hn hm hs (by omega) (by omega))
  have HE := Lib.hid (endI_some hj)
  have HL := Lib.hid (len1_eq hj)
  have hcut := Seg.cut (a := a) (j := j) h' hj2
  clear h h' hj hs
  have i0 : (0 : Int) ≤ (a : Int) := by omega
  have i1 : (a : Int) ≤ (a : Int) + (j : Int) := by omega
  have i2 : (a : Int) + (j : Int) ≤ (c' : Int) := by omega
  have i3 : ¬ c' = a := by omega
  go_enter Try.func95, Try.ntmps95
  go_wp2_with fail
  rw [← HW.out]
  refine L.out.mono ?_
  rintro e w1 ⟨he, bb⟩
  rw [Int.toNat_natCast, HE.out] at he
  subst he
  replace hcut := hcut.next bb
  replace bel := next_trans bel bb
  clear bb L
  go_wp2_with fail
  refine (copyInts _ j _ _ w1 hcut (fun e => by cases e) (by omega)).mono ?_
  rintro e w2 ⟨A2, n2, c2, rfl, o2, bb⟩
  have F : AnsList w (subL sg t a) (.returned (.slice A2 n2 c2)) w2 := ⟨A2, n2, c2, rfl, by unfold subL; rw [HL.out]; exact Own.lower o2 bel.size, next_trans bel bb⟩
  have HF := Lib.hid F
  clear F o2 bb bel hcut
  go_wp2
  go_ret
  exact HF.out

end Go.Proofs.Ytpcnjcgglonifaa.sub
end

section
namespace Go.Proofs.Ytpcnjcgglonifaa.args
open Go.RowKit base ints sig term arity endOf cursor termOk endAt marks app sym

def Coll (sg t : List Int) (m : Nat) (L ys : List Int) (q p : Nat) : Prop := ys ++ places sg t q p = L ∧ ∃ i, scan sg q (t.drop p) = some i ∧ p + i ≤ m
theorem Coll.first {sg t : List Int} {m : Nat} {L ys : List Int} {q p : Nat} (h : Coll sg t m L ys (q + 1) p) : ∃ j, scan sg 1 (t.drop p) = some j ∧ p + j ≤ m ∧ p < t.length ∧ Coll sg t m L (ys ++ [(p : Int)]) q (p + j) := by
  obtain ⟨h1, i, h2, h3⟩ := h
  obtain ⟨j, e1, e2, e3, e4⟩ := scan_first h2
  have e5 := scan_le h2
  refine ⟨j, e1, by omega, ?_, ?_, i - j, e4, by omega⟩
  · simp only [List.length_drop] at e5; omega
  · rw [← h1, List.append_assoc]
    congr 1
    simp only [places, len1_eq e1, List.singleton_append]
theorem Coll.done {sg t : List Int} {m : Nat} {L ys : List Int} {p : Nat} (h : Coll sg t m L ys 0 p) : ys = L := by
  have := h.1
  simpa [places] using this
theorem Coll.len {sg t : List Int} {m : Nat} {L ys : List Int} {q p : Nat} (h : Coll sg t m L ys q p) : ys.length ≤ L.length := by
  rw [← h.1]; simp
theorem Cur.keep {w w' : World} {p : Nat} {A : Option Addr} {n c : Nat} {A' : Option Addr} {m c' : Nat} {sg t : List Int} {k : Nat} (h : Cur w p A n c A' m c' sg t k) (hb : Below (p + 1) w w') : Cur w' p A n c A' m c' sg t k :=
  ⟨h.row.below hb (Nat.lt_succ_self _), h.s.below (hb.mono (Nat.le_succ _)), h.s'.below (hb.mono (Nat.le_succ _)), h.le, h.hn, h.hm, h.ars⟩
end Go.Proofs.Ytpcnjcgglonifaa.args
end

section
namespace Go.Proofs.Ytpcnjcgglonifaa.depth
open Go.RowKit base ints sig term arity endOf cursor termOk endAt marks app sym args

def Deep (sg t : List Int) (f : Nat) (M d : Int) (q p : Nat) : Prop := max d (maxOver sg t (dep sg t f) q p) = M ∧ 0 ≤ d ∧ d ≤ f ∧ ∃ i, scan sg q (t.drop p) = some i ∧ i ≤ f ∧ p + i ≤ t.length
theorem Deep.first {sg t : List Int} {f : Nat} {M d : Int} {q p : Nat} (h : Deep sg t f M d (q + 1) p) : ∃ j, scan sg 1 (t.drop p) = some j ∧ j ≤ f ∧ p < t.length ∧ p + j ≤ t.length ∧ Deep sg t f M (max d (dep sg t f p)) q (p + j) := by
  obtain ⟨h1, h2, h3, i, h4, h5, h6⟩ := h
  obtain ⟨j, e1, e2, e3, e4⟩ := scan_first h4
  have hb := dep_bd (sg := sg) (t := t) f p
  refine ⟨j, e1, by omega, by omega, by omega, ?_, by omega, by omega, i - j, e4, by omega, by omega⟩
  simp only [maxOver, len1_eq e1] at h1
  omega
theorem Deep.done {sg t : List Int} {f : Nat} {M d : Int} {p : Nat} (h : Deep sg t f M d 0 p) : d = M := by
  have h1 := h.1
  have h2 := h.2.1
  simp only [maxOver] at h1
  omega
def depthI (sg t : List Int) : Int := if termOkB sg t = true then dep sg t t.length 0 else 0
end Go.Proofs.Ytpcnjcgglonifaa.depth
end

section
namespace Go.Proofs.Ytpcnjcgglonifaa.termMath
open term termOk endAt sub args depth sig

theorem scan_append {sg : List Int} : ∀ {l r : List Int} {q j : Nat}, scan sg q l = some j → scan sg q (l ++ r) = some j := by
  intro l
  induction l with
  | nil =>
    intro r q j h
    cases q with
    | zero => rw [scan_zero] at h ⊢; exact h
    | succ q => rw [scan_nil] at h; cases h
  | cons x l ih =>
    intro r q j h
    cases q with
    | zero => rw [scan_zero] at h ⊢; exact h
    | succ q =>
      by_cases ha : ar sg x < 0
      · rw [scan_bad ha] at h; cases h
      · rw [scan_step ha] at h
        rw [List.cons_append, scan_step ha]
        obtain ⟨j', hj', rfl⟩ := Option.map_eq_some_iff.1 h
        rw [ih hj']
        rfl
theorem scan_take {sg : List Int} : ∀ {l : List Int} {q j : Nat}, scan sg q l = some j → scan sg q (l.take j) = some j := by
  intro l
  induction l with
  | nil => intro q j h; simpa using h
  | cons x l ih =>
    intro q j h
    cases q with
    | zero => rw [scan_zero] at h ⊢; exact h
    | succ q =>
      by_cases ha : ar sg x < 0
      · rw [scan_bad ha] at h; cases h
      · rw [scan_step ha] at h
        obtain ⟨j', hj', rfl⟩ := Option.map_eq_some_iff.1 h
        rw [List.take_succ_cons, scan_step ha, ih hj']
        rfl
theorem scan_same {sg l l' : List Int} {q j : Nat} (h : scan sg q l = some j) (e : l.take j = l'.take j) : scan sg q l' = some j := by
  have h1 := scan_take h
  rw [e] at h1
  have h2 := scan_append (r := l'.drop j) h1
  rwa [List.take_append_drop] at h2
theorem take_less {l l' : List Int} {i j : Nat} (e : l.take i = l'.take i) (h : j ≤ i) : l.take j = l'.take j := by
  have : (l.take i).take j = (l'.take i).take j := by rw [e]
  rwa [List.take_take, List.take_take, Nat.min_eq_left h] at this
theorem drop_same {l l' : List Int} {i j : Nat} (e : l.take i = l'.take i) : (l.drop j).take (i - j) = (l'.drop j).take (i - j) := by
  rw [← List.drop_take, ← List.drop_take, e]
theorem get_same {t t' : List Int} {a a' i : Nat} (e : (t.drop a).take i = (t'.drop a').take i) (h : 1 ≤ i) : t.getD a 0 = t'.getD a' 0 := by
  have : ((t.drop a).take i)[0]? = ((t'.drop a').take i)[0]? := by rw [e]
  rw [List.getElem?_take, List.getElem?_take, if_pos (by omega), if_pos (by omega), List.getElem?_drop, List.getElem?_drop] at this
  simpa [List.getD] using congrArg (fun o => o.getD 0) this

theorem max_same {sg t t' : List Int} {f f' : Nat} (hd : ∀ a a' j, (t.drop a).take j = (t'.drop a').take j → scan sg 1 (t.drop a) = some j → j ≤ f → j ≤ f' → dep sg t f a = dep sg t' f' a') :
    ∀ q p p' i, (t.drop p).take i = (t'.drop p').take i → scan sg q (t.drop p) = some i → i ≤ f → i ≤ f' → maxOver sg t (dep sg t f) q p = maxOver sg t' (dep sg t' f') q p'
  | 0, _, _, _, _, _, _, _ => rfl
  | q + 1, p, p', i, e, h, h1, h2 => by
    obtain ⟨j, e1, e2, e3, e4⟩ := scan_first h
    have e5 := scan_same e1 (take_less e e3)
    have hdr : (t.drop (p + j)).take (i - j) = (t'.drop (p' + j)).take (i - j) := by
      have := drop_same (j := j) e
      rwa [List.drop_drop, List.drop_drop] at this
    simp only [maxOver, len1_eq e1, len1_eq e5]
    rw [hd p p' j (take_less e e3) e1 (by omega) (by omega), max_same hd q (p + j) (p' + j) (i - j) hdr e4 (by omega) (by omega)]
theorem dep_same {sg : List Int} : ∀ (f f' : Nat) (t t' : List Int) (a a' j : Nat), (t.drop a).take j = (t'.drop a').take j → scan sg 1 (t.drop a) = some j → j ≤ f → j ≤ f' → dep sg t f a = dep sg t' f' a'
  | 0, _, _, _, _, _, _, _, h, h1, _ => by have := scan_pos (q := 0) h; omega
  | _ + 1, 0, _, _, _, _, _, _, h, _, h2 => by have := scan_pos (q := 0) h; omega
  | f + 1, f' + 1, t, t', a, a', j, e, h, h1, h2 => by
    have hj := scan_pos (q := 0) h
    have hg := get_same e hj
    obtain ⟨i, e1, _, _, e2⟩ := scan_args h
    have hdr : (t.drop (a + 1)).take i = (t'.drop (a' + 1)).take i := by
      have := drop_same (j := 1) e
      rw [List.drop_drop, List.drop_drop] at this
      have e3 : j - 1 = i := by omega
      rwa [e3] at this
    simp only [dep]
    rw [← hg, max_same (fun a a' j e h h1 h2 => dep_same f f' t t' a a' j e h h1 h2) _ (a + 1) (a' + 1) i hdr e2 (by omega) (by omega)]

theorem sub_term {sg t : List Int} {a : Nat} (hok : termOkB sg t = true) (ha : a < t.length) : termOkB sg (subL sg t a) = true ∧ depthI sg (subL sg t a) = dep sg t (t.length + 1) a ∧ endI sg t a = (a : Int) + ((subL sg t a).length : Int) ∧ 1 ≤ (subL sg t a).length := by
  have hp := termOk_parts hok
  obtain ⟨j, hj, hj1, hj2⟩ := scan_at hp.2.2 ha
  have hl : len1 sg t a = j := len1_eq hj
  have hs : subL sg t a = (t.drop a).take j := by unfold subL; rw [hl]
  have hlen : (subL sg t a).length = j := by rw [hs]; simp; omega
  have hsc : scan sg 1 (subL sg t a) = some (subL sg t a).length := by rw [hlen, hs]; exact scan_take hj
  have hok2 : termOkB sg (subL sg t a) = true := by
    unfold termOkB termB
    rw [hp.1, hsc]
    simp
    omega
  refine ⟨hok2, ?_, by rw [endI_some hj, hlen], by omega⟩
  unfold depthI
  rw [if_pos hok2, hlen]
  refine (dep_same _ _ _ _ _ _ j ?_ ?_ (Nat.le_refl _) (by omega))
  · rw [List.drop_zero, hs, List.take_take, Nat.min_self]
  · rw [List.drop_zero, hsc, hlen]

def Loop (sg t : List Int) (a : Nat) (M : Int) (zs args : List Int) (d : Int) (k q pp : Nat) : Prop :=
  args.drop k = places sg t q pp ∧ max d (maxOver sg t (dep sg t t.length) q pp) = M ∧ 0 ≤ d ∧ d ≤ t.length ∧ ∃ i, scan sg q (t.drop pp) = some i ∧ pp + i ≤ t.length ∧ zs ++ (t.drop pp).take i = subL sg t a
theorem Loop.done {sg t : List Int} {a : Nat} {M : Int} {zs args : List Int} {d : Int} {k pp : Nat} (h : Loop sg t a M zs args d k 0 pp) : zs = subL sg t a ∧ d = M := by
  obtain ⟨_, h2, h3, _, i, h5, _, h7⟩ := h
  rw [scan_zero] at h5
  injection h5 with h5
  subst h5
  simp only [maxOver] at h2
  exact ⟨by simpa using h7, by omega⟩
end Go.Proofs.Ytpcnjcgglonifaa.termMath
end

section
namespace Go.Proofs.Ytpcnjcgglonifaa.posMath
open sig term termOk termFacts endAt sub args depth termMath

theorem scan_cat {sg : List Int} : ∀ {l l' : List Int} {q q' j : Nat}, scan sg q l = some l.length → scan sg q' l' = some j → scan sg (q + q') (l ++ l') = some (l.length + j)
  | [], l', q, q', j, h, h' => by
    cases q with
    | zero => simpa using h'
    | succ q => rw [scan_nil] at h; cases h
  | x :: r, l', q, q', j, h, h' => by
    cases q with
    | zero => rw [scan_zero] at h; simp at h
    | succ q =>
      by_cases ha : ar sg x < 0
      · rw [scan_bad ha] at h; cases h
      · rw [scan_step ha] at h
        obtain ⟨i, hi, e⟩ := Option.map_eq_some_iff.1 h
        have e2 : i = r.length := by simp at e; omega
        subst e2
        have h2 := scan_cat hi h'
        rw [show q + 1 + q' = (q + q') + 1 by omega, List.cons_append, scan_step ha, show q + q' + (ar sg x).toNat = q + (ar sg x).toNat + q' by omega, h2]
        simp
        omega
theorem term_at {sg t : List Int} (h : termOkB sg t = true) {a : Nat} (ha : a < t.length) : scan sg 1 (t.drop a) = some (len1 sg t a) ∧ 1 ≤ len1 sg t a ∧ a + len1 sg t a ≤ t.length := by
  obtain ⟨j, e, h1, h2⟩ := scan_at (term_parts h).2.2 ha
  rw [len1_eq e]
  exact ⟨e, h1, h2⟩
theorem end_at {sg t : List Int} (h : termOkB sg t = true) {a : Nat} (ha : a < t.length) : endI sg t a = ((a + len1 sg t a : Nat) : Int) := by
  rw [endI_some (term_at h ha).1]; omega
theorem nest {sg t : List Int} {q a i : Nat} (h : scan sg q (t.drop a) = some i) {p : Nat} (h1 : a ≤ p) (h2 : p < a + i) : p + len1 sg t p ≤ a + i ∧ scan sg 1 (t.drop p) = some (len1 sg t p) ∧ 1 ≤ len1 sg t p := by
  obtain ⟨q', hq⟩ := scan_tail h (show p - a < i by omega)
  rw [List.drop_drop, show a + (p - a) = p by omega] at hq
  obtain ⟨j, e, j1, j2, _⟩ := scan_first hq
  rw [len1_eq e]
  exact ⟨by omega, e, j1⟩

def argP (sg t : List Int) : Nat → Nat → Nat
  | 0, p => p
  | k + 1, p => argP sg t k (p + len1 sg t p)
theorem argP_succ {sg t : List Int} : ∀ k p, argP sg t (k + 1) p = argP sg t k p + len1 sg t (argP sg t k p)
  | 0, _ => rfl
  | k + 1, p => by
    show argP sg t (k + 1) (p + len1 sg t p) = _
    rw [argP_succ k]
    rfl
theorem argP_mono {sg t : List Int} {p k : Nat} : ∀ {k' : Nat}, k ≤ k' → argP sg t k p ≤ argP sg t k' p := by
  intro k' h
  induction k' with
  | zero => rw [Nat.le_zero.1 h]; exact Nat.le_refl _
  | succ k' ih =>
    by_cases e : k = k' + 1
    · rw [e]; exact Nat.le_refl _
    · have := ih (by omega)
      rw [argP_succ]
      omega
theorem argP_scan {sg t : List Int} : ∀ {k q p i : Nat}, scan sg q (t.drop p) = some i → k ≤ q → scan sg k (t.drop p) = some (argP sg t k p - p) ∧ p ≤ argP sg t k p ∧ argP sg t k p ≤ p + i := by
  intro k
  induction k with
  | zero => intro q p i _ _; exact ⟨by rw [scan_zero]; simp [argP], Nat.le_refl _, by simp [argP]⟩
  | succ k ih =>
    intro q p i h hk
    obtain ⟨q, rfl⟩ : ∃ q', q = q' + 1 := ⟨q - 1, by omega⟩
    obtain ⟨j, e1, e2, e3, e4⟩ := scan_first h
    have hj := len1_eq e1
    obtain ⟨a1, a2, a3⟩ := ih e4 (show k ≤ q by omega)
    have ea : argP sg t (k + 1) p = argP sg t k (p + j) := by show argP sg t k (p + len1 sg t p) = _; rw [hj]
    have hsc : scan sg (k + 1) (t.drop p) = some (argP sg t (k + 1) p - p) := by
      have hx := scan_cat (l := (t.drop p).take j) (l' := t.drop (p + j)) (q := 1) (q' := k) (j := argP sg t k (p + j) - (p + j))
        (by have := scan_take e1; rw [this]; have hl := scan_le this; have hl2 := scan_le e1; rw [List.length_take, Nat.min_eq_left hl2]) a1
      have hl2 := scan_le e1
      rw [← List.drop_drop, List.take_append_drop, List.length_take, Nat.min_eq_left hl2, Nat.add_comm 1 k] at hx
      rw [hx, ea]
      congr 1
      omega
    rw [ea] at hsc ⊢
    exact ⟨hsc, by omega, by omega⟩
def arN (sg t : List Int) (p : Nat) : Nat := (ar sg (t.getD p 0)).toNat
inductive Trail (sg t : List Int) (at_ : Nat) : Nat → List Int → List Int → Prop
  | here : Trail sg t at_ at_ [] []
  | down {p k : Nat} {ab pa : List Int} (h1 : p < at_) (h2 : k < arN sg t p) (h3 : argP sg t k (p + 1) ≤ at_) (h4 : at_ < argP sg t k (p + 1) + len1 sg t (argP sg t k (p + 1))) (h5 : p < argP sg t k (p + 1)) (h6 : at_ < p + len1 sg t p) (hw : Trail sg t at_ (argP sg t k (p + 1)) ab pa) : Trail sg t at_ p ((p : Int) :: ab) ((k : Int) :: pa)
theorem head_scan {sg t : List Int} (h : termOkB sg t = true) {p : Nat} (hp : p < t.length) : ¬ ar sg (t.getD p 0) < 0 ∧ ∃ i, len1 sg t p = i + 1 ∧ scan sg (arN sg t p) (t.drop (p + 1)) = some i := by
  obtain ⟨i, e, _, h1, h2⟩ := scan_args (term_at h hp).1
  exact ⟨h1, i, e, h2⟩
theorem Trail.here_eq {sg t : List Int} {at_ : Nat} {ab pa : List Int} (h : Trail sg t at_ at_ ab pa) : ab = [] ∧ pa = [] := by
  cases h with
  | here => exact ⟨rfl, rfl⟩
  | down h1 => omega
theorem arg_one {sg t : List Int} {p at_ k k' : Nat} (h3 : argP sg t k p ≤ at_) (h4 : at_ < argP sg t k p + len1 sg t (argP sg t k p)) (h3' : argP sg t k' p ≤ at_) (h4' : at_ < argP sg t k' p + len1 sg t (argP sg t k' p)) : k = k' := by
  rcases Nat.lt_trichotomy k k' with h | h | h
  · have := argP_mono (sg := sg) (t := t) (p := p) (show k + 1 ≤ k' by omega)
    rw [argP_succ] at this
    omega
  · exact h
  · have := argP_mono (sg := sg) (t := t) (p := p) (show k' + 1 ≤ k by omega)
    rw [argP_succ] at this
    omega
theorem Trail.one {sg t : List Int} {at_ p : Nat} {ab pa : List Int} (h : Trail sg t at_ p ab pa) : ∀ {ab' pa' : List Int}, Trail sg t at_ p ab' pa' → ab = ab' ∧ pa = pa' := by
  induction h with
  | here => intro ab' pa' h'; obtain ⟨rfl, rfl⟩ := h'.here_eq; exact ⟨rfl, rfl⟩
  | @down p k ab pa h1 h2 h3 h4 h5 h6 hw ih =>
    intro ab' pa' h'
    cases h' with
    | here => omega
    | @down _ k' ab' pa' g1 g2 g3 g4 g5 g6 gw =>
      obtain rfl := arg_one h3 h4 g3 g4
      obtain ⟨rfl, rfl⟩ := ih gw
      exact ⟨rfl, rfl⟩
theorem Trail.len {sg t : List Int} {at_ p : Nat} {ab pa : List Int} (h : Trail sg t at_ p ab pa) : ab.length = pa.length := by
  induction h with
  | here => rfl
  | down _ _ _ _ _ _ _ ih => simp [ih]
theorem Trail.le {sg t : List Int} {at_ p : Nat} {ab pa : List Int} (h : Trail sg t at_ p ab pa) : p ≤ at_ ∧ pa.length ≤ at_ - p := by
  induction h with
  | here => simp
  | down h1 _ _ _ h5 _ _ ih => simp only [List.length_cons]; omega

def upTo (sg t : List Int) (at_ : Nat) : Nat → Nat → List Int
  | _, 0 => []
  | p, n + 1 => (if at_ < p + len1 sg t p then [(p : Int)] else []) ++ upTo sg t at_ (p + 1) n
theorem upTo_add {sg t : List Int} {at_ : Nat} : ∀ n p m, upTo sg t at_ p (n + m) = upTo sg t at_ p n ++ upTo sg t at_ (p + n) m
  | 0, p, m => by simp [upTo]
  | n + 1, p, m => by
    rw [show n + 1 + m = (n + m) + 1 by omega]
    simp only [upTo]
    rw [upTo_add n (p + 1) m, List.append_assoc, show p + 1 + n = p + (n + 1) by omega]
theorem upTo_skip {sg t : List Int} {at_ : Nat} : ∀ n p, (∀ r, p ≤ r → r < p + n → ¬ at_ < r + len1 sg t r) → upTo sg t at_ p n = []
  | 0, _, _ => rfl
  | n + 1, p, h => by
    simp only [upTo]
    rw [if_neg (h p (by omega) (by omega)), upTo_skip n (p + 1) (fun r h1 h2 => h r (by omega) (by omega))]
    rfl
def aboveL (sg t : List Int) (at_ : Nat) : List Int := upTo sg t at_ 0 at_
theorem Trail.above {sg t : List Int} (hok : termOkB sg t = true) {at_ p : Nat} (hat : at_ < t.length) {ab pa : List Int} (h : Trail sg t at_ p ab pa) : upTo sg t at_ p (at_ - p) = ab := by
  induction h with
  | here => simp [upTo]
  | @down p k ab pa h1 h2 h3 h4 h5 h6 hw ih =>
    obtain ⟨_, i, e, hs⟩ := head_scan hok (show p < t.length by omega)
    obtain ⟨s1, s2, s3⟩ := argP_scan hs (Nat.le_of_lt h2)
    rw [show at_ - p = (argP sg t k (p + 1) - (p + 1)) + (at_ - argP sg t k (p + 1)) + 1 by omega]
    simp only [upTo]
    rw [if_pos h6, upTo_add, upTo_skip (argP sg t k (p + 1) - (p + 1)), show p + 1 + (argP sg t k (p + 1) - (p + 1)) = argP sg t k (p + 1) by omega, ih]
    · rfl
    · intro r r1 r2 r3
      have := (nest s1 r1 (by omega)).1
      omega
theorem Trail.aboveL {sg t : List Int} (hok : termOkB sg t = true) {at_ : Nat} (hat : at_ < t.length) {ab pa : List Int} (h : Trail sg t at_ 0 ab pa) : aboveL sg t at_ = ab := h.above hok hat

def pl (sg t : List Int) (at_ : Nat) : Nat := (aboveL sg t at_).length
end Go.Proofs.Ytpcnjcgglonifaa.posMath
end

section
namespace Go.Proofs.Ytpcnjcgglonifaa.matchMath
open sig term termOk termFacts endAt sub termMath fillMath posMath renMath

def vr (x : Int) : Nat := (-1 - x).toNat
def mst (sg t : List Int) : List Int → Nat → List (List Int) → Option (List (List Int))
  | [], _, s => some s
  | x :: r, k, s =>
    if t.length ≤ k then none
    else if 0 ≤ x then (if x = t.getD k 0 then mst sg t r (k + 1) s else none)
    else if (s.getD (vr x) []).length ≠ 0 ∧ s.getD (vr x) [] ≠ subL sg t k then none
    else mst sg t r (k + (subL sg t k).length) (s.set (vr x) (subL sg t k))
section
variable {sg t : List Int} {r : List Int} {x : Int} {k : Nat} {s : List (List Int)}
theorem mst_out (h : t.length ≤ k) : mst sg t (x :: r) k s = none := by simp only [mst]; rw [if_pos h]
theorem mst_sym (h : ¬ t.length ≤ k) (hx : 0 ≤ x) (he : x = t.getD k 0) : mst sg t (x :: r) k s = mst sg t r (k + 1) s := by simp only [mst]; rw [if_neg h, if_pos hx, if_pos he]
theorem mst_symNo (h : ¬ t.length ≤ k) (hx : 0 ≤ x) (he : ¬ x = t.getD k 0) : mst sg t (x :: r) k s = none := by simp only [mst]; rw [if_neg h, if_pos hx, if_neg he]
theorem mst_var (h : ¬ t.length ≤ k) (hx : ¬ 0 ≤ x) (he : ¬ ((s.getD (vr x) []).length ≠ 0 ∧ s.getD (vr x) [] ≠ subL sg t k)) : mst sg t (x :: r) k s = mst sg t r (k + (subL sg t k).length) (s.set (vr x) (subL sg t k)) := by simp only [mst]; rw [if_neg h, if_neg hx, if_neg he]
theorem mst_varNo (h : ¬ t.length ≤ k) (hx : ¬ 0 ≤ x) (he : (s.getD (vr x) []).length ≠ 0 ∧ s.getD (vr x) [] ≠ subL sg t k) : mst sg t (x :: r) k s = none := by simp only [mst]; rw [if_neg h, if_neg hx, if_pos he]
end
theorem set_get {s : List (List Int)} {i j : Nat} {v : List Int} : (s.set i v).getD j [] = if i = j ∧ i < s.length then v else s.getD j [] := by
  simp only [List.getD_eq_getElem?_getD, List.getElem?_set]
  by_cases h : i = j
  · subst h
    by_cases h2 : i < s.length
    · simp [h2]
    · simp [h2]
  · simp [h]
theorem vr_lt {x : Int} (h0 : ¬ 0 ≤ x) (h : -24 ≤ x) : vr x < 24 := by unfold vr; omega
theorem mst_ext {sg t : List Int} : ∀ {p : List Int} {k : Nat} {s s' : List (List Int)}, mst sg t p k s = some s' → s.length = 24 → (∀ x ∈ p, -24 ≤ x) → s'.length = 24 ∧ ∀ i, (s.getD i []).length ≠ 0 → s'.getD i [] = s.getD i [] := by
  intro p
  induction p with
  | nil => intro k s s' h hl _; injection h with h; subst h; exact ⟨hl, fun _ _ => rfl⟩
  | cons x r ih =>
    intro k s s' h hl hx
    have hr : ∀ y ∈ r, -24 ≤ y := fun y hy => hx y (List.mem_cons_of_mem _ hy)
    by_cases h1 : t.length ≤ k
    · rw [mst_out h1] at h; cases h
    · by_cases h2 : 0 ≤ x
      · by_cases h3 : x = t.getD k 0
        · rw [mst_sym h1 h2 h3] at h; exact ih h hl hr
        · rw [mst_symNo h1 h2 h3] at h; cases h
      · by_cases h3 : (s.getD (vr x) []).length ≠ 0 ∧ s.getD (vr x) [] ≠ subL sg t k
        · rw [mst_varNo h1 h2 h3] at h; cases h
        · rw [mst_var h1 h2 h3] at h
          obtain ⟨e1, e2⟩ := ih h (by rw [List.length_set]; exact hl) hr
          refine ⟨e1, fun i hi => ?_⟩
          have hs : (s.set (vr x) (subL sg t k)).getD i [] = s.getD i [] := by
            rw [set_get]
            split
            · rename_i hc
              obtain ⟨rfl, _⟩ := hc
              by_cases e : s.getD (vr x) [] = subL sg t k
              · exact e.symm
              · exact absurd ⟨hi, e⟩ h3
            · rfl
          rw [← hs] at hi ⊢
          exact e2 i hi
theorem sub_len1 {sg t : List Int} (hok : termOkB sg t = true) {k : Nat} (hk : k < t.length) : (subL sg t k).length = len1 sg t k ∧ t.drop k = subL sg t k ++ t.drop (k + (subL sg t k).length) ∧ scan sg 1 (subL sg t k) = some (subL sg t k).length := by
  have h := term_at hok hk
  have hl : (subL sg t k).length = len1 sg t k := by unfold subL; rw [List.length_take, List.length_drop]; omega
  refine ⟨hl, ?_, (term_parts (sub_term hok hk).1).2.2⟩
  rw [hl, ← List.drop_drop]
  exact (List.take_append_drop _ _).symm
theorem mst_sound {sg t : List Int} (hok : termOkB sg t = true) : ∀ {p : List Int} {k : Nat} {s s' : List (List Int)}, mst sg t p k s = some s' → s.length = 24 → (∀ x ∈ p, -24 ≤ x) →
    (∃ rest, t.drop k = fillL (fun i => s'.getD i []) p ++ rest) ∧ ∀ x ∈ p, x < 0 → scan sg 1 (s'.getD (vr x) []) = some (s'.getD (vr x) []).length := by
  intro p
  induction p with
  | nil => intro k s s' _ _ _; exact ⟨⟨t.drop k, by rw [fill_nil, List.nil_append]⟩, fun x hx => absurd hx (List.not_mem_nil)⟩
  | cons x r ih =>
    intro k s s' h hl hx
    have hr : ∀ y ∈ r, -24 ≤ y := fun y hy => hx y (List.mem_cons_of_mem _ hy)
    have hx0 : -24 ≤ x := hx x (List.mem_cons_self ..)
    by_cases h1 : t.length ≤ k
    · rw [mst_out h1] at h; cases h
    · by_cases h2 : 0 ≤ x
      · by_cases h3 : x = t.getD k 0
        · rw [mst_sym h1 h2 h3] at h
          obtain ⟨⟨rest, e⟩, hv⟩ := ih h hl hr
          refine ⟨⟨rest, ?_⟩, fun y hy h0 => ?_⟩
          · rw [drop_cons (by omega), e, ← h3, fill_cons, rep_sym h2]; rfl
          · rcases List.mem_cons.1 hy with rfl | hy
            · omega
            · exact hv y hy h0
        · rw [mst_symNo h1 h2 h3] at h; cases h
      · by_cases h3 : (s.getD (vr x) []).length ≠ 0 ∧ s.getD (vr x) [] ≠ subL sg t k
        · rw [mst_varNo h1 h2 h3] at h; cases h
        · rw [mst_var h1 h2 h3] at h
          have hl' : (s.set (vr x) (subL sg t k)).length = 24 := by rw [List.length_set]; exact hl
          obtain ⟨⟨rest, e⟩, hv⟩ := ih h hl' hr
          obtain ⟨_, e2⟩ := mst_ext h hl' hr
          obtain ⟨l1, l2, l3⟩ := sub_len1 hok (show k < t.length by omega)
          have hpos := (sub_term hok (show k < t.length by omega)).2.2.2
          have hg : (s.set (vr x) (subL sg t k)).getD (vr x) [] = subL sg t k := by rw [set_get, if_pos ⟨rfl, by rw [hl]; exact vr_lt h2 hx0⟩]
          have hgx : s'.getD (vr x) [] = subL sg t k := by rw [e2 (vr x) (by rw [hg]; omega), hg]
          refine ⟨⟨rest, ?_⟩, fun y hy h0 => ?_⟩
          · rw [l2, e, fill_cons, rep_var (by omega), List.append_assoc]
            congr 1
            exact hgx.symm
          · rcases List.mem_cons.1 hy with rfl | hy
            · rw [hgx]; exact l3
            · exact hv y hy h0
theorem mst_full {sg t : List Int} {L : Nat → List Int} : ∀ {p : List Int} {k : Nat} {s : List (List Int)} {rest : List Int}, t.drop k = fillL L p ++ rest → s.length = 24 → (∀ x ∈ p, -24 ≤ x) → (∀ x ∈ p, x < 0 → scan sg 1 (L (vr x)) = some (L (vr x)).length) → (∀ i, (s.getD i []).length ≠ 0 → s.getD i [] = L i) →
    ∃ s', mst sg t p k s = some s' ∧ (∀ i, (s'.getD i []).length ≠ 0 → s'.getD i [] = L i) ∧ ∀ x ∈ p, x < 0 → s'.getD (vr x) [] = L (vr x) := by
  intro p
  induction p with
  | nil => intro k s rest _ _ _ _ hc; exact ⟨s, rfl, hc, fun x hx => absurd hx (List.not_mem_nil)⟩
  | cons x r ih =>
    intro k s rest h hl hx hL hc
    have hr : ∀ y ∈ r, -24 ≤ y := fun y hy => hx y (List.mem_cons_of_mem _ hy)
    have hLr : ∀ y ∈ r, y < 0 → scan sg 1 (L (vr y)) = some (L (vr y)).length := fun y hy => hL y (List.mem_cons_of_mem _ hy)
    have hx0 : -24 ≤ x := hx x (List.mem_cons_self ..)
    rw [fill_cons, List.append_assoc] at h
    by_cases h2 : 0 ≤ x
    · rw [rep_sym h2] at h
      have hk : k < t.length := by
        by_cases hk : k < t.length
        · exact hk
        · rw [List.drop_eq_nil_of_le (by omega)] at h; cases h
      rw [drop_cons hk] at h
      injection h with e1 e2
      obtain ⟨s', m1, m2, m3⟩ := ih e2 hl hr hLr hc
      exact ⟨s', by rw [mst_sym (by omega) h2 e1.symm]; exact m1, m2, fun y hy h0 => by
        rcases List.mem_cons.1 hy with rfl | hy
        · omega
        · exact m3 y hy h0⟩
    · rw [rep_var (by omega)] at h
      change t.drop k = L (vr x) ++ (fillL L r ++ rest) at h
      have hsc := hL x (List.mem_cons_self ..) (by omega)
      have hpos := scan_pos (q := 0) hsc
      have hk : k < t.length := by
        by_cases hk : k < t.length
        · exact hk
        · rw [List.drop_eq_nil_of_le (by omega)] at h
          have := congrArg List.length h
          simp only [List.length_nil, List.length_append] at this
          omega
      have hsub : subL sg t k = L (vr x) := by
        unfold subL
        have e : len1 sg t k = (L (vr x)).length := len1_eq (by rw [h]; exact scan_append hsc)
        rw [e, h, List.take_left' rfl]
      have hnext : t.drop (k + (subL sg t k).length) = fillL L r ++ rest := by rw [← List.drop_drop, h, hsub, List.drop_left' rfl]
      have hno : ¬ ((s.getD (vr x) []).length ≠ 0 ∧ s.getD (vr x) [] ≠ subL sg t k) := fun ⟨g1, g2⟩ => g2 (by rw [hsub]; exact hc _ g1)
      have hl' : (s.set (vr x) (subL sg t k)).length = 24 := by rw [List.length_set]; exact hl
      obtain ⟨s', m1, m2, m3⟩ := ih hnext hl' hr hLr (fun i hi => by
        rw [set_get] at hi ⊢
        split
        · rename_i hcc; rw [hsub, ← hcc.1]
        · rename_i hcc; rw [if_neg hcc] at hi; exact hc i hi)
      refine ⟨s', by rw [mst_var (by omega) h2 hno]; exact m1, m2, fun y hy h0 => ?_⟩
      rcases List.mem_cons.1 hy with rfl | hy
      · have hg : (s.set (vr y) (subL sg t k)).getD (vr y) [] = L (vr y) := by rw [set_get, if_pos ⟨rfl, by rw [hl]; exact vr_lt h2 hx0⟩, hsub]
        rw [(mst_ext m1 hl' hr).2 (vr y) (by rw [hg]; omega), hg]
      · exact m3 y hy h0

def s0 : List (List Int) := List.replicate 24 []
theorem s0_get (i : Nat) : s0.getD i [] = [] := by
  unfold s0
  rw [List.getD_eq_getElem?_getD, List.getElem?_replicate]
  split <;> rfl
def matchO (sg p t : List Int) : Option (List (List Int)) := if (termOkB sg p && termOkB sg t) = true then mst sg t p 0 s0 else none
def instB (sg p t : List Int) : Bool := (matchO sg p t).isSome
theorem match_yes {sg p t : List Int} (h1 : termOkB sg p = true) (h2 : termOkB sg t = true) : matchO sg p t = mst sg t p 0 s0 := by unfold matchO; rw [if_pos (by rw [h1, h2]; rfl)]
theorem match_no {sg p t : List Int} (h : termOkB sg p = false ∨ termOkB sg t = false) : matchO sg p t = none := by
  unfold matchO
  rw [if_neg]
  rcases h with h | h <;> rw [h] <;> simp
theorem inst_no {sg p t : List Int} (h : termOkB sg p = false ∨ termOkB sg t = false) : instB sg p t = false := by unfold instB; rw [match_no h]; rfl
theorem inst_ok {sg p t : List Int} (h : instB sg p t = true) : termOkB sg p = true ∧ termOkB sg t = true := by
  cases h1 : termOkB sg p with
  | false => rw [inst_no (.inl h1)] at h; cases h
  | true =>
    cases h2 : termOkB sg t with
    | false => rw [inst_no (.inr h2)] at h; cases h
    | true => exact ⟨rfl, rfl⟩
def Turns (sg p t : List Int) (L : Nat → List Int) : Prop := fillL L p = t ∧ ∀ x ∈ p, x < 0 → scan sg 1 (L (vr x)) = some (L (vr x)).length
theorem match_turns {sg p t : List Int} {s' : List (List Int)} (h : matchO sg p t = some s') : s'.length = 24 ∧ Turns sg p t (fun i => s'.getD i []) := by
  have h12 : termOkB sg p = true ∧ termOkB sg t = true := inst_ok (by unfold instB; rw [h]; rfl)
  obtain ⟨h1, h2⟩ := h12
  rw [match_yes h1 h2] at h
  have hx : ∀ x ∈ p, -24 ≤ x := fun x hx => (term_mem h1 hx).1
  obtain ⟨⟨rest, e⟩, hv⟩ := mst_sound h2 h (by rfl) hx
  refine ⟨(mst_ext h (by rfl) hx).1, ?_, hv⟩
  rw [List.drop_zero] at e
  have hs := scan_fill (L := fun i => s'.getD i []) (term_parts h1).2.2 hv
  have hs2 := scan_append (r := rest) hs
  rw [← e, (term_parts h2).2.2] at hs2
  injection hs2 with hs2
  have hl := congrArg List.length e
  rw [List.length_append] at hl
  have hr : rest = [] := List.eq_nil_of_length_eq_zero (by omega)
  rw [e, hr, List.append_nil]
theorem turns_match {sg p t : List Int} {L : Nat → List Int} (h1 : termOkB sg p = true) (h2 : termOkB sg t = true) (h : Turns sg p t L) : ∃ s', matchO sg p t = some s' ∧ ∀ x ∈ p, x < 0 → s'.getD (vr x) [] = L (vr x) := by
  rw [match_yes h1 h2]
  obtain ⟨s', m1, _, m3⟩ := mst_full (sg := sg) (t := t) (L := L) (p := p) (k := 0) (s := s0) (rest := []) (by rw [List.drop_zero, List.append_nil, h.1]) (by rfl) (fun x hx => (term_mem h1 hx).1) h.2 (fun i hi => by rw [s0_get] at hi; exact absurd rfl hi)
  exact ⟨s', m1, m3⟩
theorem inst_iff {sg p t : List Int} (h1 : termOkB sg p = true) (h2 : termOkB sg t = true) : instB sg p t = true ↔ ∃ L, Turns sg p t L := by
  constructor
  · intro h
    unfold instB at h
    obtain ⟨s', hs⟩ := Option.isSome_iff_exists.1 h
    exact ⟨_, (match_turns hs).2⟩
  · rintro ⟨L, h⟩
    obtain ⟨s', hs, _⟩ := turns_match h1 h2 h
    unfold instB
    rw [hs]; rfl
end Go.Proofs.Ytpcnjcgglonifaa.matchMath
end

section
namespace Go.Proofs.Ytpcnjcgglonifaa.putMath
open sig term termOk termFacts endAt sub args depth termMath posMath

def putL (t : List Int) (a i : Nat) (u : List Int) : List Int := t.take a ++ (u ++ t.drop (a + i))
theorem scan_put {sg u : List Int} (hu : scan sg 1 u = some u.length) : ∀ {a q j i : Nat} {l : List Int}, scan sg q l = some j → a < j → scan sg 1 (l.drop a) = some i → i ≤ j - a ∧ scan sg q (putL l a i u) = some (j - i + u.length) := by
  intro a
  induction a with
  | zero =>
    intro q j i l h ha hi
    cases q with
    | zero => rw [scan_zero] at h; injection h; omega
    | succ q =>
      obtain ⟨i', _, s1, s2⟩ := scan_split (p := 1) (q := q) (by rw [Nat.add_comm]; exact h)
      rw [List.drop_zero] at hi
      rw [hi] at s1
      injection s1 with s1
      subst s1
      have hx := scan_cat hu s2
      refine ⟨by omega, ?_⟩
      unfold putL
      rw [List.take_zero, List.nil_append, Nat.zero_add, Nat.add_comm q 1, hx]
      congr 1
      omega
  | succ a ih =>
    intro q j i l h ha hi
    cases q with
    | zero => rw [scan_zero] at h; injection h; omega
    | succ q =>
      cases l with
      | nil => rw [scan_nil] at h; cases h
      | cons x l =>
        by_cases hx : ar sg x < 0
        · rw [scan_bad hx] at h; cases h
        · rw [scan_step hx] at h
          obtain ⟨j', hj', rfl⟩ := Option.map_eq_some_iff.1 h
          rw [List.drop_succ_cons] at hi
          obtain ⟨e1, e2⟩ := ih hj' (by omega) hi
          refine ⟨by omega, ?_⟩
          have e3 : putL (x :: l) (a + 1) i u = x :: putL l a i u := by
            unfold putL
            rw [List.take_succ_cons, show a + 1 + i = (a + i) + 1 by omega, List.drop_succ_cons]
            rfl
          rw [e3, scan_step hx, e2]
          simp only [Option.map_some]
          congr 1
          omega
section
variable {sg t u : List Int} {a : Nat}
theorem put_len (hok : termOkB sg t = true) (ha : a < t.length) : (putL t a (len1 sg t a) u).length = t.length - len1 sg t a + u.length := by
  have := term_at hok ha
  unfold putL
  simp only [List.length_append, List.length_take, List.length_drop]
  omega
theorem put_term (hok : termOkB sg t = true) (hu : termOkB sg u = true) (ha : a < t.length) (h60 : (putL t a (len1 sg t a) u).length ≤ 60) : termOkB sg (putL t a (len1 sg t a) u) = true := by
  obtain ⟨h1, h2, h3⟩ := term_parts hok
  refine term_mk h1 h60 ?_
  have := (scan_put (term_parts hu).2.2 h3 ha (term_at hok ha).1).2
  rw [this, put_len hok ha]
end
end Go.Proofs.Ytpcnjcgglonifaa.putMath
end

section
namespace Go.Proofs.Ytpcnjcgglonifaa.look
open Go.RowKit base ints marks app sym segs fillMath
set_option maxRecDepth 100000

theorem varTerm (i : Int) (w : World) (h0 : 0 ≤ i) (h1 : i ≤ 1000) :
    Calls Try.prog 126 #[.int .i64 i] w (AnsList w [-1 - i]) := by
  have F : AnsList w [-1 - i] (.returned (.slice (some ⟨w.heap.size, 0, none⟩) 1 1)) (w.alloc (.cells #[.int .i64 (-1 - i)] 2)) :=
    ⟨_, 1, 1, rfl, Own.of_row (Row.new _ _ _) rfl rfl (Nat.le_refl _) (by omega) (Nat.le_refl _) (fun j hj => by
      have e : j = 0 := by omega
      subst e
      rfl), (Below.refl _ _).alloc (Nat.le_refl _) _⟩
  have HF := Lib.hid F
  clear F
  go_enter Try.func126, Try.ntmps126
  go_wp2
  go_ret
  exact HF.out

def AnsLook (B : Nat) (w : World) (ys : List Int) (e : Ending) (w' : World) : Prop := ∃ A n c, e = .returned (.slice A n c) ∧ Seg w' w'.heap.size A n ys ∧ Cap A n c ∧ (∀ k, blk A = some k → k < B ∨ w.heap.size ≤ k) ∧ Below w.heap.size w w'
def Looks (g : Nat) (lb : Array Value) (w : World) (L : Nat → List Int) (N : Nat) : Prop :=
  ∀ (W : World) (i : Nat), Below w.heap.size w W → i < N → Calls Try.prog g (#[.int .i64 (i : Int)] ++ lb) W (AnsLook w.heap.size W (L i))
theorem Looks.next {g : Nat} {lb : Array Value} {w w' : World} {L : Nat → List Int} {N : Nat} (h : Looks g lb w L N) (hb : Below w.heap.size w w') : Looks g lb w' L N :=
  fun W i hW hi => (h W i (next_trans hb hW) hi).mono fun _ _ ⟨A, n, c, he, h1, h2, h3, h4⟩ => ⟨A, n, c, he, h1, h2, fun k hk => by have := h3 k hk; have := hb.size; omega, h4⟩
theorem own_cap {w : World} {base : Nat} {A : Option Addr} {n c : Nat} {xs : List Int} (h : Own w base (.slice A n c) xs) : Cap A n c := by
  have hl := Own.len h
  rcases own_form (n := n) (vs := xs.map (Value.int .i64)) (by rw [hl]; rw [hl] at h; exact h) with ⟨rfl, h1, rfl, _⟩ | ⟨g, cur, rfl, _, _, h1, h2, h3, _⟩
  · exact ⟨by omega, by omega, fun _ => rfl⟩
  · exact ⟨h1, h3, fun e => by cases e⟩
theorem look_new {w w' : World} {B : Nat} {ys : List Int} {A : Option Addr} {n c : Nat} (ho : Own w' w.heap.size (.slice A n c) ys) (hb : Below w.heap.size w w') : AnsLook B w ys (.returned (.slice A n c)) w' :=
  ⟨A, n, c, rfl, Own.seg ho, own_cap ho, fun k hk => .inr (World.ownsRow.lt ho k (by cases A with | none => cases hk | some a => exact hk)).1, hb⟩

def HeadFill (w : World) (m : Nat) (t : List Int) (L : Nat → List Int) (out i : Value) (wr : World) : Prop :=
  ∃ (k : Nat) (O : Option Addr) (on oc : Nat), k ≤ m ∧ i = .int .i64 k ∧ out = .slice O on oc ∧ Own wr w.heap.size (.slice O on oc) (fillL L (t.take k)) ∧ Below w.heap.size w wr
theorem fill_bound {L : Nat → List Int} {t : List Int} {m k : Nat} (hM : ∀ i, (L i).length ≤ 4096) (hm : t.length = m) (h60 : m ≤ 60) : (fillL L (t.take k)).length ≤ 245760 := by
  have h := fill_len (M := 4096) (by omega) hM (t.take k)
  have h2 : (t.take k).length ≤ 60 := by simp; omega
  have h3 : (t.take k).length * 4096 ≤ 60 * 4096 := Nat.mul_le_mul_right _ h2
  omega

set_option maxHeartbeats 2000000 in
theorem fill (g : Nat) (lb : Array Value) (eg : ∀ args w, (callFunc g args).run Try.prog w = .ok (.enter g args) w) (A : Option Addr) (m c : Nat) (t : List Int) (L : Nat → List Int) (w : World)
    (hL : Looks g lb w L 24) (h : Seg w w.heap.size A m t) (hm : m ≤ 60) (hv : ∀ x ∈ t, -24 ≤ x) (hM : ∀ i, (L i).length ≤ 4096) :
    Calls Try.prog 109 #[.func (.func g) #[] lb, .slice A m c] w (AnsList w (fillL L t)) := by
  have HL := Lib.hid h.1
  have HV := Lib.hid hv
  have HM := Lib.hid hM
  have HK := Lib.hid hL
  have S0 : HeadFill w m t L (.slice none 0 0) (.int .i64 0) w := ⟨0, _, _, _, Nat.zero_le _, rfl, rfl, by simpa [fillL] using Own.nil w w.heap.size, Below.refl _ _⟩
  have HS0 := Lib.hid S0
  clear S0 hv hM hL
  go_enter Try.func109, Try.ntmps109
  go_wp2
  go_loopw [5, 10] (fun out i wr => HeadFill w m t L out i wr) (fun _ i _ => m - (intOf i).toNat)
  case atStart => exact HS0.out
  case round =>
    obtain ⟨k, O, on, oc, hk, rfl, rfl, ho, hb⟩ := hrel
    clear HS0
    have hon : on ≤ 245760 := by rw [Own.len ho]; exact fill_bound HM.out HL.out hm
    by_cases hlt : k < m
    · obtain ⟨b, off, x, rfl, hbb, hx, ex⟩ := h.spot hlt
      have hx1 : wr.cell? ⟨b, off + k, none⟩ = some (.int .i64 x) := (hb.cell (p := ⟨b, off + k, none⟩) hbb).trans hx
      have hmem : x ∈ t := by
        have hkl : k < t.length := by rw [HL.out]; exact hlt
        have := ex.out
        rw [← this]
        simp [List.getD, hkl]
      have hx24 : -24 ≤ x := HV.out x hmem
      have E := Lib.hid (fill_take (L := L) (t := t) (k := k) (by rw [HL.out]; exact hlt) ex.out)
      have hsz := hb.size
      clear hmem hx h ex
      by_cases hpos : 0 ≤ x
      · have R := Lib.hid (rep_sym (L := L) hpos)
        go_wp2_with (at_builtin; refine app1 rfl _ _ rfl w.heap.size O on oc (fillL L (t.take k)) rfl (Own.alloc ho _) wr.heap.size 1 x rfl ((Row.new _ _ _).cell 0) (by omega) (by simp; omega) ?_; intro O' oc' w2 ho2 b2)
        have S : HeadFill w m t L (.slice O' (on + 1) oc') (.int .i64 ((k : Int) + 1)) w2 := ⟨k + 1, O', on + 1, oc', hlt, by simp, rfl, by rw [E.out, R.out]; exact ho2, (hb.alloc hsz _).trans b2⟩
        replace S := Lib.hid S
        clear ho2 b2 ho hb R E
        go_wp2
        go_roundw
        case rel => exact S.out
        case measure => simp [intOf]; omega
      · have hneg : x < 0 := by omega
        have R := Lib.hid (rep_var (L := L) hneg)
        have hcall := HK.out wr (-1 - x).toNat hb (by omega)
        rw [show (((-1 - x).toNat : Nat) : Int) = -1 - x by omega] at hcall
        have hLM : (L (-1 - x).toNat).length ≤ 4096 := HM.out _
        generalize hys : L (-1 - x).toNat = ys at hcall R hLM
        replace hcall := Lib.hid hcall
        clear hys
        go_wp2_with (first
          | (go_at_fn g; refine hcall.out.mono ?_; rintro e w1 ⟨A', n', c', rfl, s', cap', -, bb⟩; have hn' : n' ≤ 4096 := (by rw [← s'.1]; exact hLM); have ho1 := ho.next bb; have hb1 := hb.trans (bb.mono hb.size))
          | (at_builtin; refine appAll rfl _ _ rfl w.heap.size O on oc (fillL L (t.take k)) rfl ho1 A' n' c' w1.heap.size ys rfl s' cap'.2.2 (by omega) (by omega) hb1.size ?_; intro O' oc' w2 ho2 b2))
        have S : HeadFill w m t L (.slice O' (on + n') oc') (.int .i64 ((k : Int) + 1)) w2 := ⟨k + 1, O', on + n', oc', hlt, by simp, rfl, by rw [E.out, R.out]; exact ho2, hb1.trans b2⟩
        replace S := Lib.hid S
        clear ho2 b2 ho hb R E ho1 hb1 s' cap' bb hcall
        go_wp2
        go_roundw
        case rel => exact S.out
        case measure => simp [intOf]; omega
    · have F : AnsList w (fillL L t) (.returned (.slice O on oc)) wr := by
        rw [List.take_of_length_le (by rw [HL.out]; omega)] at ho
        exact ⟨O, on, oc, rfl, ho, hb⟩
      have HF := Lib.hid F
      clear F ho hb h
      go_wp2
      go_ret
      exact HF.out
end Go.Proofs.Ytpcnjcgglonifaa.look
end

section
namespace Go.Proofs.Ytpcnjcgglonifaa.substOk
open Go.RowKit base ints sig term termOk marks app sym sub segs segsHelp termFacts varsMath varsOf fillMath Go.Proofs.Ytpcnjcgglonifaa.look
set_option maxRecDepth 100000

def goodB (sg t : List Int) : Bool := decide (t.length = 0) || termOkB sg t
def HeadSO (w : World) (A : Option Addr) (n c : Nat) (S : Option Addr) (m c' : Nat) (sg : List Int) (ss : List (List Int)) (i : Value) (wr : World) : Prop :=
  ∃ k : Nat, k ≤ m ∧ i = .int .i64 k ∧ (∀ j, j < k → goodB sg (ss.getD j []) = true) ∧ Row wr w.heap.size 32 #[.slice A n c] ∧ Row wr (w.heap.size + 1) 134 #[.slice S m c'] ∧ Below w.heap.size w wr
theorem headSO_step {w wr : World} {A : Option Addr} {n c : Nat} {S : Option Addr} {m c' : Nat} {sg : List Int} {ss : List (List Int)} {k : Nat} (hk : k < m) (hlow : ∀ j, j < k → goodB sg (ss.getD j []) = true) (hg : goodB sg (ss.getD k []) = true)
    (r1 : Row wr w.heap.size 32 #[.slice A n c]) (r2 : Row wr (w.heap.size + 1) 134 #[.slice S m c']) (hb : Below w.heap.size w wr) : HeadSO w A n c S m c' sg ss (.int .i64 ((k : Int) + 1)) wr :=
  ⟨k + 1, hk, by simp, fun j hj => by
    by_cases e : j = k
    · subst e; exact hg
    · exact hlow j (by omega), r1, r2, hb⟩

end Go.Proofs.Ytpcnjcgglonifaa.substOk
end

section
namespace Go.Proofs.Ytpcnjcgglonifaa.gives
open Go.RowKit base ints sig term termOk marks app sym sub segs segsHelp termFacts varsMath varsOf fillMath Go.Proofs.Ytpcnjcgglonifaa.look substOk
set_option maxRecDepth 100000

def givesL (ss : List (List Int)) (i : Nat) : List Int := if (ss.getD i []).length = 0 then vt i else ss.getD i []
theorem gives_var {ss : List (List Int)} {i : Nat} (h : (ss.getD i []).length = 0) : givesL ss i = vt i := by unfold givesL; rw [if_pos h]
theorem gives_term {ss : List (List Int)} {i : Nat} (h : ¬ (ss.getD i []).length = 0) : givesL ss i = ss.getD i [] := by unfold givesL; rw [if_neg h]
theorem gives_out {ss : List (List Int)} {i : Nat} (h : ¬ i < ss.length) : givesL ss i = vt i := gives_var (by simp [List.getD, h])
theorem gives_pos (ss : List (List Int)) (i : Nat) : 1 ≤ (givesL ss i).length := by
  unfold givesL
  split
  · simp [vt]
  · omega

set_option maxHeartbeats 2000000 in
theorem l2Gives (S : Option Addr) (m c : Nat) (ss : List (List Int)) (i : Nat) (w : World) (h : Segs w w.heap.size S m ss) (ht : tot ss ≤ 1048576) (hi : i ≤ 1048576) :
    Calls Try.prog 114 #[.agg #[.slice S m c], .int .i64 (i : Int)] w (AnsList w (givesL ss i)) := by
  have hm : m ≤ 1048576 := tot_len h.1 ht
  have HT := Lib.hid (tot_each ht)
  have HL := Lib.hid h.1
  clear ht
  have bel : Below w.heap.size w (w.alloc (.cells #[.slice S m c] 134)) := (Below.refl _ _).alloc (Nat.le_refl _) _
  have i0 : (0 : Int) ≤ (i : Int) := by omega
  have var : ∀ (hv : givesL ss i = vt i), AnsList w (givesL ss i) (.returned (.slice (some ⟨w.heap.size + 1, 0, none⟩) 1 1)) ((w.alloc (.cells #[.slice S m c] 134)).alloc (.cells #[.int .i64 (-1 - (i : Int))] 2)) := fun hv => by
    refine ⟨_, 1, 1, rfl, ?_, bel.alloc (by simp) _⟩
    rw [hv]
    have := Own.of_row (base := w.heap.size) (n := 1) (c := 1) (xs := vt i) (Row.new (w.alloc (.cells #[.slice S m c] 134)) 2 #[.int .i64 (-1 - (i : Int))]) rfl rfl (Nat.le_refl _) (by omega) (by simp) (fun j hj => by
      have e : j = 0 := by omega
      subst e
      rfl)
    simpa using this
  have VAR := Lib.hid var
  clear var
  by_cases hlt : i < m
  · obtain ⟨b, off, A', n', cc, rfl, hbB, hx, hseg, hcap⟩ := h.spot hlt
    have hx1 : (w.alloc (.cells #[.slice (some ⟨b, off, none⟩) m c] 134)).cell? ⟨b, off + i, none⟩ = some (.slice A' n' cc) := (bel.cell (p := ⟨b, off + i, none⟩) hbB).trans hx
    by_cases hz : n' = 0
    · subst hz
      have F := Lib.hid (VAR.out (gives_var hseg.1))
      clear h hseg hcap hx bel VAR
      go_enter Try.func114, Try.ntmps114
      go_wp2
      go_ret
      exact F.out
    · have hpos : 0 < n' := by omega
      have E := Lib.hid (gives_term (ss := ss) (i := i) (by rw [hseg.1]; exact hz))
      have L := Lib.hid (copyInts A' n' cc _ _ ((hseg.below bel).more bel.size) hcap.2.2 (by rw [← hseg.1]; exact HT.out i))
      clear h hseg hcap hx VAR
      go_enter Try.func114, Try.ntmps114
      go_wp2_with fail
      refine L.out.mono ?_
      rintro e w1 ⟨D, dn, dc, rfl, o1, b1⟩
      have F : AnsList w (givesL ss i) (.returned (.slice D dn dc)) w1 := ⟨D, dn, dc, rfl, by rw [E.out]; exact Own.lower o1 bel.size, next_trans bel b1⟩
      have HF := Lib.hid F
      clear F o1 b1 bel L
      go_wp2
      go_ret
      exact HF.out
  · have hge : ¬ (i : Int) < (m : Int) := by omega
    have F := Lib.hid (VAR.out (gives_out (by rw [HL.out]; exact hlt)))
    clear h bel VAR
    go_enter Try.func114, Try.ntmps114
    go_wp2
    go_ret
    exact F.out

theorem lookupIn (S : Option Addr) (m c : Nat) (w : World) :
    Calls Try.prog 121 #[.agg #[.slice S m c]] w fun e w' => e = .returned (.func (.func 125) #[] #[.pointer (some ⟨w.heap.size, 0, none⟩)]) ∧ w' = w.alloc (.cells #[.slice S m c] 134) := by
  have hmf : ∀ (fn : Fn) (first cap : Array Value) (w : World), (Instr.makeFunc fn first cap).run Try.prog w = .ok (.func fn first cap) w := fun _ _ _ _ => rfl
  go_enter Try.func121, Try.ntmps121
  go_wp2
  go_ret
  exact ⟨rfl, rfl⟩

set_option maxHeartbeats 2000000 in
theorem lookSubstC (B : Nat) (S : Option Addr) (m c : Nat) (ss : List (List Int)) (w : World) (hB : B < w.heap.size) (hc : w.cell? ⟨B, 0, none⟩ = some (.slice S m c)) (h : Segs w w.heap.size S m ss) (hm : m ≤ 1048576) :
    Looks 125 #[.pointer (some ⟨B, 0, none⟩)] w (givesL ss) 24 := by
  intro W i hb hi
  have cB : W.cell? ⟨B, 0, none⟩ = some (.slice S m c) := (hb.cell (p := ⟨B, 0, none⟩) hB).trans hc
  have h1 := h.below hb
  have HL := Lib.hid h.1
  have i0 : (0 : Int) ≤ (i : Int) := by omega
  have LV := Lib.hid (varTerm (i : Int) W (by omega) (by omega))
  have hws := hb.size
  clear hB hc h hb
  show Calls Try.prog 125 #[.int .i64 (i : Int), .pointer (some ⟨B, 0, none⟩)] W _
  by_cases hlt : i < m
  · obtain ⟨b, off, A', n', cc, rfl, hbB, hx, hseg0, hcap⟩ := h1.spot hlt
    have hseg := hseg0.more hws
    by_cases hz : n' = 0
    · subst hz
      have E := Lib.hid (gives_var (ss := ss) (i := i) hseg.1)
      clear h1 hseg hseg0 hcap
      go_enter Try.func125, Try.ntmps125
      go_wp2_with fail
      refine LV.out.mono ?_
      rintro e w1 ⟨D, dn, dc, rfl, o1, b1⟩
      have F : AnsLook w.heap.size W (givesL ss i) (.returned (.slice D dn dc)) w1 := by rw [E.out]; exact look_new o1 b1
      have HF := Lib.hid F
      clear F o1 b1 LV
      go_wp2
      go_ret
      exact HF.out
    · have hpos : 0 < n' := by omega
      have F : AnsLook w.heap.size W (givesL ss i) (.returned (.slice A' n' cc)) W := ⟨A', n', cc, rfl, by rw [gives_term (by rw [hseg.1]; exact hz)]; exact hseg, hcap, fun k hk => .inl (by obtain ⟨b2, off2, e2, hb2, _⟩ := hseg0.2 hpos; rw [e2] at hk; have : b2 = k := Option.some.inj hk; omega), Below.refl _ _⟩
      have HF := Lib.hid F
      clear F h1 hseg hseg0 hcap LV
      go_enter Try.func125, Try.ntmps125
      go_wp2
      go_ret
      exact HF.out
  · have hge : ¬ (i : Int) < (m : Int) := by omega
    have E := Lib.hid (gives_out (ss := ss) (i := i) (by rw [HL.out]; exact hlt))
    clear h1
    go_enter Try.func125, Try.ntmps125
    go_wp2_with fail
    refine LV.out.mono ?_
    rintro e w1 ⟨D, dn, dc, rfl, o1, b1⟩
    have F : AnsLook w.heap.size W (givesL ss i) (.returned (.slice D dn dc)) w1 := by rw [E.out]; exact look_new o1 b1
    have HF := Lib.hid F
    clear F o1 b1 LV
    go_wp2
    go_ret
    exact HF.out

theorem lookSubst (B : Nat) (S : Option Addr) (m c : Nat) (ss : List (List Int)) (w : World) (hr : Row w B 134 #[.slice S m c]) (h : Segs w w.heap.size S m ss) (hm : m ≤ 1048576) :
    Looks 125 #[.pointer (some ⟨B, 0, none⟩)] w (givesL ss) 24 := lookSubstC B S m c ss w hr.lt (hr.cell 0) h hm

theorem tooLong (A : Option Addr) (n c : Nat) (w : World) (hn : n ≤ 9223372036854775807) :
    Calls Try.prog 120 #[.slice A n c] w fun e w' => w = w' ∧ e = .returned (.bool (decide (60 < n))) := by
  have E : decide ((60 : Int) < (n : Int)) = decide (60 < n) := decide_eq_decide.2 (by omega)
  rw [← E]
  have HE := Lib.hid E
  clear E
  generalize hz : decide ((60 : Int) < (n : Int)) = z
  have HZ := Lib.hid hz
  clear hz
  go_enter Try.func120, Try.ntmps120
  go_wp2
  go_ret
  exact ⟨rfl, by rw [← HZ.out]; rfl⟩
end Go.Proofs.Ytpcnjcgglonifaa.gives
end

section
namespace Go.Proofs.Ytpcnjcgglonifaa.stepMath
open sig term termOk termFacts fillMath gives endAt sub matchMath termMath posMath putMath ruleMath

def putAt (sg t u : List Int) (a : Nat) : List Int := putL t a (len1 sg t a) u
def stepO (sg : List Int) (x : Rl) (t : List Int) (a : Nat) : Option (List Int) :=
  match mst sg (subL sg t a) x.1 0 s0 with
  | none => none
  | some ss => if (fillL (givesL ss) x.2).length ≤ 60 ∧ (putAt sg t (fillL (givesL ss) x.2) a).length ≤ 60 then some (putAt sg t (fillL (givesL ss) x.2) a) else none
def redB (sg : List Int) (x : Rl) (t : List Int) (a : Nat) : Bool := (mst sg (subL sg t a) x.1 0 s0).isSome

theorem sub_ok {sg t : List Int} (h : termOkB sg t = true) {a : Nat} (ha : a < t.length) : termOkB sg (subL sg t a) = true := by
  obtain ⟨h1, h2, h3⟩ := term_parts h
  obtain ⟨e1, e2, e3⟩ := sub_len1 h ha
  have h4 := term_at h ha
  exact term_mk h1 (by omega) e3
theorem gives_of {sg l s : List Int} {ss : List (List Int)} (h1 : termOkB sg l = true) (h2 : termOkB sg s = true) (h : mst sg s l 0 s0 = some ss) : Turns sg l s (givesL ss) ∧ ∀ x ∈ l, x < 0 → givesL ss (vr x) = ss.getD (vr x) [] := by
  have hm : matchO sg l s = some ss := by rw [match_yes h1 h2]; exact h
  obtain ⟨e, t1, t2⟩ := match_turns hm
  have hg : ∀ x ∈ l, x < 0 → givesL ss (vr x) = ss.getD (vr x) [] := fun x hx h0 => by
    have this : scan sg 1 (ss.getD (vr x) []) = some (ss.getD (vr x) []).length := t2 x hx h0
    unfold givesL
    rw [if_neg ?_]
    intro e0
    have e1 : ss.getD (vr x) [] = [] := List.length_eq_zero_iff.1 e0
    rw [e1] at this
    exact absurd this (by simp [scan])
  refine ⟨⟨?_, fun x hx h0 => by rw [hg x hx h0]; exact t2 x hx h0⟩, hg⟩
  rw [fill_ext (L' := fun i => ss.getD i []) (fun x hx h0 => hg x hx h0)]
  exact t1
theorem step_iff {sg : List Int} {x : Rl} {t v : List Int} {a : Nat} (hx : ruleOkB sg x = true) (ht : termOkB sg t = true) (ha : a < t.length) :
    stepO sg x t a = some v ↔ ∃ L, Turns sg x.1 (subL sg t a) L ∧ v = putAt sg t (fillL L x.2) a ∧ (fillL L x.2).length ≤ 60 ∧ v.length ≤ 60 := by
  obtain ⟨h1, h2, h3, h4⟩ := rule_parts hx
  have hs := sub_ok ht ha
  constructor
  · intro h
    unfold stepO at h
    cases hm : mst sg (subL sg t a) x.1 0 s0 with
    | none => rw [hm] at h; cases h
    | some ss =>
      rw [hm] at h
      dsimp only at h
      split at h
      · rename_i hf
        injection h with h
        subst h
        exact ⟨_, (gives_of h1 hs hm).1, rfl, hf.1, hf.2⟩
      · cases h
  · rintro ⟨L, hL, rfl, hf, hv⟩
    obtain ⟨ss, hm, hg⟩ := turns_match h1 hs hL
    rw [match_yes h1 hs] at hm
    have g := gives_of h1 hs hm
    have e : fillL (givesL ss) x.2 = fillL L x.2 := fill_ext (fun y hy h0 => by
      have hy1 := h4 y hy h0
      show givesL ss (vr y) = L (vr y)
      rw [g.2 y hy1 h0]
      exact hg y hy1 h0)
    unfold stepO
    rw [hm]
    dsimp only
    rw [e, if_pos ⟨hf, hv⟩]
theorem step_ok {sg : List Int} {x : Rl} {t v : List Int} {a : Nat} (hx : ruleOkB sg x = true) (ht : termOkB sg t = true) (ha : a < t.length) (h : stepO sg x t a = some v) : termOkB sg v = true := by
  obtain ⟨L, hL, rfl, hf, hv⟩ := (step_iff hx ht ha).1 h
  obtain ⟨h1, h2, h3, h4⟩ := rule_parts hx
  obtain ⟨s1, s2, s3⟩ := term_parts ht
  exact put_term ht (term_mk s1 hf (scan_fill (term_parts h2).2.2 (fun y hy h0 => hL.2 y (h4 y hy h0) h0))) ha hv
end Go.Proofs.Ytpcnjcgglonifaa.stepMath
end

section
namespace Go.Proofs.Ytpcnjcgglonifaa.walkMath
open sig term termOk termFacts fillMath gives sub matchMath putMath ruleMath stepMath

abbrev St := Int × Int × List Int
abbrev Wk := List Int × List St
def inB (x : Int) (n : Nat) : Bool := decide (0 ≤ x ∧ x < n)
def rightB (sg : List Int) (rs : List Rl) (t : List Int) : Bool := sysOkB sg rs && termOkB sg t
def thereR (sg : List Int) (rs : List Rl) (t : List Int) (a r : Int) : Bool := rightB sg rs t && (inB a t.length && inB r rs.length)
def rl (rs : List Rl) (r : Int) : Rl := rs.getD r.toNat ([], [])
def stepAtO (sg : List Int) (rs : List Rl) (t : List Int) (a r : Int) : Option (List Int) := if thereR sg rs t a r = true then stepO sg (rl rs r) t a.toNat else none
def stepsL (sg : List Int) (rs : List Rl) (t : List Int) : List St := (List.range t.length).flatMap fun a => (List.range rs.length).filterMap fun r => (stepO sg (rs.getD r ([], [])) t a).map fun v => ((a : Int), (r : Int), v)
theorem there_parts {sg : List Int} {rs : List Rl} {t : List Int} {a r : Int} (h : thereR sg rs t a r = true) : sysOkB sg rs = true ∧ termOkB sg t = true ∧ (0 ≤ a ∧ a < t.length) ∧ (0 ≤ r ∧ r < rs.length) := by
  unfold thereR rightB inB at h
  simp only [Bool.and_eq_true, decide_eq_true_eq] at h
  exact ⟨h.1.1, h.1.2, h.2.1, h.2.2⟩
theorem there_mk {sg : List Int} {rs : List Rl} {t : List Int} {a r : Int} (h1 : sysOkB sg rs = true) (h2 : termOkB sg t = true) (h3 : 0 ≤ a ∧ a < t.length) (h4 : 0 ≤ r ∧ r < rs.length) : thereR sg rs t a r = true := by
  unfold thereR rightB inB
  rw [h1, h2, decide_eq_true h3, decide_eq_true h4]
  rfl
theorem rl_ok {sg : List Int} {rs : List Rl} {r : Int} (h : sysOkB sg rs = true) (hr : 0 ≤ r ∧ r < rs.length) : ruleOkB sg (rl rs r) = true := (sys_parts h).2.2 _ (rl_mem (by omega))
theorem stepAt_parts {sg : List Int} {rs : List Rl} {t v : List Int} {a r : Int} (h : stepAtO sg rs t a r = some v) : thereR sg rs t a r = true ∧ stepO sg (rl rs r) t a.toNat = some v := by
  unfold stepAtO at h
  split at h
  · exact ⟨by assumption, h⟩
  · cases h
theorem stepAt_ok {sg : List Int} {rs : List Rl} {t v : List Int} {a r : Int} (h : stepAtO sg rs t a r = some v) : termOkB sg v = true := by
  obtain ⟨h1, h2⟩ := stepAt_parts h
  obtain ⟨q1, q2, q3, q4⟩ := there_parts h1
  exact step_ok (rl_ok q1 q4) q2 (by omega) h2
theorem steps_mem {sg : List Int} {rs : List Rl} {t : List Int} {s : St} : s ∈ stepsL sg rs t ↔ ∃ a r : Nat, a < t.length ∧ r < rs.length ∧ s.1 = (a : Int) ∧ s.2.1 = (r : Int) ∧ stepO sg (rs.getD r ([], [])) t a = some s.2.2 := by
  unfold stepsL
  rw [List.mem_flatMap]
  constructor
  · rintro ⟨a, ha, h⟩
    obtain ⟨r, hr, h⟩ := List.mem_filterMap.1 h
    obtain ⟨v, hv, rfl⟩ := Option.map_eq_some_iff.1 h
    exact ⟨a, r, List.mem_range.1 ha, List.mem_range.1 hr, rfl, rfl, hv⟩
  · rintro ⟨a, r, ha, hr, e1, e2, h⟩
    refine ⟨a, List.mem_range.2 ha, List.mem_filterMap.2 ⟨r, List.mem_range.2 hr, ?_⟩⟩
    rw [h, Option.map_some, ← e1, ← e2]
theorem steps_at {sg : List Int} {rs : List Rl} {t : List Int} {s : St} (h1 : sysOkB sg rs = true) (h2 : termOkB sg t = true) (h : s ∈ stepsL sg rs t) : stepAtO sg rs t s.1 s.2.1 = some s.2.2 := by
  obtain ⟨a, r, ha, hr, e1, e2, e3⟩ := steps_mem.1 h
  unfold stepAtO
  rw [if_pos (there_mk h1 h2 (by omega) (by omega)), e1, e2, Int.toNat_natCast]
  unfold rl
  rw [Int.toNat_natCast]
  exact e3
end Go.Proofs.Ytpcnjcgglonifaa.walkMath
end

section
namespace Go.Proofs.Ytpcnjcgglonifaa.stepsMath
open sig term termOk termFacts ruleMath stepMath walkMath

def stF (sg : List Int) (rs : List Rl) (t : List Int) (a r : Nat) : Option St := (stepO sg (rs.getD r ([], [])) t a).map fun v => ((a : Int), (r : Int), v)
def stN (sg : List Int) (rs : List Rl) (t : List Int) (i k : Nat) : List St := (List.range i).flatMap (fun a => (List.range rs.length).filterMap (stF sg rs t a)) ++ (List.range k).filterMap (stF sg rs t i)
section
variable {sg : List Int} {rs : List Rl} {t : List Int} {i k : Nat}
theorem st_zero : stN sg rs t 0 0 = [] := rfl
theorem st_all : stN sg rs t t.length 0 = stepsL sg rs t := by unfold stN; rw [List.range_zero, List.filterMap_nil, List.append_nil]; rfl
theorem st_row : stN sg rs t i rs.length = stN sg rs t (i + 1) 0 := by
  unfold stN
  rw [List.range_zero, List.filterMap_nil, List.append_nil, List.range_succ, List.flatMap_append]
  simp
theorem st_some {v : List Int} (h : stepO sg (rs.getD k ([], [])) t i = some v) : stN sg rs t i (k + 1) = stN sg rs t i k ++ [((i : Int), (k : Int), v)] := by
  unfold stN
  rw [List.range_succ, List.filterMap_append, ← List.append_assoc]
  have : stF sg rs t i k = some ((i : Int), (k : Int), v) := by unfold stF; rw [h]; rfl
  simp [this]
theorem st_none (h : stepO sg (rs.getD k ([], [])) t i = none) : stN sg rs t i (k + 1) = stN sg rs t i k := by
  unfold stN
  rw [List.range_succ, List.filterMap_append]
  have : stF sg rs t i k = none := by unfold stF; rw [h]; rfl
  simp [this]
theorem st_len : (stN sg rs t i k).length ≤ i * rs.length + k := by
  unfold stN
  rw [List.length_append]
  have h1 : ∀ n : Nat, ∀ a, ((List.range n).filterMap (stF sg rs t a)).length ≤ n := fun n a => by
    have := List.length_filterMap_le (stF sg rs t a) (List.range n)
    rwa [List.length_range] at this
  have h2 : ∀ i : Nat, ((List.range i).flatMap (fun a => (List.range rs.length).filterMap (stF sg rs t a))).length ≤ i * rs.length := fun i => by
    induction i with
    | zero => simp
    | succ i ih =>
      rw [List.range_succ, List.flatMap_append, List.length_append, Nat.add_mul]
      have := h1 rs.length i
      simp only [List.flatMap_cons, List.flatMap_nil, List.append_nil]
      omega
  have := h1 k i
  have := h2 i
  omega
end
def rdN (sg : List Int) (rs : List Rl) (t : List Int) (i k : Nat) : Nat := ((List.range i).map fun a => rs.countP fun x => redB sg x t a).sum + (rs.take k).countP fun x => redB sg x t i
section
variable {sg : List Int} {rs : List Rl} {t : List Int} {i k : Nat}
theorem rd_zero : rdN sg rs t 0 0 = 0 := rfl
theorem rd_row : rdN sg rs t i rs.length = rdN sg rs t (i + 1) 0 := by
  unfold rdN
  rw [List.take_of_length_le (Nat.le_refl _), List.range_succ, List.map_append, List.sum_append]
  simp
theorem rd_step (h : k < rs.length) : rdN sg rs t i (k + 1) = rdN sg rs t i k + if redB sg (rs.getD k ([], [])) t i = true then 1 else 0 := by
  unfold rdN
  rw [List.take_succ_eq_append_getElem h, List.countP_append]
  have : rs.getD k ([], []) = rs[k] := by simp [List.getD, h]
  rw [this, List.countP_cons, List.countP_nil]
  omega
theorem rd_le : rdN sg rs t i k ≤ i * rs.length + k := by
  unfold rdN
  have h1 : (rs.take k).countP (fun x => redB sg x t i) ≤ k := Nat.le_trans (List.countP_le_length) (by rw [List.length_take]; omega)
  have h2 : ∀ i : Nat, ((List.range i).map fun a => rs.countP fun x => redB sg x t a).sum ≤ i * rs.length := fun i => by
    induction i with
    | zero => simp
    | succ i ih =>
      rw [List.range_succ, List.map_append, List.sum_append, Nat.add_mul]
      have : rs.countP (fun x => redB sg x t i) ≤ rs.length := List.countP_le_length
      simp only [List.map_cons, List.map_nil, List.sum_cons, List.sum_nil]
      omega
  have := h2 i
  omega
end
end Go.Proofs.Ytpcnjcgglonifaa.stepsMath
end

section
namespace Go.Proofs.Ytpcnjcgglonifaa.orderMath
open sig term termOk termFacts ruleMath stepMath walkMath stepsMath

section
variable {sg : List Int} {rs : List Rl} {t : List Int}
end
end Go.Proofs.Ytpcnjcgglonifaa.orderMath
end

section
namespace Go.Proofs.Ytpcnjcgglonifaa.orderMath
open sig term termOk termFacts ruleMath stepMath walkMath stepsMath

section
variable {E : Int → Int} {l : List Int}
end
section
variable {sg : List Int} {rs : List Rl} {t : List Int}
end
section
variable {sg : List Int} {rs : List Rl} {s : Int} {F i : Nat} {t u v : List Int} {L : List St}
end
section
variable {sg : List Int} {rs : List Rl} {t : List Int}
end
end Go.Proofs.Ytpcnjcgglonifaa.orderMath
end
