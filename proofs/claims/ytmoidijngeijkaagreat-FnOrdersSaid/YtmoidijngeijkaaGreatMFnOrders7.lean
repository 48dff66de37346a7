/-
  MERGED: my texts OwnL, StepSpecB, ShelfC, SortedC, OrderMath, StepSpecC, OrderSpec, ByMath, OrderLaw, OrderSpecB, PickSpec, WalkSpec, WalkSpecB, WalkSpecC, one behind the other, as they are. By an AI agent.
-/
import Derived.Test.YtmoidijngeijkaaGreatMFnOrders6
import Derived.Shelf.SlGeneric
import Derived.Ground.SlgnProg
import Derived.Shelf.SlicesG.CompactI
import Derived.Shelf.SlicesG.Reverse
import Derived.Test.YtmoidijngeijkaaGreatProg
import Derived.Deep.QuietTactic
import Derived.BigQuiet
namespace Go.Proofs.YtmoidijngeijkaaGreat
section
namespace ownL
open Go.RowKit base ints sig cursor marks app appAt sym segs shape drawX
set_option maxRecDepth 100000
theorem Ow.one {w : World} : ∀ {s : Sh} {cs : List Value} {d : Dat s} {F : List Nat}, Ow w s cs d F → ∀ u ∈ cs, u.oneCell' = true
 | .num, _, _, _, h, u, hu => by have h : _ = _ ∧ _ := h; rw [h.1] at hu; rw [List.mem_singleton.1 hu]; rfl
 | .bit, _, _, _, h, u, hu => by have h : _ = _ ∧ _ := h; rw [h.1] at hu; rw [List.mem_singleton.1 hu]; rfl
 | .row _ _, _, _, _, h, u, hu => by obtain ⟨A, n, c, e, _⟩ := h; rw [e] at hu; rw [List.mem_singleton.1 hu]; rfl
 | .cat a b, _, _, _, h, u, hu => by
  obtain ⟨ca, cb, Fa, Fb, e, _, h1, h2⟩ := h
  rw [e] at hu
  rcases List.mem_append.1 hu with hu | hu
  ·exact Ow.one h1 u hu
  ·exact Ow.one h2 u hu
def OwnL (w : World) (lo hi : Nat) (e : TypeId) (s : Sh) (A : Option Addr) (n c : Nat) (D : List (Dat s)) : Prop :=
 D.length = n ∧ (∀ k, blk A = some k → k < hi) ∧ ∃ (vs : List Value) (G : Nat → List Nat), w.ownsRow lo e (nc s) (.slice A n c) n vs ∧ (A = none → c = 0) ∧ ((List.range n).flatMap G).Nodup ∧
  ∀ j, j < n → Ow w s (cellsOf (nc s) vs j) (D.getD j (dft s)) (G j) ∧ ∀ q ∈ G j, lo ≤ q ∧ q < hi ∧ some q ≠ blk A
section
variable {w w' : World} {lo hi n c : Nat} {e : TypeId} {s : Sh} {A : Option Addr} {D : List (Dat s)}
theorem OwnL.nil (w : World) (lo hi : Nat) (e : TypeId) (s : Sh) : OwnL w lo hi e s none 0 0 [] := ⟨rfl, (fun k hk => by cases hk), [], fun _ => [], ⟨by simp, .inl ⟨rfl, rfl⟩⟩, fun _ => rfl, by simp, fun j hj => absurd hj (Nat.not_lt_zero _)⟩
theorem OwnL.keep (h : OwnL w lo hi e s A n c D) (hk : ∀ k, lo ≤ k → k < hi → k < w.heap.size → w'.heap[k]? = w.heap[k]?) (hs : w.heap.size ≤ w'.heap.size) : OwnL w' lo hi e s A n c D := by
 obtain ⟨h1, h2, vs, G, h3, h4, h5, h6⟩ := h
 refine ⟨h1, h2, vs, G, ?_, h4, h5, fun j hj => ⟨(h6 j hj).1.keep fun q hq => ?_, (h6 j hj).2⟩⟩
 ·refine ⟨h3.1, ?_⟩
  rcases h3.2 with q | ⟨g, cap, cur, e1, hg, hr, q⟩
  ·exact .inl q
  ·have hlt := (Array.getElem?_eq_some_iff.1 hr).1
   injection e1 with e2 e3 e4
   exact .inr ⟨g, cap, cur, by rw [e2, e4], hg, (hk g hg (h2 g (by rw [e2]; rfl)) hlt).trans hr, q⟩
 ·have := (h6 j hj).2 q hq
  exact hk q this.1 this.2.1 ((h6 j hj).1.lt q hq)
theorem OwnL.next (h : OwnL w lo hi e s A n c D) (hb : Below w.heap.size w w') : OwnL w' lo hi e s A n c D := h.keep (fun k _ _ hk => hb.block k hk) hb.size
theorem OwnL.btw {lo' hi' : Nat} (h : OwnL w lo hi e s A n c D) (hb : Btw lo' hi' w w') (ho : hi ≤ lo' ∨ hi' ≤ lo) : OwnL w' lo hi e s A n c D := h.keep (fun k h1 h2 hk => hb.block k hk (by omega)) hb.size
theorem OwnL.wider {lo' hi' : Nat} (h : OwnL w lo hi e s A n c D) (h1 : lo' ≤ lo) (h2 : hi ≤ hi') : OwnL w lo' hi' e s A n c D := by
 obtain ⟨q1, q2, vs, G, q3, q4, q5, q6⟩ := h
 refine ⟨q1, fun k hk => Nat.lt_of_lt_of_le (q2 k hk) h2, vs, G, ⟨q3.1, ?_⟩, q4, q5, fun j hj => ⟨(q6 j hj).1, fun q hq => ?_⟩⟩
 ·rcases q3.2 with q | ⟨g, cap, cur, e1, hg, q⟩
  ·exact .inl q
  ·exact .inr ⟨g, cap, cur, e1, by omega, q⟩
 ·have := (q6 j hj).2 q hq
  exact ⟨by omega, by omega, this.2.2⟩
theorem OwnL.ge (h : OwnL w lo hi e s A n c D) : ∀ k, blk A = some k → lo ≤ k ∧ k < w.heap.size := fun k hk => by
 obtain ⟨_, _, vs, G, ho, _⟩ := h
 exact World.ownsRow.lt ho k (by rw [blk_own]; exact hk)
theorem OwnL.owned (h : OwnL w lo hi e s A n c D) : Owned w lo hi (.row e s) [.slice A n c] D := by
 obtain ⟨h1, h2, vs, G, h3, h4, h5, h6⟩ := h
 rcases h3.2 with ⟨e1, h0⟩ | ⟨g, cap, cur, e1, hg, hrow, hn, hm, hs, ht⟩
 ·injection e1 with a1 a2 a3
  subst a1 a2 a3
  exact ⟨[], ⟨none, 0, 0, rfl, h1, .inl ⟨rfl, rfl, rfl, rfl⟩⟩, by simp, fun k hk => by cases hk⟩
 ·injection e1 with a1 a2 a3
  subst a1 a3
  have hl : vs.length = n * nc s := h3.1
  refine ⟨g :: (List.range n).flatMap G, ⟨_, n, c, rfl, h1, .inr ⟨g, cur, cellsOf (nc s) vs, G, rfl, hrow, hn, by unfold maxLen at hm; omega, hs, rfl, fun j hj => ?_⟩⟩, List.nodup_cons.2 ⟨fun hb => ?_, h5⟩, fun k hk => ?_⟩
  ·have hjn : j * nc s + nc s ≤ n * nc s := by
    have := Nat.mul_le_mul_right (nc s) (show j + 1 ≤ n by omega)
    rw [Nat.add_mul] at this
    omega
   refine ⟨(h6 j hj).1.len, fun i hi => ?_, (h6 j hj).1⟩
   have h7 : cur.toList[j * nc s + i]? = vs[j * nc s + i]? := by rw [← ht, List.getElem?_take, if_pos (by omega)]
   rw [← Array.getElem?_toList, h7]
   unfold cellsOf
   rw [List.getElem?_take, if_pos hi, List.getElem?_drop]
  ·obtain ⟨j, hj, hb⟩ := List.mem_flatMap.1 hb
   exact ((h6 j (List.mem_range.1 hj)).2 g hb).2.2 rfl
  ·rcases List.mem_cons.1 hk with hk | hk
   ·rw [hk]; exact ⟨hg, h2 g rfl⟩
   ·obtain ⟨j, hj, hb⟩ := List.mem_flatMap.1 hk
    have := (h6 j (List.mem_range.1 hj)).2 k hb
    exact ⟨this.1, this.2.1⟩
theorem OwnL.rd (h : OwnL w lo hi e s A n c D) : Rd w w.heap.size (.row e s) [.slice A n c] D := h.owned.rd
theorem cells_left {k n j : Nat} {vs es : List Value} (hl : vs.length = n * k) (hj : j < n) : cellsOf k (vs ++ es) j = cellsOf k vs j := by
 have hjn : j * k + k ≤ n * k := by
  have := Nat.mul_le_mul_right k (show j + 1 ≤ n by omega)
  rw [Nat.add_mul] at this
  omega
 unfold cellsOf
 rw [List.drop_append_of_le_length (by omega), List.take_append_of_le_length (by rw [List.length_drop]; omega)]
theorem cells_right {k n j : Nat} {vs es : List Value} (hl : vs.length = n * k) : cellsOf k (vs ++ es) (n + j) = cellsOf k es j := by
 unfold cellsOf
 rw [show (n + j) * k = vs.length + j * k by rw [hl, Nat.add_mul], ← List.drop_drop, List.drop_left]
theorem flat_range {G H : Nat → List Nat} : ∀ {n m : Nat}, (List.range (n + m)).flatMap (fun j => if j < n then G j else H (j - n)) = (List.range n).flatMap G ++ (List.range m).flatMap H
 | n, 0 => by
  simp only [Nat.add_zero, List.range_zero, List.flatMap_nil, List.append_nil]
  rw [List.flatMap_def, List.flatMap_def]
  congr 1
  exact List.map_congr_left fun j hj => if_pos (List.mem_range.1 hj)
 | n, m + 1 => by
  rw [← Nat.add_assoc, List.range_succ, List.flatMap_append, flat_range, List.range_succ, List.flatMap_append]
  simp
  intro h; omega
theorem ownL_app {mid hi2 m : Nat} {vs es : List Value} {G : Nat → List Nat} {E : List (Dat s)} {H : Nat → List Nat} {A' : Option Addr} {c' : Nat} (h1 : D.length = n) (h2 : ∀ k, blk A = some k → k < hi) (h3 : w.ownsRow lo e (nc s) (.slice A n c) n vs) (h5 : ((List.range n).flatMap G).Nodup)
  (h6 : ∀ j, j < n → Ow w s (cellsOf (nc s) vs j) (D.getD j (dft s)) (G j) ∧ ∀ q ∈ G j, lo ≤ q ∧ q < hi ∧ some q ≠ blk A) (hmid : hi ≤ mid) (hlo : lo ≤ mid)
  (hE : E.length = m) (hn : ((List.range m).flatMap H).Nodup) (hin : ∀ j, j < m → Ow w s (cellsOf (nc s) es j) (E.getD j (dft s)) (H j) ∧ ∀ q ∈ H j, mid ≤ q ∧ q < hi2)
  (hown : w'.ownsRow lo e (nc s) (.slice A' (n + m) c') (n + m) (vs ++ es)) (hg : w.grownBy w' (blk A)) (hat : blk A' = blk A ∨ blk A' = some w.heap.size) (hc' : A' = none → c' = 0) : OwnL w' lo w'.heap.size e s A' (n + m) c' (D ++ E) := by
 have hvl : vs.length = n * nc s := h3.1
 have hA' : ∀ k, blk A' = some k → k < w'.heap.size := fun k hk => (World.ownsRow.lt hown k (by rw [blk_own]; exact hk)).2
 refine ⟨by simp [h1, hE], hA', vs ++ es, fun j => if j < n then G j else H (j - n), hown, hc', ?_, fun j hj => ?_⟩
 ·rw [flat_range]
  refine List.nodup_append.2 ⟨h5, hn, fun x hx y hy e => ?_⟩
  obtain ⟨i, hi', hx⟩ := List.mem_flatMap.1 hx
  obtain ⟨j, hj', hy⟩ := List.mem_flatMap.1 hy
  have q1 := (h6 i (List.mem_range.1 hi')).2 x hx
  have q2 := (hin j (List.mem_range.1 hj')).2 y hy
  omega
 ·dsimp only
  by_cases ej : j < n
  ·rw [if_pos ej, cells_left hvl ej, show (D ++ E).getD j (dft s) = D.getD j (dft s) by simp [List.getD, List.getElem?_append_left (show j < D.length by omega)]]
   obtain ⟨o1, o2⟩ := h6 j ej
   refine ⟨o1.keep fun q hq => hg.block q (o1.lt q hq) (fun e => (o2 q hq).2.2 e), fun q hq => ?_⟩
   have q3 := o2 q hq
   refine ⟨q3.1, Nat.lt_of_lt_of_le (o1.lt q hq) hg.size, ?_⟩
   rcases hat with e2 | e2
   ·rw [e2]; exact q3.2.2
   ·rw [e2]; intro e3; injection e3 with e3; have := o1.lt q hq; omega
  ·obtain ⟨i, rfl⟩ : ∃ i, j = n + i := ⟨j - n, by omega⟩
   have hi' : i < m := by omega
   rw [if_neg ej, cells_right hvl, show n + i - n = i by omega, show (D ++ E).getD (n + i) (dft s) = E.getD i (dft s) by simp [List.getD, List.getElem?_append_right (show D.length ≤ n + i by omega), h1]]
   obtain ⟨o1, o2⟩ := hin i hi'
   have hne : ∀ q ∈ H i, some q ≠ blk A := fun q hq e => by
    have := h2 q e.symm
    have := o2 q hq
    omega
   refine ⟨o1.keep fun q hq => hg.block q (o1.lt q hq) (fun e => hne q hq e), fun q hq => ?_⟩
   have q3 := o2 q hq
   refine ⟨by omega, Nat.lt_of_lt_of_le (o1.lt q hq) hg.size, ?_⟩
   rcases hat with e2 | e2
   ·rw [e2]; exact hne q hq
   ·rw [e2]; intro e3; injection e3 with e3; have := o1.lt q hq; omega
end
theorem OwnL.single {w : World} {lo hi g : Nat} {e : TypeId} {s : Sh} {es : List Value} {y : Dat s} (hr : Row w g e es.toArray) (ho : Owned w lo hi s es y) (hg : hi ≤ g) (hlo : lo ≤ g) : OwnL w lo (g + 1) e s (some ⟨g, 0, none⟩) 1 1 [y] := by
 obtain ⟨F, hF, hFn, hFb⟩ := ho
 have hel := hF.len
 refine ⟨rfl, fun k hk => by injection hk with hk; have hk : g = k := hk; omega, es, fun _ => F, ⟨by rw [hel]; simp, .inr ⟨g, 1, es.toArray, rfl, hlo, hr, Nat.le_refl _, by unfold maxLen; omega, by simp [hel], by simp [← hel]⟩⟩, (fun e => by cases e), by simpa using hFn, fun j hj => ?_⟩
 obtain rfl : j = 0 := by omega
 refine ⟨?_, fun q hq => ?_⟩
 ·have : cellsOf (nc s) es 0 = es := by unfold cellsOf; rw [Nat.zero_mul, List.drop_zero, List.take_of_length_le (by omega)]
  rw [this]; exact hF
 ·have := hFb q hq
  refine ⟨this.1, by omega, fun e => ?_⟩
  injection e with e
  have e : q = g := e
  omega
theorem run_appL {w : World} (ty T e : TypeId) (s : Sh) (z : Value) (bytes : Nat) (hT : Tryz.prog.underlying T = some (.slice e))
  (hI : (Tryz.prog.info? e).map (fun i => (i.zero, i.size, i.bytes)) = some (some z, nc s, bytes)) (hzc : z.cells.size = nc s) (hby : bytes ≤ 4096)
  (lo hi mid hi2 : Nat) (A : Option Addr) (n c g m c2 : Nat) (D E : List (Dat s)) (hown : OwnL w lo hi e s A n c D) (hx : OwnL w mid hi2 e s (some ⟨g, 0, none⟩) m c2 E) (hmid : hi ≤ mid) (hlm : lo ≤ mid) (hn : n ≤ 1048576) (hm : m ≤ 1048576) (hlo : lo ≤ w.heap.size) :
  ∃ A' c' w', (Builtin.append_ #[T, T] ty #[.slice A n c, .slice (some ⟨g, 0, none⟩) m c2]).run Tryz.prog w = .ok (.slice A' (n + m) c') w' ∧ OwnL w' lo w'.heap.size e s A' (n + m) c' (D ++ E) ∧ w.grownBy w' (blk A) ∧ (blk A' = blk A ∨ blk A' = some w.heap.size) ∧ Below lo w w' ∧ (A ≠ none ∨ 0 < m → ∃ g', A' = some ⟨g', 0, none⟩) := by
 obtain ⟨i0, hi', hz0, hz1, hz2⟩ := info_parts hI
 obtain ⟨h1, h2, vs, G, hr, h4, h5, h6⟩ := hown
 obtain ⟨k1, k2, us, H, kr, k4, k5, k6⟩ := hx
 have hul : us.length = m * nc s := kr.1
 have hone : ∀ u ∈ us, u.oneCell' = true := fun u hu => by
  obtain ⟨i, hi2, rfl⟩ := List.getElem_of_mem hu
  have hnp := nc_pos s
  have hj : i / nc s < m := by rw [Nat.div_lt_iff_lt_mul hnp]; omega
  refine Ow.one (k6 (i / nc s) hj).1 _ ?_
  unfold cellsOf
  have hdm : i / nc s * nc s + i % nc s = i := by rw [Nat.mul_comm]; exact Nat.div_add_mod i (nc s)
  have hmod := Nat.mod_lt i hnp
  refine List.mem_of_getElem? (i := i % nc s) ?_
  rw [List.getElem?_take, if_pos hmod, List.getElem?_drop, hdm]
  exact List.getElem?_eq_getElem hi2
 have hcells : ∀ j u, us[j]? = some u → w.cell? ((⟨g, 0, none⟩ : Addr).add j) = some u := fun j u hj => by
  have e2 : (⟨g, 0, none⟩ : Addr).add j = ⟨g, j, none⟩ := by unfold Addr.add; split <;> simp_all
  rw [e2]
  rcases kr.2 with ⟨e1, _⟩ | ⟨g', cap, cur, e1, _, hrow, _, _, _, ht⟩
  ·cases e1
  ·injection e1 with a1 a2 a3
   injection a1 with a1
   injection a1 with a1
   subst a1
   rw [Row.cell (t := e) (cs := cur) hrow, ← Array.getElem?_toList]
   have hjl := (List.getElem?_eq_some_iff.1 hj).1
   rw [← ht, List.getElem?_take, if_pos (by omega)] at hj
   exact hj
 obtain ⟨v', w', hrun, hown', hg, hnn, hat⟩ := run_append_own_at (P := Tryz.prog) w lo T ty e i0 z (nc s) bytes hT hi' hz0 hz1 hz2 hzc (nc_pos s) (.slice A n c) n vs hr ⟨g, 0, none⟩ m c2 us hul hcells hone (by unfold maxLen; omega) (by have h1 : (n + m) * bytes ≤ 2097152 * 4096 := Nat.mul_le_mul (by omega) hby; omega) hlo
 rw [blk_own] at hg
 have hform : ∃ A' c', v' = .slice A' (n + m) c' ∧ (A' = none → c' = 0) ∧ (A ≠ none ∨ 0 < m → ∃ g', A' = some ⟨g', 0, none⟩) := by
  rcases hown'.2 with ⟨e1, h0⟩ | ⟨g', cap, cur, e1, _⟩
  ·refine ⟨none, 0, by rw [e1, h0], fun _ => rfl, fun hh => ?_⟩
   have := (hnn.1 e1)
   rcases hh with hh | hh
   ·exact absurd (by have := this.1; injection this) hh
   ·omega
  ·exact ⟨_, _, e1, (fun e => by cases e), fun _ => ⟨g', rfl⟩⟩
 obtain ⟨A', c', rfl, hc', hf⟩ := hform
 rw [blk_own, blk_own] at hat
 exact ⟨A', c', w', hrun, ownL_app (hi2 := hi2) (H := H) h1 h2 hr h5 h6 hmid hlm k1 k5 (fun j hj => ⟨(k6 j hj).1, fun q hq => ⟨((k6 j hj).2 q hq).1, ((k6 j hj).2 q hq).2.1⟩⟩) hown' hg hat hc', hg, hat, (Below.refl lo w).grown hg hlo (fun k hk => (World.ownsRow.lt hr k (by rw [blk_own]; exact hk)).1), hf⟩
theorem wp_appL {w : World} {o : Oper} {a : Act} {K : Act → World → Prop} {Q : Exit → Act → World → Prop} (sx x : Operand) (T e : TypeId) (s : Sh) (z : Value) (bytes : Nat) (hT : Tryz.prog.underlying T = some (.slice e))
  (hI : (Tryz.prog.info? e).map (fun i => (i.zero, i.size, i.bytes)) = some (some z, nc s, bytes)) (hzc : z.cells.size = nc s) (hby : bytes ≤ 4096)
  (ho : o.op = .call { callee := .builtin .append, args := #[sx, x], argTypes := #[T, T] })
  (lo hi mid hi2 : Nat) (A : Option Addr) (n c g m c2 : Nat) (D E : List (Dat s)) (hs : a.eval sx = .slice A n c) (hown : OwnL w lo hi e s A n c D) (hxv : a.eval x = .slice (some ⟨g, 0, none⟩) m c2) (hx : OwnL w mid hi2 e s (some ⟨g, 0, none⟩) m c2 E) (hmid : hi ≤ mid) (hlm : lo ≤ mid) (hn : n ≤ 1048576) (hm : m ≤ 1048576) (hlo : lo ≤ w.heap.size)
  (h : ∀ A' c' w', OwnL w' lo w'.heap.size e s A' (n + m) c' (D ++ E) → w.grownBy w' (blk A) → (blk A' = blk A ∨ blk A' = some w.heap.size) → Below lo w w' → (A ≠ none ∨ 0 < m → ∃ g', A' = some ⟨g', 0, none⟩) → K (a.put o.dst (.slice A' (n + m) c')) w') : o.wp Tryz.prog a w K Q := by
 obtain ⟨A', c', w', hr, h2, h3, h4, h5, h6⟩ := run_appL o.type T e s z bytes hT hI hzc hby lo hi mid hi2 A n c g m c2 D E hown hx hmid hlm hn hm hlo
 unfold Oper.wp execOp
 simp only [ho, resolve, invoke, builtin, Sem.run_bind, Sem.run_pure, Result.andThen_ok, List.map_toArray, List.map_cons, List.map_nil, hs, hxv, hr]
 exact h A' c' w' h2 h3 h4 h5 h6
theorem appLm {w : World} {ops : Array Oper} {rest : List Oper} {o : Oper} {a : Act} {Q : Exit → Act → World → Prop} (hgd : o.guard = none) (sx x : Operand) (T e : TypeId) (s : Sh) (z : Value) (bytes : Nat) (hT : Tryz.prog.underlying T = some (.slice e))
  (hI : (Tryz.prog.info? e).map (fun i => (i.zero, i.size, i.bytes)) = some (some z, nc s, bytes)) (hzc : z.cells.size = nc s) (hby : bytes ≤ 4096)
  (ho : o.op = .call { callee := .builtin .append, args := #[sx, x], argTypes := #[T, T] })
  (lo hi mid hi2 : Nat) (A : Option Addr) (n c g m c2 : Nat) (D E : List (Dat s)) (hs : a.eval sx = .slice A n c) (hown : OwnL w lo hi e s A n c D) (hxv : a.eval x = .slice (some ⟨g, 0, none⟩) m c2) (hx : OwnL w mid hi2 e s (some ⟨g, 0, none⟩) m c2 E) (hmid : hi ≤ mid) (hlm : lo ≤ mid) (hn : n ≤ 1048576) (hm : m ≤ 1048576) (hlo : lo ≤ w.heap.size)
  (h : ∀ A' c' w', OwnL w' lo w'.heap.size e s A' (n + m) c' (D ++ E) → w.grownBy w' (blk A) → (blk A' = blk A ∨ blk A' = some w.heap.size) → Below lo w w' → (A ≠ none ∨ 0 < m → ∃ g', A' = some ⟨g', 0, none⟩) → wpList Tryz.prog ops Q rest (a.put o.dst (.slice A' (n + m) c')) w') : wpList Tryz.prog ops Q (o :: rest) a w :=
 wpList_plain hgd fun _ hK => wp_appL sx x T e s z bytes hT hI hzc hby ho lo hi mid hi2 A n c g m c2 D E hs hown hxv hx hmid hlm hn hm hlo fun A' c' w' h1 h2 h3 h4 h5 => hK _ _ (h A' c' w' h1 h2 h3 h4 h5)
end ownL
end
section
namespace stepSpec
open Go.RowKit base ints sig term termOk endAt endOf marks app sym sub segs segsHelp kinds termFacts shifted matchMath matchSpec shape kindsR kindsW ruleMath ruleSpec stepMath walkMath stepsMath ownL
set_option maxRecDepth 100000
theorem owned_step {w : World} {lo : Nat} {A : Option Addr} {n c : Nat} {v : List Int} (h : Own w lo (.slice A n c) v) (a b : Int) : Owned w lo w.heap.size sStep [.int .i64 a, .int .i64 b, .slice A n c] (a, b, v) := by
 obtain ⟨F, h1, h2, h3⟩ := (ow_ints (lo := lo) (hi := w.heap.size)).2 (Ownd.of_own h)
 exact ⟨F, ⟨[.int .i64 a], [.int .i64 b, .slice A n c], [], F, rfl, rfl, ⟨rfl, rfl⟩, ⟨[.int .i64 b], [.slice A n c], [], F, rfl, rfl, ⟨rfl, rfl⟩, h1⟩⟩, h2, h3⟩
structure Sn (w : World) (A V : Option Addr) (n cs q cv : Nat) (L : List St) (O : Option Addr) (on oc : Nat) (wr : World) : Prop where
 r : Row wr w.heap.size 29 #[.slice A n cs, .slice V q cv]
 o : OwnL wr (w.heap.size + 1) wr.heap.size 75 sStep O on oc L
 b : Below w.heap.size w wr
theorem Sn.below {w wr w' : World} {A V : Option Addr} {n cs q cv : Nat} {L : List St} {O : Option Addr} {on oc : Nat} (h : Sn w A V n cs q cv L O on oc wr) (hb : Below wr.heap.size wr w') : Sn w A V n cs q cv L O on oc w' :=
 ⟨h.r.next hb, (h.o.next hb).wider (Nat.le_refl _) hb.size, next_trans h.b hb⟩
theorem Sn.len {w wr : World} {A V : Option Addr} {n cs q cv : Nat} {L : List St} {O : Option Addr} {on oc : Nat} (h : Sn w A V n cs q cv L O on oc wr) : L.length = on := h.o.1
end stepSpec
end
end Go.Proofs.YtmoidijngeijkaaGreat
section
namespace Go.Proofs
open Go.Shelf
def Tryz.laysSlgn43_ren : Go.Shelf.Ren := ⟨fun | 43 => 167 | n => n, fun | 22 => 24 | 23 => 2 | 3 => 3 | 4 => 4 | 0 => 0 | n => n, fun | n => n⟩
theorem Tryz.laysSlgn43 : Go.Proofs.SlLaysN.n43 Tryz.prog Tryz.laysSlgn43_ren := {
 mixed := by kernel_rfl
 f43 := ⟨Tryz.f167.name, by decide, Tryz.func167.trans (congrArg some (by kernel_rfl))⟩
 t0 := Tryz.underlying0
 a0 := Tryz.isAgg0
 z0 := Tryz.sizeOf0
 v0 := Tryz.zeroValue0
 t3 := Tryz.underlying3
 a3 := Tryz.isAgg3
 z3 := Tryz.sizeOf3
 v3 := Tryz.zeroValue3
 t4 := Tryz.underlying4
 a4 := Tryz.isAgg4
 z4 := Tryz.sizeOf4
 v4 := Tryz.zeroValue4
 t22 := Tryz.underlying24
 a22 := Tryz.isAgg24
 z22 := Tryz.sizeOf24
 v22 := Tryz.zeroValue24
 t23 := Tryz.underlying2
 a23 := Tryz.isAgg2
 z23 := Tryz.sizeOf2
 v23 := Tryz.zeroValue2
 i23 := by kernel_rfl }
open Go.Sort Go.RowKit in
theorem Tryz.slices_Compact_int (blk off cap : Nat) (zs : List Int) (w : World) (hH : Holds (Value.int .i64) w blk off zs.toArray) (hsz : zs.length ≤ 9223372036854775807) (hcap : zs.length ≤ cap) :
  Calls Tryz.prog 167 #[.slice (some ⟨blk, off, none⟩) zs.length cap] w fun e w' => e = .returned (.slice (some ⟨blk, off, none⟩) (Lib.compact zs).length cap) ∧ ∃ q, w' = putRow (Value.int .i64) (Sort.ahead w q) blk off (Lib.compact zs ++ List.replicate (zs.length - (Lib.compact zs).length) 0).toArray := AnyG.slices_Compact_int Tryz.laysSlgn43 blk off cap zs w hH hsz hcap
open Go.Sort Go.RowKit in
theorem Tryz.slices_Compact_int_empty (a : Option Addr) (cap : Nat) (w : World) :
  Calls Tryz.prog 167 #[.slice a 0 cap] w fun e w' => e = .returned (.slice a 0 cap) ∧ w' = w := AnyG.slices_Compact_int_empty Tryz.laysSlgn43 a cap w
def Tryz.laysSlgn35_ren : Go.Shelf.Ren := ⟨fun | 35 => 155 | n => n, fun | 22 => 24 | 23 => 2 | 3 => 3 | 4 => 4 | 0 => 0 | n => n, fun | n => n⟩
theorem Tryz.laysSlgn35 : Go.Proofs.SlLaysN.n35 Tryz.prog Tryz.laysSlgn35_ren := {
 mixed := by kernel_rfl
 f35 := ⟨Tryz.f155.name, by decide, Tryz.func155.trans (congrArg some (by kernel_rfl))⟩
 t0 := Tryz.underlying0
 a0 := Tryz.isAgg0
 z0 := Tryz.sizeOf0
 v0 := Tryz.zeroValue0
 t3 := Tryz.underlying3
 a3 := Tryz.isAgg3
 z3 := Tryz.sizeOf3
 v3 := Tryz.zeroValue3
 t4 := Tryz.underlying4
 a4 := Tryz.isAgg4
 z4 := Tryz.sizeOf4
 v4 := Tryz.zeroValue4
 t22 := Tryz.underlying24
 a22 := Tryz.isAgg24
 z22 := Tryz.sizeOf24
 v22 := Tryz.zeroValue24
 t23 := Tryz.underlying2
 a23 := Tryz.isAgg2
 z23 := Tryz.sizeOf2
 v23 := Tryz.zeroValue2 }
open Go.Sort Go.RowKit in
theorem Tryz.slices_Reverse_int (blk off cap : Nat) (zs : List Int) (w : World) (hH : Holds (Value.int .i64) w blk off zs.toArray) (hsz : zs.length ≤ 9223372036854775807) :
  Calls Tryz.prog 155 #[.slice (some ⟨blk, off, none⟩) zs.length cap] w fun e w' => e = .returned (.tuple #[]) ∧ ∃ n, w' = putRow (Value.int .i64) (Sort.ahead w n) blk off zs.reverse.toArray := AnyG.slices_Reverse_int Tryz.laysSlgn35 blk off cap zs w hH hsz
open Go.Sort Go.RowKit in
theorem Tryz.slices_Reverse_int_empty (p : Option Addr) (cap : Nat) (w : World) :
  Calls Tryz.prog 155 #[.slice p 0 cap] w fun e w' => e = .returned (.tuple #[]) ∧ w' = w := AnyG.slices_Reverse_int_empty Tryz.laysSlgn35 p cap w
end Go.Proofs
end
namespace Go.Proofs.YtmoidijngeijkaaGreat
section
namespace sortedC
open Go.RowKit base marks app sym appAt segs varsMath
set_option maxRecDepth 100000
theorem row_put {w : World} {g : Nat} {t : TypeId} {cs : Array Value} (h : Row w g t cs) (d : Array Int) : Row (Sort.putRow (Value.int .i64) w g 0 d) g t (Sort.putCells (Value.int .i64) 0 d cs) := by
 unfold Row at h ⊢
 show (w.heap.modify g (Sort.onCells (Sort.putCells (Value.int .i64) 0 d)))[g]? = _
 rw [Array.getElem?_modify, if_pos rfl, h]
 rfl
theorem grown_putRow (w : World) (g q : Nat) (d : Array Int) : w.grownBy (Sort.putRow (Value.int .i64) (Sort.ahead w q) g 0 d) (some g) := by
 refine ⟨rfl, rfl, rfl, ?_, fun i hi hne => ?_⟩
 ·show w.heap.size ≤ (w.heap.modify g _).size
  simp
 ·show (w.heap.modify g _)[i]? = _
  rw [Array.getElem?_modify, if_neg (fun e => hne (by rw [e]))]
theorem holds_own {w : World} {g : Nat} {t : TypeId} {cs : Array Value} {xs : List Int} (h : Row w g t cs) (hc : ∀ j, j < xs.length → cs[j]? = some ((xs.map (Value.int .i64)).getD j undef)) : Sort.Holds (Value.int .i64) w g 0 xs.toArray := by
 intro j hj
 have hj' : j < xs.length := by simpa using hj
 refine ⟨?_, by rw [Nat.zero_add]; exact h.free j⟩
 rw [Nat.zero_add, h.cell j, hc j hj']
 simp [List.getD, hj']
theorem putCells_get {cs : Array Value} {d : List Int} {j : Nat} (hj : j < d.length) (hs : d.length ≤ cs.size) : (Sort.putCells (Value.int .i64) 0 d.toArray cs)[j]? = some (.int .i64 (d.getD j 0)) := by
 unfold Sort.putCells
 rw [Array.getElem?_mapIdx, Array.getElem?_eq_getElem (by omega)]
 simp [hj, List.getD]
theorem compact_le (zs : List Int) : (Lib.compact zs).length ≤ zs.length := by
 unfold Lib.compact Lib.compactUpTo
 rw [List.length_map]
 exact Nat.le_trans (List.length_filter_le _ _) (by simp)
def AnsCompact (w : World) (base : Nat) (A : Option Addr) (ys : List Int) (e : Ending) (w' : World) : Prop := ∃ c, e = .returned (.slice A ys.length c) ∧ Own w' base (.slice A ys.length c) ys ∧ w.grownBy w' (blk A)
theorem compactOwn (base : Nat) (A : Option Addr) (n c : Nat) (xs : List Int) (w : World) (h : Own w base (.slice A n c) xs) (hn : n ≤ 1048576) :
  Calls Tryz.prog 167 #[.slice A n c] w (AnsCompact w base A (Lib.compact xs)) := by
 have hl := Own.len h
 subst hl
 rcases own_form (n := xs.length) h with ⟨rfl, h0, rfl, _⟩ | ⟨g, cs, rfl, hb, hr, hnc, hz, hmax, _, hc⟩
 ·have hx : xs = [] := List.eq_nil_of_length_eq_zero h0
  subst hx
  refine (Tryz.slices_Compact_int_empty none 0 w).mono ?_
  rintro e w' ⟨rfl, rfl⟩
  exact ⟨0, rfl, h, World.grownBy.refl _ _⟩
 ·have hH := holds_own hr hc
  have hle : (Lib.compact xs).length ≤ xs.length := compact_le xs
  refine (Tryz.slices_Compact_int g 0 c xs w hH (by omega) hnc).mono ?_
  rintro e w' ⟨rfl, q, rfl⟩
  refine ⟨c, rfl, ?_, grown_putRow w g q _⟩
  have r1 : Row (Sort.ahead w q) g 2 cs := hr
  have r2 := row_put r1 (Lib.compact xs ++ List.replicate (xs.length - (Lib.compact xs).length) 0).toArray
  refine Own.of_row r2 rfl (by simp [Sort.putCells, hz]) (by omega) hmax hb (fun j hj => ?_)
  rw [putCells_get (by simp; omega) (by simp; omega)]
  simp [List.getD, List.getElem?_append_left hj]
def AnsTurned (w : World) (base : Nat) (A : Option Addr) (n c : Nat) (ys : List Int) (e : Ending) (w' : World) : Prop := e = .returned (.tuple #[]) ∧ Own w' base (.slice A n c) ys ∧ w.grownBy w' (blk A)
theorem reverseOwn (base : Nat) (A : Option Addr) (n c : Nat) (xs : List Int) (w : World) (h : Own w base (.slice A n c) xs) (hn : n ≤ 1048576) :
  Calls Tryz.prog 155 #[.slice A n c] w (AnsTurned w base A n c xs.reverse) := by
 have hl := Own.len h
 subst hl
 rcases own_form (n := xs.length) h with ⟨rfl, h0, rfl, _⟩ | ⟨g, cs, rfl, hb, hr, hnc, hz, hmax, _, hc⟩
 ·have hx : xs = [] := List.eq_nil_of_length_eq_zero h0
  subst hx
  refine (Tryz.slices_Reverse_int_empty none 0 w).mono ?_
  rintro e w' ⟨rfl, rfl⟩
  exact ⟨rfl, h, World.grownBy.refl _ _⟩
 ·have hH := holds_own hr hc
  refine (Tryz.slices_Reverse_int g 0 c xs w hH (by omega)).mono ?_
  rintro e w' ⟨rfl, q, rfl⟩
  refine ⟨rfl, ?_, grown_putRow w g q _⟩
  have r1 : Row (Sort.ahead w q) g 2 cs := hr
  have r2 := row_put r1 xs.reverse.toArray
  exact Own.of_row r2 (by simp) (by simp [Sort.putCells, hz]) (by omega) hmax hb (fun j hj => putCells_get (by simpa using hj) (by simp; omega))
theorem compact_cons_cons (x y : Int) (r : List Int) : Lib.compact (x :: y :: r) = if x = y then Lib.compact (y :: r) else x :: Lib.compact (y :: r) := by
 unfold Lib.compact Lib.compactUpTo
 have hr : List.range (x :: y :: r).length = 0 :: (List.range (y :: r).length).map (· + 1) := by
  rw [List.length_cons, List.range_succ_eq_map]
 have hr2 : List.range (y :: r).length = 0 :: (List.range r.length).map (· + 1) := by
  rw [List.length_cons, List.range_succ_eq_map]
 have k0 : Lib.keeps (x :: y :: r).toArray 0 = true := by simp [Lib.keeps]
 have k0' : Lib.keeps (y :: r).toArray 0 = true := by simp [Lib.keeps]
 have ks : ∀ j, Lib.keeps (x :: y :: r).toArray (j + 1 + 1) = Lib.keeps (y :: r).toArray (j + 1) := fun j => by
  simp [Lib.keeps]
 have gs : ∀ j, (x :: y :: r).toArray[j + 1]! = (y :: r).toArray[j]! := fun j => by simp
 rw [hr, hr2]
 simp only [List.map_cons, List.filter_cons, k0, k0', if_true, List.filter_map, List.map_map]
 have e1 : Lib.keeps (x :: y :: r).toArray ∘ (fun (j : Nat) => j + 1) ∘ (fun (j : Nat) => j + 1) = Lib.keeps (y :: r).toArray ∘ fun (j : Nat) => j + 1 := by
  funext j
  exact ks j
 have k1 : Lib.keeps (x :: y :: r).toArray (0 + 1) = decide (¬ x = y) := by
  simp [Lib.keeps, eq_comm]
 rw [e1, k1]
 have e2 : (fun j => (x :: y :: r).toArray[j]!) ∘ (fun (j : Nat) => j + 1) ∘ (fun (j : Nat) => j + 1) = (fun j => (y :: r).toArray[j]!) ∘ fun (j : Nat) => j + 1 := by
  funext j
  exact gs (j + 1)
 by_cases h : x = y
 ·subst h
  simp [List.map_map, e2]
 ·simp [h, List.map_map, e2]
theorem compact_one (x : Int) : Lib.compact [x] = [x] := by simp [Lib.compact, Lib.compactUpTo, Lib.keeps, List.range_succ]
theorem compact_nil : Lib.compact ([] : List Int) = [] := rfl
theorem compact_sorted : ∀ {l : List Int}, l.Pairwise (· ≤ ·) → Rises (Lib.compact l) ∧ (∀ x, x ∈ Lib.compact l ↔ x ∈ l)
 | [], _ => ⟨List.Pairwise.nil, fun x => by rw [compact_nil]⟩
 | [y], _ => ⟨by rw [compact_one]; simp [Rises], fun x => by rw [compact_one]⟩
 | x :: y :: r, h => by
  have h1 := List.pairwise_cons.1 h
  obtain ⟨h2, h3⟩ := compact_sorted h1.2
  rw [compact_cons_cons]
  by_cases e : x = y
  ·subst e
   rw [if_pos rfl]
   exact ⟨h2, fun z => by rw [h3]; simp⟩
  ·rw [if_neg e]
   refine ⟨List.pairwise_cons.2 ⟨fun z hz => ?_, h2⟩, fun z => by rw [List.mem_cons, h3, List.mem_cons (a := z) (b := x)]⟩
   have h4 := h1.1 y (List.mem_cons_self ..)
   rcases List.mem_cons.1 ((h3 z).1 hz) with e2 | e2
   ·omega
   ·have := (List.pairwise_cons.1 h1.2).1 z e2
    omega
end sortedC
end
section
namespace orderMath
open sig term termOk termFacts ruleMath stepMath walkMath stepsMath
def hasR (sg : List Int) (rs : List Rl) (t : List Int) (a : Nat) : Bool := rs.any fun x => redB sg x t a
def ruleF (sg : List Int) (rs : List Rl) (t : List Int) (a : Nat) : Int := match rs.findIdx? (fun x => redB sg x t a) with
 | some r => (r : Int)
 | none => -1
def plN (sg : List Int) (rs : List Rl) (t : List Int) (n : Nat) : List Int := ((List.range n).filter (hasR sg rs t)).map fun a : Nat => (a : Int)
def placesL (sg : List Int) (rs : List Rl) (t : List Int) : List Int := plN sg rs t t.length
def placesI (sg : List Int) (rs : List Rl) (t : List Int) : List Int := if rightB sg rs t = true then placesL sg rs t else []
def inN (E : Int → Int) (l : List Int) (i : Nat) : List Int := ((List.range i).filter fun k => decide (k + 1 = l.length ∨ E (l.getD k 0) ≤ l.getD (k + 1) 0)).map fun k => l.getD k 0
def outN (E : Int → Int) (l : List Int) : Nat → List Int × Int
 | 0 => ([], 0)
 | i + 1 => if (outN E l i).2 ≤ l.getD i 0 then ((outN E l i).1 ++ [l.getD i 0], E (l.getD i 0)) else outN E l i
def inL (E : Int → Int) (l : List Int) : List Int := inN E l l.length
def outL (E : Int → Int) (l : List Int) : List Int := (outN E l l.length).1
def endR (sg t : List Int) (a : Int) : Int := endI sg t a.toNat
def inmostI (sg : List Int) (rs : List Rl) (t : List Int) : List Int := inL (endR sg t) (placesI sg rs t)
def outmostI (sg : List Int) (rs : List Rl) (t : List Int) : List Int := outL (endR sg t) (placesI sg rs t)
def selL (sg : List Int) (rs : List Rl) (t : List Int) (s : Int) : List Int := if s = 1 then inL (endR sg t) (placesL sg rs t) else if s = 2 then placesL sg rs t else (placesL sg rs t).reverse
def stratB (s : Int) : Bool := decide (1 ≤ s ∧ s ≤ 3)
def fuelB (f : Int) : Bool := decide (0 ≤ f ∧ f ≤ 60)
def pickL (sg : List Int) (rs : List Rl) (t : List Int) (s : Int) : Option (Int × Int) := (selL sg rs t s).head?.map fun a => (a, ruleF sg rs t a.toNat)
def pickO (sg : List Int) (rs : List Rl) (t : List Int) (s : Int) : Option (Int × Int) := if rightB sg rs t = true ∧ stratB s = true then pickL sg rs t s else none
def runS (sg : List Int) (rs : List Rl) (s : Int) : Nat → List Int → List St
 | 0, _ => []
 | f + 1, t => match pickL sg rs t s with
  | none => []
  | some p => match stepAtO sg rs t p.1 p.2 with
   | none => []
   | some v => (p.1, p.2, v) :: runS sg rs s f v
def byB (sg : List Int) (rs : List Rl) (t : List Int) (s f : Int) : Bool := rightB sg rs t && (stratB s && fuelB f)
def byW (sg : List Int) (rs : List Rl) (t : List Int) (s f : Int) : Wk := if byB sg rs t s f = true then (t, runS sg rs s f.toNat t) else ([], [])
def byD (sg : List Int) (rs : List Rl) (t : List Int) (s f : Int) : Bool := byB sg rs t s f && normalB sg rs (endL (t, runS sg rs s f.toNat t))
def byN (sg : List Int) (rs : List Rl) (t : List Int) (s f : Int) : List Int := if byD sg rs t s f = true then endL (byW sg rs t s f) else []
def byC (sg : List Int) (rs : List Rl) (t : List Int) (s f : Int) : Int := if byD sg rs t s f = true then ((byW sg rs t s f).2.length : Int) else -1
section
variable {sg : List Int} {rs : List Rl} {t : List Int}
theorem rule_none {a : Nat} (h : ∀ k, k < rs.length → redB sg (rs.getD k ([], [])) t a = false) : ruleF sg rs t a = -1 ∧ hasR sg rs t a = false := by
 have h1 : ∀ x ∈ rs, redB sg x t a = false := fun x hx => by
  obtain ⟨k, hk, e⟩ := List.mem_iff_getElem.1 hx
  have := h k hk
  rw [List.getD_eq_getElem?_getD, List.getElem?_eq_getElem hk, Option.getD_some, e] at this
  exact this
 have h2 : rs.findIdx? (fun x => redB sg x t a) = none := List.findIdx?_eq_none_iff.2 h1
 refine ⟨by unfold ruleF; rw [h2], ?_⟩
 unfold hasR
 rw [List.any_eq_false]
 exact fun x hx => by rw [h1 x hx]; simp
theorem rule_some {a k : Nat} (hk : k < rs.length) (h : ∀ j, j < k → redB sg (rs.getD j ([], [])) t a = false) (hy : redB sg (rs.getD k ([], [])) t a = true) : ruleF sg rs t a = (k : Int) ∧ hasR sg rs t a = true := by
 have e : ∀ j (hj : j < rs.length), rs.getD j ([], []) = rs[j] := fun j hj => by rw [List.getD_eq_getElem?_getD, List.getElem?_eq_getElem hj, Option.getD_some]
 have h2 : rs.findIdx? (fun x => redB sg x t a) = some k := by
  rw [List.findIdx?_eq_some_iff_getElem]
  exact ⟨hk, by rw [← e k hk]; exact hy, fun j hj => by rw [← e j (by omega)]; rw [h j hj]; simp⟩
 refine ⟨by unfold ruleF; rw [h2], ?_⟩
 unfold hasR
 rw [List.any_eq_true]
 exact ⟨rs[k], List.getElem_mem hk, by rw [← e k hk]; exact hy⟩
theorem has_rule {a : Nat} (h : hasR sg rs t a = true) : ∃ k, k < rs.length ∧ ruleF sg rs t a = (k : Int) ∧ redB sg (rs.getD k ([], [])) t a = true ∧ ∀ j, j < k → redB sg (rs.getD j ([], [])) t a = false := by
 have e : ∀ j (hj : j < rs.length), rs.getD j ([], []) = rs[j] := fun j hj => by rw [List.getD_eq_getElem?_getD, List.getElem?_eq_getElem hj, Option.getD_some]
 cases h2 : rs.findIdx? (fun x => redB sg x t a) with
 | none =>
  have h1 := List.findIdx?_eq_none_iff.1 h2
  unfold hasR at h
  rw [List.any_eq_true] at h
  obtain ⟨x, hx, hr⟩ := h
  rw [h1 x hx] at hr
  cases hr
 | some k =>
  obtain ⟨hk, hy, hn⟩ := List.findIdx?_eq_some_iff_getElem.1 h2
  exact ⟨k, hk, by unfold ruleF; rw [h2], by rw [e k hk]; exact hy, fun j hj => by rw [e j (by omega)]; have := hn j hj; simpa using this⟩
theorem pl_yes {n : Nat} (h : hasR sg rs t n = true) : plN sg rs t (n + 1) = plN sg rs t n ++ [(n : Int)] := by unfold plN; rw [List.range_succ, List.filter_append, List.map_append]; simp [h]
theorem pl_no {n : Nat} (h : hasR sg rs t n = false) : plN sg rs t (n + 1) = plN sg rs t n := by unfold plN; rw [List.range_succ, List.filter_append, List.map_append]; simp [h]
theorem pl_len (n : Nat) : (plN sg rs t n).length ≤ n := by
 unfold plN
 rw [List.length_map]
 exact Nat.le_trans (List.length_filter_le _ _) (by simp)
theorem pl_mem {n : Nat} {x : Int} : x ∈ plN sg rs t n ↔ ∃ a : Nat, a < n ∧ hasR sg rs t a = true ∧ x = (a : Int) := by
 unfold plN
 rw [List.mem_map]
 constructor
 ·rintro ⟨a, ha, rfl⟩
  rw [List.mem_filter, List.mem_range] at ha
  exact ⟨a, ha.1, ha.2, rfl⟩
 ·rintro ⟨a, h1, h2, rfl⟩
  exact ⟨a, by rw [List.mem_filter, List.mem_range]; exact ⟨h1, h2⟩, rfl⟩
theorem pl_sorted (n : Nat) : (plN sg rs t n).Pairwise (· < ·) := by
 unfold plN
 rw [List.pairwise_map]
 refine List.Pairwise.filter _ ?_
 exact List.Pairwise.imp (fun h => by omega) List.pairwise_lt_range
theorem places_empty (h : rightB sg rs t = true) : normalB sg rs t = decide (placesL sg rs t = []) := by
 unfold normalB
 rw [h, Bool.true_and]
 cases hb : (List.range t.length).all fun a => rs.all fun x => !redB sg x t a with
 | true =>
  symm
  rw [decide_eq_true_iff]
  cases hp : placesL sg rs t with
  | nil => rfl
  | cons y l =>
   obtain ⟨a, ha, hr, -⟩ := pl_mem.1 (show y ∈ plN sg rs t t.length by unfold placesL at hp; rw [hp]; exact List.mem_cons_self ..)
   rw [List.all_eq_true] at hb
   have h1 := hb a (List.mem_range.2 ha)
   rw [List.all_eq_true] at h1
   unfold hasR at hr
   rw [List.any_eq_true] at hr
   obtain ⟨x, hx, hr⟩ := hr
   have h2 := h1 x hx
   rw [hr] at h2
   cases h2
 | false =>
  symm
  rw [decide_eq_false_iff_not]
  intro hp
  rw [List.all_eq_false] at hb
  obtain ⟨a, ha, hb⟩ := hb
  have hh : hasR sg rs t a = true := by
   unfold hasR
   rw [List.any_eq_true]
   have hf : (rs.all fun x => !redB sg x t a) = false := by simpa using hb
   rw [List.all_eq_false] at hf
   obtain ⟨x, hx, hr⟩ := hf
   exact ⟨x, hx, by simpa using hr⟩
  have : (a : Int) ∈ plN sg rs t t.length := pl_mem.2 ⟨a, List.mem_range.1 ha, hh, rfl⟩
  unfold placesL at hp
  rw [hp] at this
  cases this
theorem in_yes {E : Int → Int} {l : List Int} {i : Nat} (h : i + 1 = l.length ∨ E (l.getD i 0) ≤ l.getD (i + 1) 0) : inN E l (i + 1) = inN E l i ++ [l.getD i 0] := by unfold inN; rw [List.range_succ, List.filter_append, List.map_append]; simp only [List.filter_cons, List.filter_nil, decide_eq_true h, if_true, List.map_cons, List.map_nil]
theorem in_no {E : Int → Int} {l : List Int} {i : Nat} (h : ¬ (i + 1 = l.length ∨ E (l.getD i 0) ≤ l.getD (i + 1) 0)) : inN E l (i + 1) = inN E l i := by unfold inN; rw [List.range_succ, List.filter_append, List.map_append]; simp only [List.filter_cons, List.filter_nil, decide_eq_false h, List.map_nil, List.append_nil]; simp
theorem in_len (E : Int → Int) (l : List Int) (i : Nat) : (inN E l i).length ≤ i := by
 unfold inN
 rw [List.length_map]
 exact Nat.le_trans (List.length_filter_le _ _) (by simp)
theorem out_yes {E : Int → Int} {l : List Int} {i : Nat} (h : (outN E l i).2 ≤ l.getD i 0) : outN E l (i + 1) = ((outN E l i).1 ++ [l.getD i 0], E (l.getD i 0)) := by rw [outN, if_pos h]
theorem out_no {E : Int → Int} {l : List Int} {i : Nat} (h : ¬ (outN E l i).2 ≤ l.getD i 0) : outN E l (i + 1) = outN E l i := by rw [outN, if_neg h]
theorem out_len (E : Int → Int) (l : List Int) : ∀ i : Nat, (outN E l i).1.length ≤ i
 | 0 => Nat.le_refl _
 | i + 1 => by
  have := out_len E l i
  by_cases h : (outN E l i).2 ≤ l.getD i 0
  ·rw [out_yes h, List.length_append, List.length_singleton]; omega
  ·rw [out_no h]; omega
theorem in_last {E : Int → Int} {l : List Int} (h : l ≠ []) : inL E l ≠ [] := by
 unfold inL
 obtain ⟨i, hi⟩ : ∃ i, l.length = i + 1 := ⟨l.length - 1, by have := List.length_pos_iff.2 h; omega⟩
 rw [hi, in_yes (.inl hi.symm)]
 simp
theorem sel_empty (s : Int) : selL sg rs t s = [] ↔ placesL sg rs t = [] := by
 unfold selL
 split
 ·constructor
  ·intro h
   cases hp : placesL sg rs t with
   | nil => rfl
   | cons y l => rw [hp] at h; exact absurd h (in_last (by simp))
  ·intro h; rw [h]; rfl
 ·split
  ·exact Iff.rfl
  ·rw [List.reverse_eq_nil_iff]
theorem in_mem {E : Int → Int} {l : List Int} {i : Nat} {x : Int} (hi : i ≤ l.length) (h : x ∈ inN E l i) : x ∈ l := by
 unfold inN at h
 obtain ⟨k, hk, rfl⟩ := List.mem_map.1 h
 have hk := List.mem_range.1 (List.mem_filter.1 hk).1
 rw [List.getD_eq_getElem?_getD, List.getElem?_eq_getElem (by omega), Option.getD_some]
 exact List.getElem_mem _
theorem sel_mem {s x : Int} (h : x ∈ selL sg rs t s) : x ∈ placesL sg rs t := by
 unfold selL at h
 split at h
 ·exact in_mem (Nat.le_refl _) h
 ·split at h
  ·exact h
  ·exact List.mem_reverse.1 h
theorem pick_none {s : Int} : pickL sg rs t s = none ↔ placesL sg rs t = [] := by
 unfold pickL
 rw [← sel_empty s]
 cases selL sg rs t s <;> simp
theorem pick_some {s : Int} {p : Int × Int} (h : pickL sg rs t s = some p) : ∃ a k : Nat, p = ((a : Int), (k : Int)) ∧ a < t.length ∧ k < rs.length ∧ redB sg (rs.getD k ([], [])) t a = true ∧ ∀ j, j < k → redB sg (rs.getD j ([], [])) t a = false := by
 unfold pickL at h
 cases hs : selL sg rs t s with
 | nil => rw [hs] at h; cases h
 | cons x l =>
  rw [hs] at h
  injection h with h
  obtain ⟨a, ha, hr, e⟩ := pl_mem.1 (sel_mem (s := s) (by rw [hs]; exact List.mem_cons_self ..) : x ∈ plN sg rs t t.length)
  obtain ⟨k, hk, e2, h3, h4⟩ := has_rule hr
  subst e
  exact ⟨a, k, by rw [← h]; simp [e2], ha, hk, h3, h4⟩
theorem run_none {s : Int} {f : Nat} (h : pickL sg rs t s = none) : runS sg rs s f t = [] := by
 cases f with
 | zero => rfl
 | succ f => rw [runS, h]
theorem run_stop {s : Int} {f : Nat} {p : Int × Int} (h : pickL sg rs t s = some p) (hs : stepAtO sg rs t p.1 p.2 = none) : runS sg rs s f t = [] := by
 cases f with
 | zero => rfl
 | succ f => rw [runS, h]; simp only [hs]
theorem run_go {s : Int} {f : Nat} {p : Int × Int} {v : List Int} (h : pickL sg rs t s = some p) (hs : stepAtO sg rs t p.1 p.2 = some v) : runS sg rs s (f + 1) t = (p.1, p.2, v) :: runS sg rs s f v := by rw [runS, h]; simp only [hs]
theorem end_snoc (L : List St) (a r : Int) (v : List Int) : endL (t, L ++ [(a, r, v)]) = v := by unfold endL; simp
end
theorem run_len (sg : List Int) (rs : List Rl) (s : Int) : ∀ (f : Nat) (t : List Int), (runS sg rs s f t).length ≤ f
 | 0, _ => Nat.le_refl _
 | f + 1, t => by
  rw [runS]
  split
  ·exact Nat.zero_le _
  ·split
   ·exact Nat.zero_le _
   ·rw [List.length_cons]; have := run_len sg rs s f; rename_i v _; have := this v; omega
theorem run_walk {sg : List Int} {rs : List Rl} {s : Int} : ∀ {f : Nat} {t : List Int}, goOn sg rs t (runS sg rs s f t) = some (endL (t, runS sg rs s f t))
 | 0, t => rfl
 | f + 1, t => by
  cases hp : pickL sg rs t s with
  | none => rw [run_none hp]; rfl
  | some p =>
   cases hs : stepAtO sg rs t p.1 p.2 with
   | none => rw [run_stop hp hs]; rfl
   | some v =>
    rw [run_go hp hs, end_cons]
    exact go_cons.2 ⟨hs, run_walk⟩
theorem run_take {sg : List Int} {rs : List Rl} {s : Int} : ∀ {f g : Nat} {t : List Int}, g ≤ f → runS sg rs s g t = (runS sg rs s f t).take g
 | _, 0, t, _ => rfl
 | 0, g + 1, t, h => by omega
 | f + 1, g + 1, t, h => by
  cases hp : pickL sg rs t s with
  | none => rw [run_none hp, run_none hp]; rfl
  | some p =>
   cases hs : stepAtO sg rs t p.1 p.2 with
   | none => rw [run_stop hp hs, run_stop hp hs]; rfl
   | some v => rw [run_go hp hs, run_go hp hs, List.take_succ_cons, run_take (f := f) (g := g) (by omega)]
end orderMath
end
section
open Go.Lib (hid)
namespace stepSpec
open Go.RowKit base ints sig term termOk endAt endOf marks app sym sub segs segsHelp kinds termFacts shifted matchMath matchSpec shape kindsR kindsW ruleMath ruleSpec stepMath walkMath stepsMath ownL varsOf
set_option maxRecDepth 100000
def RowB (w : World) (T : TypeId) (cs : Array Value) (wr : World) : Prop := Row wr w.heap.size T cs ∧ Below w.heap.size w wr
set_option maxHeartbeats 4000000 in
theorem l7Redexes (a v u : Value) (d : Dat sSystem) (t : List Int) (w : World) (h : Rd w w.heap.size sSystem [a, v] d) (ht : Rd w w.heap.size sI [u] t) (hz : sz sSystem d ≤ 1048576) (hok : rightB d.1 d.2 t = true) :
  Calls Tryz.prog 95 #[.agg #[a, v], u] w fun e w' => e = .returned (.int .i64 (rdN d.1 d.2 t t.length 0 : Nat)) ∧ Below w.heap.size w w' := by
 obtain ⟨T, m, c, rfl, hT, hcT⟩ := rd_ints.1 ht
 have h0 := h
 obtain ⟨A, n, cs, V, q, cv, rfl, rfl, hs, hc, hcv, hq, hn, hq1, hrs, hsg, hE⟩ := rd_sys h hz
 have HQ := hid hq
 have HTL := hid hT.1
 have HT := hid hT
 have HS := hid hs
 have HRS := hid hrs
 have HE := hid hE
 have HOK := hid (right_parts hok)
 have hcT1 := hcT.1
 have hcT2 := hcT.2.1
 have hm : m ≤ 60 := by have := (term_len (right_parts hok).2).2; have := hT.1; omega
 have hq12 : q ≤ 12 := by have := (sys_parts (right_parts hok).1).2.1; omega
 have HLEN := hid (fun i k (hi : i ≤ m) (hk : k ≤ q) => (show rdN d.1 d.2 t i k ≤ 1000 by
  have h1 := rd_le (sg := d.1) (rs := d.2) (t := t) (i := i) (k := k)
  have h2 : i * d.2.length ≤ 60 * 12 := Nat.mul_le_mul (by omega) (by rw [hq]; omega)
  omega))
 have HS0 := hid (show RowB w 29 #[.slice A n cs, .slice V q cv] (w.alloc (.cells #[.slice A n cs, .slice V q cv] 29)) from ⟨Row.new _ _ _, (Below.refl _ _).alloc (Nat.le_refl _) _⟩)
 clear h h0 ht hz hok hs hc hcv hq hrs hsg hE hT hcT
 go_enter Tryz.func95, Tryz.ntmps95
 go_wp2_with fail
 go_loopg [5, 6] m (fun G many at_ wr => ∃ i : Nat, at_ = .int .i64 i ∧ i + G = m ∧ many = .int .i64 (rdN d.1 d.2 t i 0 : Nat) ∧ RowB w 29 #[.slice A n cs, .slice V q cv] wr)
 case atStart => exact ⟨0, rfl, by omega, by rw [rd_zero]; rfl, HS0.out⟩
 case round =>
  clear HS0
  obtain ⟨i, rfl, hiG, rfl, S⟩ := hrel
  obtain ⟨G, hG⟩ : ∃ G, G = gk := ⟨_, rfl⟩
  subst hG
  by_cases him : i < m
  ·have HI := hid hiG
   have HSS := hid S
   clear hiG S
   generalize hz0 : (rdN d.1 d.2 t i 0 : Nat) = z0
   have HZ0 := hid hz0
   clear hz0
   go_wp2_with fail
   go_loopg [5, 7] q (fun g many r wr => ∃ k : Nat, r = .int .i64 k ∧ k + g = q ∧ many = .int .i64 (rdN d.1 d.2 t i k : Nat) ∧ RowB w 29 #[.slice A n cs, .slice V q cv] wr)
   case atStart => exact ⟨0, rfl, by omega, by rw [HZ0.out], HSS.out⟩
   case round =>
    clear HSS HZ0
    obtain ⟨k, rfl, hkg, rfl, S⟩ := hrel
    have K0 : wr.cell? ⟨w.heap.size, 0, none⟩ = some (.slice A n cs) := S.1.cell 0
    have K1 : wr.cell? ⟨w.heap.size, 1, none⟩ = some (.slice V q cv) := S.1.cell 1
    generalize hzk : (rdN d.1 d.2 t i k : Nat) = zk
    have HZK := hid hzk
    have hzk1 : zk ≤ 1000 := by rw [← hzk]; exact HLEN.out i k (by omega) (by omega)
    clear hzk
    by_cases hkq : k < q
    ·have HK := hid hkg
     obtain ⟨b, off, l, rr, y, hV, hb, ey, cl, cr, hry⟩ := rd_at HRS.out S.2 HQ.out hkq
     subst hV
     have hzy : sz sRule y ≤ 1048576 := by rw [← ey.out]; exact HE.out k hkq
     obtain ⟨P, pn, pc, P', pn', pc', rfl, rfl, sP, kP, sP', kP', hpn, hpn'⟩ := rd_rule hry hzy
     have okr : ruleOkB d.1 y = true := by rw [← ey.out]; exact sys_rule HOK.out.1 (by rw [HQ.out]; exact hkq)
     have hat : i < t.length := by rw [HTL.out]; exact him
     have zA : w.heap.size < wr.heap.size := S.1.lt
     have zB : b < wr.heap.size := by omega
     have K2 : wr.cell? ⟨b, off + k * 2, none⟩ = some (.slice P pn pc) := cl
     have LS := hid (subIn (cs := cs) (c := c) (HS.out.next S.2) (HT.out.next S.2) hn (by omega) hcT1 hcT2 HOK.out.2 hat)
     have LM := hid (matchIn (cs := cs) (pc := pc) (HS.out.next S.2) (sP.more (Nat.le_of_lt zA)) hn (rule_parts okr).1 (sub_ok HOK.out.2 hat))
     obtain ⟨R, hR⟩ : ∃ R, mst d.1 (subL d.1 t i) y.1 0 s0 = R := ⟨_, rfl⟩
     rw [hR] at LM
     obtain ⟨bo, hbo⟩ : ∃ bo, R.isSome = bo := ⟨_, rfl⟩
     have HR := hid hbo
     have HRE := hid (show redB d.1 (d.2.getD k ([], [])) t i = bo by unfold redB; rw [ey.out, hR, hbo])
     have B0 := Below.refl wr.heap.size wr
     have i0 : (0 : Int) ≤ (k : Int) := by omega
     have i1 : (k : Int) < (q : Int) := by omega
     have hneA : ¬ w.heap.size = wr.heap.size := by omega
     have hneB : ¬ b = wr.heap.size := by omega
     have hnfA : ¬ wr.heap.size = w.heap.size := by omega
     have hnfB : ¬ wr.heap.size = b := by omega
     have SS := hid S
     clear sP kP sP' kP' hpn hpn' okr hat ey hry hzy cl cr hR hbo S hkg
     go_upto_region 8 with fail
     go_cut [9] (fun s9 wx => s9 = .bool bo ∧ Below wr.heap.size wr wx)
     case first =>
      go_region_held3 (fun w' => w'.cell? ⟨w.heap.size, 0, none⟩ = some (.slice A n cs) ∧ w'.cell? ⟨w.heap.size, 1, none⟩ = some (.slice (some ⟨b, off, none⟩) q cv) ∧ w'.cell? ⟨b, off + k * 2, none⟩ = some (.slice P pn pc))
       (go_keep)
       (first
        | (go_at_call 94; refine (LS.out _ ?_).mono ?_; (first | exact B0 | exact B0.drew | exact (B0.alloc B0.size _) | exact (B0.alloc B0.size _).drew | exact (B0.drew.alloc B0.drew.size _)); rintro e w3 ⟨D, dn, dc, rfl, od, B3, b3⟩; have z3 := B3.size; (first | have r8 := Row.next (Row.drew (Row.new wr 51 #[.slice none 0 0])) b3 | have r8 := Row.next (Row.new wr.drew 51 #[.slice none 0 0]) b3 | skip); have ne30 : ¬ w.heap.size = w3.heap.size := Nat.ne_of_lt (Nat.lt_of_lt_of_le zA B3.size); have nf30 : ¬ w3.heap.size = w.heap.size := Nat.ne_of_gt (Nat.lt_of_lt_of_le zA B3.size); have ne31 : ¬ b = w3.heap.size := Nat.ne_of_lt (Nat.lt_of_lt_of_le zB B3.size); have nf31 : ¬ w3.heap.size = b := Nat.ne_of_gt (Nat.lt_of_lt_of_le zB B3.size); have k0_3 : w3.cell? ⟨w.heap.size, 0, none⟩ = some (.slice A n cs) := (B3.cell (p := ⟨w.heap.size, 0, none⟩) zA).trans K0; have k1_3 : w3.cell? ⟨w.heap.size, 1, none⟩ = some (.slice (some ⟨b, off, none⟩) q cv) := (B3.cell (p := ⟨w.heap.size, 1, none⟩) zA).trans K1; have k2_3 : w3.cell? ⟨b, off + k * 2, none⟩ = some (.slice P pn pc) := (B3.cell (p := ⟨b, off + k * 2, none⟩) zB).trans K2)
        | (go_at_call 93; refine (LM.out _ _ _ _ ?_ ?_).mono ?_; (first | exact B3 | exact B3.alloc B3.size _); (first | exact od | exact Own.alloc od _); rintro e w4 ⟨G, gn, gc, rfl, og, B4, b4⟩; rw [HR.out]; have z4 := B4.size; (first | have r9 := Row.next r8 b4 | have r9 := Row.next (Row.new w3 51 #[.slice none 0 0]) b4 | skip); (first | (have c9 : _ = some (Value.slice none 0 0) := r9.cell 0; have f9 := r9.free 0) | skip); have ne40 : ¬ w.heap.size = w4.heap.size := Nat.ne_of_lt (Nat.lt_of_lt_of_le zA B4.size); have nf40 : ¬ w4.heap.size = w.heap.size := Nat.ne_of_gt (Nat.lt_of_lt_of_le zA B4.size); have ne41 : ¬ b = w4.heap.size := Nat.ne_of_lt (Nat.lt_of_lt_of_le zB B4.size); have nf41 : ¬ w4.heap.size = b := Nat.ne_of_gt (Nat.lt_of_lt_of_le zB B4.size); have k0_4 : w4.cell? ⟨w.heap.size, 0, none⟩ = some (.slice A n cs) := (B4.cell (p := ⟨w.heap.size, 0, none⟩) zA).trans K0; have k1_4 : w4.cell? ⟨w.heap.size, 1, none⟩ = some (.slice (some ⟨b, off, none⟩) q cv) := (B4.cell (p := ⟨w.heap.size, 1, none⟩) zA).trans K1; have k2_4 : w4.cell? ⟨b, off + k * 2, none⟩ = some (.slice P pn pc) := (B4.cell (p := ⟨b, off + k * 2, none⟩) zB).trans K2))
      all_goals
       go_wp2_with fail
       go_meet
       first | (with_reducible exact box_a B4) | (with_reducible exact box_b B4 (Nat.le_refl _)) | (with_reducible exact box_b B4 z3)
     case rest =>
      rename World => wc
      obtain ⟨rfl, bx⟩ := hcut
      have ST := rd_step (sg := d.1) (rs := d.2) (t := t) (i := i) (k := k) (by rw [HQ.out]; exact hkq)
      rw [HRE.out, HZK.out] at ST
      have HST := hid ST
      have F := hid (show RowB w 29 #[.slice A n cs, .slice (some ⟨b, off, none⟩) q cv] wc from ⟨SS.out.1.next bx, SS.out.2.trans (bx.mono SS.out.2.size)⟩)
      clear bx ST SS K0 K1 K2 LS LM HR HRE
      cases bo with
      | false =>
       go_wp2
       go_roundg (gk - 1)
       case measure => have := HK.out; omega
       case rel => exact ⟨k + 1, by simp, by have := HK.out; omega, by rw [HST.out]; simp, F.out⟩
      | true =>
       go_wp2
       go_roundg (gk - 1)
       case measure => have := HK.out; omega
       case rel => exact ⟨k + 1, by simp, by have := HK.out; omega, by rw [HST.out]; simp, F.out⟩
    ·have e1 : k = q := by omega
     subst e1
     have HZR := hid (show rdN d.1 d.2 t (i + 1) 0 = zk by rw [← rd_row, HQ.out]; exact HZK.out)
     have F := hid S
     clear S
     go_wp2
     go_roundg (G - 1)
     case measure => have := HI.out; omega
     case rel => exact ⟨i + 1, by simp, by have := HI.out; omega, by rw [HZR.out], F.out⟩
  ·have e1 : i = m := by omega
   subst e1
   have hF : (Ending.returned (.int .i64 (rdN d.1 d.2 t i 0 : Nat))) = .returned (.int .i64 (rdN d.1 d.2 t t.length 0 : Nat)) ∧ Below w.heap.size w wr := ⟨by rw [HTL.out], S.2⟩
   have HF := hid hF
   clear hF S
   generalize (rdN d.1 d.2 t i 0 : Nat) = z at *
   go_wp2
   go_ret
   exact HF.out
set_option maxHeartbeats 2000000 in
theorem specNormalIn (a v u : Value) (d : Dat sSystem) (t : List Int) (w : World) (h : Rd w w.heap.size sSystem [a, v] d) (ht : Rd w w.heap.size sI [u] t) (hz : sz sSystem d ≤ 1048576) (hz' : sz sI t ≤ 1048576) :
  Calls Tryz.prog 42 #[.agg #[a, v], u] w (AnsB w (normalB d.1 d.2 t)) := by
 have htv := ht
 obtain ⟨T, m, c, rfl, hT, hcT⟩ := rd_ints.1 ht
 have hm := len_ints hT.1 hz'
 obtain ⟨W, hW, rA, bel⟩ := box1 w 29 #[a, v]
 have HW := hid hW
 have L1 := hid (l7Right _ _ d T m c t W (h.next bel) hz (hT.next bel) hm)
 have L2 := hid (fun (w1 : World) (bb : Below w.heap.size w w1) hok => l7Redexes _ _ _ d t w1 (h.next bb) (htv.next bb) hz hok)
 clear hW h ht htv hz hz' hT hcT
 cases ok : rightB d.1 d.2 t with
 | false =>
  have HR := hid ok
  clear ok
  go_enter Tryz.func42, Tryz.ntmps42
  go_wp2_with fail
  rw [← HW.out]
  refine L1.out.mono ?_
  rintro e w1 ⟨he, bb⟩
  rw [HR.out] at he
  subst he
  have F := hid (ansB (b := normalB d.1 d.2 t) (a := false) (by unfold normalB; rw [HR.out]; rfl) (next_trans bel bb))
  clear bb bel rA L2
  go_wp2
  go_ret
  exact F.out
 | true =>
  have HR := hid ok
  clear ok
  go_enter Tryz.func42, Tryz.ntmps42
  go_wp2_with fail
  rw [← HW.out]
  refine L1.out.mono ?_
  rintro e w1 ⟨he, bb⟩
  rw [HR.out] at he
  subst he
  replace rA := rA.next bb
  replace bel := next_trans bel bb
  have K0 : w1.cell? ⟨w.heap.size, 0, none⟩ = some a := rA.cell 0
  have K1 : w1.cell? ⟨w.heap.size, 1, none⟩ = some v := rA.cell 1
  clear bb L1 rA
  go_wp2_with fail
  refine (L2.out w1 bel HR.out).mono ?_
  rintro e w2 ⟨rfl, bb⟩
  generalize hz : (rdN d.1 d.2 t t.length 0 : Nat) = z
  have hd : normalB d.1 d.2 t = ((z : Int) == 0) := by
   rw [normal_eq HR.out, hz, Bool.eq_iff_iff, decide_eq_true_iff, beq_iff_eq]
   omega
  have F := hid (show AnsB w (normalB d.1 d.2 t) (.returned (.bool ((z : Int) == 0))) w2 from ⟨by rw [hd], next_trans bel bb⟩)
  clear hd hz bb bel L2 K0 K1
  go_wp2
  go_ret
  exact F.out
end stepSpec
end
section
open Go.Lib (hid)
namespace orderSpec
open Go.RowKit base ints sig term termOk endAt endOf marks app sym sub segs segsHelp kinds termFacts shifted matchMath matchSpec shape kindsR kindsW ruleMath ruleSpec stepMath walkMath stepsMath varsOf stepSpec orderMath appAt
set_option maxRecDepth 100000
def MatchOn (W : World) (A : Option Addr) (n cs : Nat) (P : Option Addr) (pn pc : Nat) (D : Option Addr) (dn dc : Nat) (R : Option (List (List Int))) : Prop := ∀ X, Below W.heap.size W X → Calls Tryz.prog 93 #[.agg #[.slice A n cs], .slice P pn pc, .slice D dn dc] X fun e w' => ∃ G gn gc, e = .returned (.tuple #[.agg #[.slice G gn gc], .bool R.isSome]) ∧ Owns w' X.heap.size w'.heap.size G gn gc (resL R) ∧ Below W.heap.size W w' ∧ Below X.heap.size X w'
theorem matchOn {W : World} {A : Option Addr} {n cs : Nat} {P : Option Addr} {pn pc : Nat} {D : Option Addr} {dn dc B : Nat} {sg p ys : List Int} (h : Seg W W.heap.size A n sg) (h' : Seg W W.heap.size P pn p) (ho : Own W B (.slice D dn dc) ys) (hn : n ≤ 1048576) (hp : termOkB sg p = true) (ht : termOkB sg ys = true) : MatchOn W A n cs P pn pc D dn dc (mst sg ys p 0 s0) := fun X hX => by
 have hpn : pn ≤ 60 := by have := (term_len hp).2; have := h'.1; omega
 have hdn : dn ≤ 60 := by have := (term_len ht).2; have := Own.len ho; omega
 have hcd := look.own_cap ho
 refine (l4Match A P D n cs pn pc dn dc sg p ys X (h.next hX) (h'.next hX) (Own.seg (Own.next ho hX)) hn hpn hdn hcd.1 hcd.2.1 hp ht).mono ?_
 rintro e w4 ⟨G, gn, gc, rfl, og, b4⟩
 exact ⟨G, gn, gc, rfl, og, next_trans hX b4, b4⟩
set_option maxHeartbeats 4000000 in
theorem l8Redex (a v u : Value) (d : Dat sSystem) (t : List Int) (x : Nat) (w : World) (h : Rd w w.heap.size sSystem [a, v] d) (ht : Rd w w.heap.size sI [u] t) (hz : sz sSystem d ≤ 1048576) (hok : rightB d.1 d.2 t = true) (hx : x < t.length) :
  Calls Tryz.prog 92 #[.agg #[a, v], u, .int .i64 (x : Int)] w fun e w' => e = .returned (.int .i64 (ruleF d.1 d.2 t x)) ∧ Below w.heap.size w w' := by
 obtain ⟨T, m, c, rfl, hT, hcT⟩ := rd_ints.1 ht
 obtain ⟨A, n, cs, V, q, cv, rfl, rfl, hs, hc, hcv, hq, hn, hq1, hrs, hsg, hE⟩ := rd_sys h hz
 have HQ := hid hq
 have HTL := hid hT.1
 have HS := hid hs
 have HRS := hid hrs
 have HE := hid hE
 have HOK := hid (right_parts hok)
 have hcT1 := hcT.1
 have hcT2 := hcT.2.1
 have hm : m ≤ 60 := by have := (term_len (right_parts hok).2).2; have := hT.1; omega
 have hq12 : q ≤ 12 := by have := (sys_parts (right_parts hok).1).2.1; omega
 have HX := hid hx
 have HS0 := hid (show RowB w 29 #[.slice A n cs, .slice V q cv] (w.alloc (.cells #[.slice A n cs, .slice V q cv] 29)) from ⟨Row.new _ _ _, (Below.refl _ _).alloc (Nat.le_refl _) _⟩)
 have LS := hid (subIn (cs := cs) (c := c) (hs.next HS0.out.2) (hT.next HS0.out.2) hn (by omega) hcT1 hcT2 HOK.out.2 hx)
 clear h ht hz hok hs hc hcv hq hrs hsg hE hT hcT hx
 go_enter Tryz.func92, Tryz.ntmps92
 go_wp2_with fail
 refine (LS.out _ (Below.refl _ _)).mono ?_
 rintro e w1 ⟨D, dn, dc, rfl, od, B1, b1⟩
 have HS1 := hid (show RowB w 29 #[.slice A n cs, .slice V q cv] w1 from ⟨HS0.out.1.next b1, next_trans HS0.out.2 b1⟩)
 have HD := hid od
 have hw1 : w.heap.size < w1.heap.size := by have := b1.size; simp at this; omega
 clear b1 B1 od LS HS0
 go_wp2_with fail
 go_loopg [8] q (fun g r wr => ∃ k : Nat, r = .int .i64 k ∧ k + g = q ∧ (∀ j, j < k → redB d.1 (d.2.getD j ([], [])) t x = false) ∧ RowB w 29 #[.slice A n cs, .slice V q cv] wr ∧ Own wr (w.heap.size + 1) (.slice D dn dc) (subL d.1 t x))
 case atStart => exact ⟨0, rfl, by omega, fun j hj => absurd hj (Nat.not_lt_zero _), HS1.out, Own.lower HD.out (by simp)⟩
 case round =>
  clear HS1 HD
  obtain ⟨k, rfl, hkg, hlow, S, oD⟩ := hrel
  have K0 : wr.cell? ⟨w.heap.size, 0, none⟩ = some (.slice A n cs) := S.1.cell 0
  have K1 : wr.cell? ⟨w.heap.size, 1, none⟩ = some (.slice V q cv) := S.1.cell 1
  have HLOW := hid hlow
  have HK := hid hkg
  clear hlow hkg
  by_cases hkq : k < q
  ·obtain ⟨b, off, l, rr, y, hV, hb, ey, cl, cr, hry⟩ := rd_at HRS.out S.2 HQ.out hkq
   subst hV
   have hzy : sz sRule y ≤ 1048576 := by rw [← ey.out]; exact HE.out k hkq
   obtain ⟨P, pn, pc, P', pn', pc', rfl, rfl, sP, kP, sP', kP', hpn, hpn'⟩ := rd_rule hry hzy
   have okr : ruleOkB d.1 y = true := by rw [← ey.out]; exact sys_rule HOK.out.1 (by rw [HQ.out]; exact hkq)
   have zA : w.heap.size < wr.heap.size := S.1.lt
   have zB : b < wr.heap.size := by omega
   have K2 : wr.cell? ⟨b, off + k * 2, none⟩ = some (.slice P pn pc) := cl
   have LM := hid (matchOn (W := wr) (cs := cs) (pc := pc) (HS.out.next S.2) (sP.more (Nat.le_of_lt zA)) oD hn (rule_parts okr).1 (sub_ok HOK.out.2 HX.out))
   obtain ⟨R, hR⟩ : ∃ R, mst d.1 (subL d.1 t x) y.1 0 s0 = R := ⟨_, rfl⟩
   rw [hR] at LM
   obtain ⟨bo, hbo⟩ : ∃ bo, R.isSome = bo := ⟨_, rfl⟩
   have HR := hid hbo
   have HRE := hid (show redB d.1 (d.2.getD k ([], [])) t x = bo by unfold redB; rw [ey.out, hR, hbo])
   have B0 := Below.refl wr.heap.size wr
   have i0 : (0 : Int) ≤ (k : Int) := by omega
   have i1 : (k : Int) < (q : Int) := by omega
   have hneA : ¬ w.heap.size = wr.heap.size := by omega
   have hneB : ¬ b = wr.heap.size := by omega
   have hnfA : ¬ wr.heap.size = w.heap.size := by omega
   have hnfB : ¬ wr.heap.size = b := by omega
   have SS := hid S
   have OD := hid oD
   clear sP kP sP' kP' hpn hpn' okr ey hry hzy cl cr hR hbo S oD
   go_upto_region 5 with fail
   go_cut [10] (fun s9 wx => s9 = .bool bo ∧ Below wr.heap.size wr wx)
   case first =>
    go_region_held3 (fun w' => w'.cell? ⟨w.heap.size, 0, none⟩ = some (.slice A n cs) ∧ w'.cell? ⟨w.heap.size, 1, none⟩ = some (.slice (some ⟨b, off, none⟩) q cv) ∧ w'.cell? ⟨b, off + k * 2, none⟩ = some (.slice P pn pc))
     (go_keep)
     (first | (go_at_call 93; refine (LM.out _ ?_).mono ?_; (first | exact B0 | exact B0.drew | exact (B0.alloc B0.size _) | exact (B0.alloc B0.size _).drew | exact (B0.drew.alloc B0.drew.size _)); rintro e w4 ⟨G, gn, gc, rfl, og, B4, b4⟩; rw [HR.out]; have z4 := B4.size; (first | have r9 := Row.next (Row.drew (Row.new wr 51 #[.slice none 0 0])) b4 | have r9 := Row.next (Row.new wr.drew 51 #[.slice none 0 0]) b4 | skip); (first | (have c9 : _ = some (Value.slice none 0 0) := r9.cell 0; have f9 := r9.free 0) | skip); have ne40 : ¬ w.heap.size = w4.heap.size := Nat.ne_of_lt (Nat.lt_of_lt_of_le zA B4.size); have nf40 : ¬ w4.heap.size = w.heap.size := Nat.ne_of_gt (Nat.lt_of_lt_of_le zA B4.size); have ne41 : ¬ b = w4.heap.size := Nat.ne_of_lt (Nat.lt_of_lt_of_le zB B4.size); have nf41 : ¬ w4.heap.size = b := Nat.ne_of_gt (Nat.lt_of_lt_of_le zB B4.size); have k0_4 : w4.cell? ⟨w.heap.size, 0, none⟩ = some (.slice A n cs) := (B4.cell (p := ⟨w.heap.size, 0, none⟩) zA).trans K0; have k1_4 : w4.cell? ⟨w.heap.size, 1, none⟩ = some (.slice (some ⟨b, off, none⟩) q cv) := (B4.cell (p := ⟨w.heap.size, 1, none⟩) zA).trans K1; have k2_4 : w4.cell? ⟨b, off + k * 2, none⟩ = some (.slice P pn pc) := (B4.cell (p := ⟨b, off + k * 2, none⟩) zB).trans K2))
    all_goals
     go_wp2_with fail
     go_meet
     first | (with_reducible exact box_a B4) | (with_reducible exact box_b B4 (Nat.le_refl _)) | (with_reducible exact box_b B4 z4)
   case rest =>
    rename World => wc
    obtain ⟨rfl, bx⟩ := hcut
    have FS := hid (show RowB w 29 #[.slice A n cs, .slice (some ⟨b, off, none⟩) q cv] wc from ⟨SS.out.1.next bx, SS.out.2.trans (bx.mono SS.out.2.size)⟩)
    have FO := hid (Own.next OD.out bx)
    clear bx SS OD K0 K1 K2 LM HR
    cases bo with
    | false =>
     have HL2 := hid (show ∀ j, j < k + 1 → redB d.1 (d.2.getD j ([], [])) t x = false from fun j hj => by
      by_cases e : j = k
      ·subst e; exact HRE.out
      ·exact HLOW.out j (by omega))
     clear HRE
     go_wp2
     go_roundg (gk - 1)
     case measure => have := HK.out; omega
     case rel => exact ⟨k + 1, by simp, by have := HK.out; omega, HL2.out, FS.out, FO.out⟩
    | true =>
     have HF := hid (show (Ending.returned (.int .i64 (k : Int))) = .returned (.int .i64 (ruleF d.1 d.2 t x)) ∧ Below w.heap.size w wc from ⟨by rw [(rule_some (by rw [HQ.out]; exact hkq) HLOW.out HRE.out).1], FS.out.2⟩)
     clear FS FO
     go_wp2
     go_ret
     exact HF.out
  ·have e1 : k = q := by have := HK.out; omega
   subst e1
   have HF := hid (show (Ending.returned (.int .i64 (-1))) = .returned (.int .i64 (ruleF d.1 d.2 t x)) ∧ Below w.heap.size w wr from ⟨by rw [(rule_none (fun j hj => HLOW.out j (by rw [← HQ.out]; exact hj))).1], S.2⟩)
   clear S oD
   go_wp2
   go_ret
   exact HF.out
theorem app1Q {w : World} {ops : Array Oper} {rest : List Oper} {o : Oper} {a : Act} {Q : Exit → Act → World → Prop} (hgd : o.guard = none) (s x : Operand)
  (ho : o.op = .call { callee := .builtin .append, args := #[s, x], argTypes := #[24, 24] })
  (base : Nat) (A : Option Addr) (n c : Nat) (xs : List Int) (hs : a.eval s = .slice A n c) (hown : Own w base (.slice A n c) xs)
  (g c2 : Nat) (y : Int) (hx : a.eval x = .slice (some ⟨g, 0, none⟩) 1 c2) (hy : w.cell? ⟨g, 0, none⟩ = some (.int .i64 y)) (hn : n ≤ 2097152) (hbase : base ≤ w.heap.size)
  (h : ∀ A' c' w', Own w' base (.slice A' (n + 1) c') (xs ++ [y]) → w.grownBy w' (blk A) → (blk A' = blk A ∨ blk A' = some w.heap.size) → wpList Tryz.prog ops Q rest (a.put o.dst (.slice A' (n + 1) c')) w') : wpList Tryz.prog ops Q (o :: rest) a w :=
 appAllAt hgd s x ho base A n c xs hs hown (some ⟨g, 0, none⟩) 1 c2 (g + 1) [y] hx ⟨rfl, fun _ => ⟨g, 0, rfl, Nat.lt_succ_self _, fun j hj => by
  obtain rfl : j = 0 := by omega
  exact hy⟩⟩ (Nat.le_refl _) hn (by omega) hbase h
structure Lo (w : World) (a v : Value) (O : Option Addr) (on oc : Nat) (L : List Int) (wr : World) : Prop where
 r : Row wr w.heap.size 29 #[a, v]
 o : Own wr (w.heap.size + 1) (.slice O on oc) L
 b : Below w.heap.size w wr
section
variable {w wr w' : World} {a v : Value} {O : Option Addr} {on oc : Nat} {L : List Int}
theorem Lo.next (h : Lo w a v O on oc L wr) (hb : Below wr.heap.size wr w') : Lo w a v O on oc L w' := ⟨h.r.next hb, Own.next h.o hb, next_trans h.b hb⟩
theorem Lo.over {O' : Option Addr} {on' oc' : Nat} {L' : List Int} (h : Lo w a v O on oc L wr) (ho : Own w' (w.heap.size + 1) (.slice O' on' oc') L') (hb : Below (w.heap.size + 1) wr w') : Lo w a v O' on' oc' L' w' := ⟨h.r.below hb (Nat.lt_succ_self _), ho, h.b.trans (hb.mono (Nat.le_succ _))⟩
theorem Lo.list (h : Lo w a v O on oc L wr) {L' : List Int} (e : L = L') : AnsList w L' (.returned (.slice O on oc)) wr := ⟨O, on, oc, rfl, by rw [← e]; exact Own.lower h.o (Nat.le_succ _), h.b⟩
end
theorem places_has {sg : List Int} {rs : List Rl} {t : List Int} {a k : Nat} (hk : k < rs.length) (h : redB sg (rs.getD k ([], [])) t a = true) : hasR sg rs t a = true := by
 unfold hasR
 rw [List.any_eq_true]
 have e : rs.getD k ([], []) = rs[k] := by rw [List.getD_eq_getElem?_getD, List.getElem?_eq_getElem hk, Option.getD_some]
 rw [e] at h
 exact ⟨rs[k], List.getElem_mem hk, h⟩
theorem places_no {sg : List Int} {rs : List Rl} {t : List Int} (h : rightB sg rs t = false) : ([] : List Int) = placesI sg rs t := by unfold placesI; rw [if_neg (by rw [h]; simp)]
theorem places_yes {sg : List Int} {rs : List Rl} {t : List Int} (h : rightB sg rs t = true) : plN sg rs t t.length = placesI sg rs t := by unfold placesI; rw [if_pos h]; rfl
set_option maxHeartbeats 4000000 in
theorem specRedexesIn (a v u : Value) (d : Dat sSystem) (t : List Int) (w : World) (h : Rd w w.heap.size sSystem [a, v] d) (ht : Rd w w.heap.size sI [u] t) (hz : sz sSystem d ≤ 1048576) (hz' : sz sI t ≤ 1048576) :
  Calls Tryz.prog 135 #[.agg #[a, v], u] w (AnsList w (placesI d.1 d.2 t)) := by
 have htv := ht
 obtain ⟨T, m, c, rfl, hT, hcT⟩ := rd_ints.1 ht
 have hm := len_ints hT.1 hz'
 have HTL := hid hT.1
 obtain ⟨W, hW⟩ : ∃ W, W = (w.alloc (.cells #[a, v] 29)).alloc (.cells #[] 2) := ⟨_, rfl⟩
 have T0 : Lo w a v (some ⟨w.heap.size + 1, 0, none⟩) 0 0 [] W := by
  rw [hW]
  refine ⟨(Row.new _ _ _).alloc _, ?_, ((Below.refl _ _).alloc (Nat.le_refl _) _).alloc (by simp) _⟩
  have := own_empty (w.alloc (.cells #[a, v] 29)) (w.heap.size + 1) (by simp)
  simpa using this
 have HW := hid hW
 have LR := hid (fun (w1 : World) (bb : Below w.heap.size w w1) => l7Right a v d T m c t w1 (h.next bb) hz (hT.next bb) hm)
 have LX := hid (fun (w1 : World) (bb : Below w.heap.size w w1) x hok hx => l8Redex a v _ d t x w1 (h.next bb) (htv.next bb) hz hok hx)
 have H0 := hid T0
 clear hW h ht htv hT hcT T0
 cases ok : rightB d.1 d.2 t with
 | false =>
  have HR := hid ok
  rw [ok] at LR
  clear ok LX
  go_enter Tryz.func135, Tryz.ntmps135
  go_wp2_with fail
  rw [← HW.out]
  go_loopg [5, 6] 0 (fun g out at_ wr => at_ = .int .i64 0 ∧ out = .slice (some ⟨w.heap.size + 1, 0, none⟩) 0 0 ∧ Lo w a v (some ⟨w.heap.size + 1, 0, none⟩) 0 0 [] wr)
  case atStart => exact ⟨rfl, rfl, H0.out⟩
  case round =>
   clear H0
   obtain ⟨rfl, rfl, S⟩ := hrel
   have SS := hid S
   have K0 : wr.cell? ⟨w.heap.size, 0, none⟩ = some a := S.r.cell 0
   have K1 : wr.cell? ⟨w.heap.size, 1, none⟩ = some v := S.r.cell 1
   have LR1 := hid (LR.out wr S.b)
   clear S LR
   by_cases h0 : 0 < m
   ·have h1 : (0 : Int) < (m : Int) := by omega
    go_wp2_with (fail)
    refine LR1.out.mono ?_
    rintro e w2 ⟨rfl, bb⟩
    have F := hid ((SS.out.next bb).list (places_no HR.out))
    clear bb K0 K1 SS
    go_wp2
    go_ret
    exact F.out
   ·have h1 : ¬ (0 : Int) < (m : Int) := by omega
    have F := hid (SS.out.list (places_no HR.out))
    clear SS
    go_wp2
    go_ret
    exact F.out
 | true =>
  have HR := hid ok
  have hm60 : m ≤ 60 := by have := (term_len (right_parts ok).2).2; have := HTL.out; omega
  rw [ok] at LR
  clear ok
  go_enter Tryz.func135, Tryz.ntmps135
  go_wp2_with fail
  rw [← HW.out]
  go_loopg [5, 6] m (fun g out at_ wr => ∃ (i on oc : Nat) (O : Option Addr), at_ = .int .i64 i ∧ i + g = m ∧ out = .slice O on oc ∧ on ≤ i ∧ Lo w a v O on oc (plN d.1 d.2 t i) wr)
  case atStart => exact ⟨0, 0, 0, _, rfl, by omega, rfl, Nat.le_refl _, H0.out⟩
  case round =>
   clear H0
   obtain ⟨i, on, oc, O, rfl, hig, rfl, hon, S⟩ := hrel
   have HI := hid hig
   have SS := hid S
   have K0 : wr.cell? ⟨w.heap.size, 0, none⟩ = some a := S.r.cell 0
   have K1 : wr.cell? ⟨w.heap.size, 1, none⟩ = some v := S.r.cell 1
   have LR1 := hid (LR.out wr S.b)
   clear S LR hig
   by_cases h0 : i < m
   ·have h1 : (i : Int) < (m : Int) := by omega
    have LX1 := hid (fun w1 (bb : Below w.heap.size w w1) => LX.out w1 bb i HR.out (by rw [HTL.out]; exact h0))
    clear LX
    go_wp2_with (fail)
    refine LR1.out.mono ?_
    rintro e w2 ⟨rfl, bb⟩
    have S2 := SS.out.next bb
    have SS2 := hid S2
    have k0 : w2.cell? ⟨w.heap.size, 0, none⟩ = some a := S2.r.cell 0
    have k1 : w2.cell? ⟨w.heap.size, 1, none⟩ = some v := S2.r.cell 1
    have LX2 := hid (LX1.out w2 S2.b)
    clear bb K0 K1 SS S2 LX1 LR1
    go_wp2_with (fail)
    refine LX2.out.mono ?_
    rintro e w3 ⟨rfl, bb⟩
    have S3 := SS2.out.next bb
    have HS3 := hid S3
    cases hb : hasR d.1 d.2 t i with
    | false =>
     have hrf : ruleF d.1 d.2 t i = -1 := by
      refine (rule_none fun k hk => ?_).1
      cases hh : redB d.1 (d.2.getD k ([], [])) t i with
      | false => rfl
      | true => rw [places_has hk hh] at hb; cases hb
     have F := hid (show Lo w a v O on oc (plN d.1 d.2 t (i + 1)) w3 by rw [pl_no hb]; exact S3)
     rw [hrf]
     clear bb k0 k1 SS2 S3 HS3 LX2 hb hrf
     go_wp2
     go_roundg (gk - 1)
     case measure => have := HI.out; omega
     case rel => exact ⟨i + 1, on, oc, O, by simp, by have := HI.out; omega, rfl, by omega, F.out⟩
    | true =>
     obtain ⟨k, hk, hrf, -, -⟩ := has_rule hb
     have HB := hid hb
     have hkk : (0 : Int) ≤ (k : Int) := by omega
     rw [hrf]
     clear bb k0 k1 SS2 S3 LX2 hb hrf hk
     have ho : Own w3 (w.heap.size + 1) (.slice O on oc) (plN d.1 d.2 t i) := HS3.out.o
     have hsz : w.heap.size < w3.heap.size := HS3.out.r.lt
     go_wp2_with (at_builtin; refine app1 rfl _ _ rfl (w.heap.size + 1) O on oc _ rfl (Own.alloc ho _) w3.heap.size 1 (i : Int) rfl ((Row.new _ _ _).cell 0) (by omega) (by simp; omega) ?_; intro O' oc' w4 ho4 b4)
     have F := hid (show Lo w a v O' (on + 1) oc' (plN d.1 d.2 t (i + 1)) w4 from by
      have hb3 : Below (w.heap.size + 1) w3 w4 := ((Below.refl _ _).alloc (show w.heap.size + 1 ≤ w3.heap.size by omega) _).trans b4
      rw [pl_yes HB.out]
      exact HS3.out.over ho4 hb3)
     clear ho4 b4 ho HS3 HB
     go_wp2
     go_roundg (gk - 1)
     case measure => have := HI.out; omega
     case rel => exact ⟨i + 1, on + 1, oc', O', by simp, by have := HI.out; omega, rfl, by omega, F.out⟩
   ·have e1 : i = m := by have := HI.out; omega
    subst e1
    have h1 : ¬ (i : Int) < (i : Int) := by omega
    have F := hid (SS.out.list (show _ = placesI d.1 d.2 t by rw [← places_yes HR.out, HTL.out]))
    clear SS LR1 LX K0 K1
    go_wp2
    go_ret
    exact F.out
end orderSpec
end
section
namespace orderMath
open sig term termOk termFacts ruleMath stepMath walkMath stepsMath
section
variable {E : Int → Int} {l : List Int}
theorem out_first (h0 : ∀ x ∈ l, 0 ≤ x) : ∀ i, 1 ≤ i → i ≤ l.length → (outN E l i).1.head? = l.head?
 | 1, _, h => by
  cases l with
  | nil => simp at h
  | cons y r => rw [out_yes (by show (0 : Int) ≤ _; exact h0 _ (List.mem_cons_self ..))]; rfl
 | i + 2, _, h => by
  have ih := out_first h0 (i + 1) (by omega) (by omega)
  by_cases hh : (outN E l (i + 1)).2 ≤ l.getD (i + 1) 0
  ·rw [out_yes hh, ← ih]
   cases he : (outN E l (i + 1)).1 with
   | nil =>
    rw [he] at ih
    cases l with
    | nil => simp at h
    | cons y r => cases ih
   | cons y r => rfl
  ·rw [out_no hh, ih]
theorem out_head (h0 : ∀ x ∈ l, 0 ≤ x) : (outL E l).head? = l.head? := by
 unfold outL
 cases l with
 | nil => rfl
 | cons y r => exact out_first h0 _ (by simp) (Nat.le_refl _)
end
section
variable {sg : List Int} {rs : List Rl} {t : List Int}
theorem placesI_mem {x : Int} (h : x ∈ placesI sg rs t) : rightB sg rs t = true ∧ ∃ a : Nat, a < t.length ∧ hasR sg rs t a = true ∧ x = (a : Int) := by
 unfold placesI at h
 split at h
 ·exact ⟨by assumption, pl_mem.1 h⟩
 ·cases h
theorem placesI_nonneg {x : Int} (h : x ∈ placesI sg rs t) : 0 ≤ x := by
 obtain ⟨-, a, -, -, rfl⟩ := placesI_mem h
 omega
theorem outI_head : (outmostI sg rs t).head? = (placesI sg rs t).head? := out_head fun x hx => placesI_nonneg hx
end
def Gone (sg : List Int) (rs : List Rl) (s : Int) (F : Nat) (t : List Int) (i : Nat) (L : List St) (u : List Int) : Prop := runS sg rs s F t = L ++ runS sg rs s (F - i) u ∧ L.length = i ∧ u = endL (t, L) ∧ rightB sg rs u = true ∧ i ≤ F
section
variable {sg : List Int} {rs : List Rl} {s : Int} {F i : Nat} {t u v : List Int} {L : List St}
theorem gone_zero (h : rightB sg rs t = true) : Gone sg rs s F t 0 [] t := ⟨rfl, rfl, rfl, h, Nat.zero_le _⟩
theorem right_step {p : Int × Int} (h : rightB sg rs u = true) (hs : stepAtO sg rs u p.1 p.2 = some v) : rightB sg rs v = true := by
 unfold rightB at h ⊢
 rw [Bool.and_eq_true] at h ⊢
 exact ⟨h.1, stepAt_ok hs⟩
theorem gone_step {p : Int × Int} (h : Gone sg rs s F t i L u) (hi : i < F) (hp : pickL sg rs u s = some p) (hs : stepAtO sg rs u p.1 p.2 = some v) : Gone sg rs s F t (i + 1) (L ++ [(p.1, p.2, v)]) v := by
 obtain ⟨h1, h2, h3, h4, h5⟩ := h
 refine ⟨?_, by rw [List.length_append, h2]; rfl, (end_snoc L p.1 p.2 v).symm, right_step h4 hs, hi⟩
 obtain ⟨g, hg⟩ : ∃ g, F - i = g + 1 := ⟨F - i - 1, by omega⟩
 have hg2 : F - (i + 1) = g := by omega
 rw [h1, hg, run_go hp hs, hg2, List.append_assoc]
 rfl
theorem gone_full (h : Gone sg rs s F t i L u) (hi : ¬ i < F) : runS sg rs s F t = L := by
 have : F - i = 0 := by omega
 rw [h.1, this]
 exact List.append_nil L
theorem gone_none (h : Gone sg rs s F t i L u) (hp : pickL sg rs u s = none) : runS sg rs s F t = L := by rw [h.1, run_none hp, List.append_nil]
theorem gone_stop {p : Int × Int} (h : Gone sg rs s F t i L u) (hp : pickL sg rs u s = some p) (hs : stepAtO sg rs u p.1 p.2 = none) : runS sg rs s F t = L := by rw [h.1, run_stop hp hs, List.append_nil]
theorem by_done (hR : runS sg rs s F t = L) (hu : u = endL (t, L)) (hb : byB sg rs t s (F : Int) = true) : byW sg rs t s (F : Int) = (t, L) ∧ byD sg rs t s (F : Int) = normalB sg rs u := by
 unfold byD byW
 rw [hb, if_pos rfl, Int.toNat_natCast, hR, ← hu, Bool.true_and]
 exact ⟨rfl, rfl⟩
theorem by_off {f : Int} (h : byB sg rs t s f = false) : byW sg rs t s f = ([], []) ∧ byD sg rs t s f = false := by
 unfold byD byW
 rw [h, if_neg (by simp), Bool.false_and]
 exact ⟨rfl, rfl⟩
theorem by_no1 {f : Int} (h : (rightB sg rs t && stratB s) = false) : byB sg rs t s f = false := by
 unfold byB
 rw [← Bool.and_assoc, h]
 rfl
theorem by_no2 {f : Int} (h : fuelB f = false) : byB sg rs t s f = false := by unfold byB; rw [h, Bool.and_false, Bool.and_false]
theorem by_yes {f : Int} (h : (rightB sg rs t && stratB s) = true) (h2 : fuelB f = true) : byB sg rs t s f = true := by
 unfold byB
 rw [← Bool.and_assoc, h, h2]
 rfl
theorem pick_step {p : Int × Int} (hr : rightB sg rs u = true) (h : pickL sg rs u s = some p) : ∃ a k : Nat, p = ((a : Int), (k : Int)) ∧ a < u.length ∧ k < rs.length ∧ redB sg (rs.getD k ([], [])) u a = true ∧ (∀ j, j < k → redB sg (rs.getD j ([], [])) u a = false) ∧ stepAtO sg rs u p.1 p.2 = stepO sg (rs.getD k ([], [])) u a := by
 obtain ⟨a, k, rfl, ha, hk, h1, h2⟩ := pick_some h
 refine ⟨a, k, rfl, ha, hk, h1, h2, ?_⟩
 unfold rightB at hr
 rw [Bool.and_eq_true] at hr
 unfold stepAtO
 rw [if_pos (there_mk hr.1 hr.2 (by omega) (by omega))]
 unfold rl
 rw [Int.toNat_natCast, Int.toNat_natCast]
theorem normal_pick (hr : rightB sg rs u = true) : normalB sg rs u = (pickL sg rs u s).isNone := by
 rw [places_empty hr]
 cases h : pickL sg rs u s with
 | none => rw [pick_none.1 h]; rfl
 | some p =>
  have : placesL sg rs u ≠ [] := fun e => by rw [pick_none.2 e] at h; cases h
  rw [decide_eq_false this]
  rfl
end
section
variable {sg : List Int} {rs : List Rl} {t : List Int}
theorem by_walk {s f : Int} (h : byB sg rs t s f = true) : walkB sg rs (byW sg rs t s f) = true := by
 have h0 := h
 unfold byB at h
 rw [Bool.and_eq_true, Bool.and_eq_true] at h
 obtain ⟨hr, hs, hf⟩ := h
 unfold fuelB at hf
 rw [decide_eq_true_iff] at hf
 unfold rightB at hr
 rw [Bool.and_eq_true] at hr
 unfold byW
 rw [if_pos h0]
 exact walk_mk hr.1 hr.2 (Nat.le_trans (run_len _ _ _ _ _) (by omega)) run_walk
end
end orderMath
end
section
namespace orderMath
open sig term termOk termFacts endAt posMath inside ruleMath stepMath walkMath stepsMath
theorem get_lt {l : List Int} {i : Nat} (h : i < l.length) : l.getD i 0 = l[i] := by rw [List.getD_eq_getElem?_getD, List.getElem?_eq_getElem h, Option.getD_some]
theorem mem_get {l : List Int} {x : Int} (h : x ∈ l) : ∃ i, i < l.length ∧ l.getD i 0 = x := by
 obtain ⟨i, hi, e⟩ := List.mem_iff_getElem.1 h
 exact ⟨i, hi, by rw [get_lt hi, e]⟩
section
variable {E : Int → Int} {l : List Int}
end
section
variable {sg : List Int} {rs : List Rl} {t : List Int}
theorem right_ok (h : rightB sg rs t = true) : termOkB sg t = true := by
 unfold rightB at h
 rw [Bool.and_eq_true] at h
 exact h.2
theorem endR_at (h : termOkB sg t = true) {a : Nat} (ha : a < t.length) : endR sg t (a : Int) = ((a + len1 sg t a : Nat) : Int) := by unfold endR; rw [Int.toNat_natCast]; exact end_at h ha
end
end orderMath
end
section
open Go.Lib (hid)
namespace orderSpec
open Go.RowKit base ints sig term termOk endAt endOf marks app sym sub segs segsHelp kinds termFacts shifted matchMath matchSpec shape kindsR kindsW ruleMath ruleSpec stepMath walkMath stepsMath varsOf stepSpec orderMath appAt
set_option maxRecDepth 100000
theorem ownLt {w : World} {base : Nat} {A : Option Addr} {n c : Nat} {xs : List Int} (h : Own w base (.slice A n c) xs) : ∀ k, blk A = some k → base ≤ k ∧ k < w.heap.size := fun k hk => World.ownsRow.lt h k (by rw [blk_own]; exact hk)
structure Lq (w : World) (a v : Value) (A : Option Addr) (n c : Nat) (all : List Int) (O : Option Addr) (on oc : Nat) (L : List Int) (wr : World) : Prop where
 t : Lo w a v O on oc L wr
 s : Own wr (w.heap.size + 1) (.slice A n c) all
 ne : ∀ k, blk A = some k → blk O ≠ some k
section
variable {w wr w' : World} {a v : Value} {A O : Option Addr} {n c on oc : Nat} {all L : List Int}
theorem Lq.next (h : Lq w a v A n c all O on oc L wr) (hb : Below wr.heap.size wr w') : Lq w a v A n c all O on oc L w' := ⟨h.t.next hb, Own.next h.s hb, h.ne⟩
theorem Lq.app {O' : Option Addr} {oc' : Nat} {y : Int} {o : Obj} (h : Lq w a v A n c all O on oc L wr) (ho : Own w' (w.heap.size + 1) (.slice O' (on + 1) oc') (L ++ [y])) (hg : (wr.alloc o).grownBy w' (blk O)) (hat : blk O' = blk O ∨ blk O' = some (wr.alloc o).heap.size) : Lq w a v A n c all O' (on + 1) oc' (L ++ [y]) w' := by
 have z1 : w.heap.size < wr.heap.size := h.t.r.lt
 have hb : Below (w.heap.size + 1) wr w' := ((Below.refl (w.heap.size + 1) wr).alloc z1 o).trans ((Below.refl _ _).grown hg (by simp; omega) (fun k hk => (ownLt h.t.o k hk).1))
 refine ⟨h.t.over ho hb, Own.kept (Own.alloc h.s o) hg ?_, fun k hk e => ?_⟩
 ·cases hA : blk A with
  | none => exact .inl rfl
  | some k => exact .inr fun e => h.ne k hA e.symm
 ·rcases hat with hat | hat
  ·exact h.ne k hk (by rw [← hat]; exact e)
  ·rw [hat] at e
   injection e with e
   have := (ownLt h.s k hk).2
   simp at e
   omega
end
theorem mem_get {l : List Int} {k n : Nat} (hl : l.length = n) (hk : k < n) : l.getD k 0 ∈ l := by rw [List.getD_eq_getElem?_getD, List.getElem?_eq_getElem (by omega), Option.getD_some]; exact List.getElem_mem _
theorem place_at {sg : List Int} {rs : List Rl} {t : List Int} {k n : Nat} (hl : (placesI sg rs t).length = n) (hk : k < n) : ∃ p : Nat, (placesI sg rs t).getD k 0 = (p : Int) ∧ p < t.length ∧ termOkB sg t = true ∧ ∃ e : Nat, endR sg t (p : Int) = (e : Int) ∧ e ≤ 60 ∧ p < 60 := by
 obtain ⟨hr, p, hp, -, e⟩ := placesI_mem (mem_get hl hk)
 have ht := right_ok hr
 have h60 := (term_len ht).2
 refine ⟨p, e, hp, ht, p + len1 sg t p, endR_at ht hp, ?_, by omega⟩
 have := (posMath.term_at ht hp).2.2
 omega
theorem placesI_len {sg : List Int} {rs : List Rl} {t : List Int} : (placesI sg rs t).length ≤ 60 := by
 unfold placesI
 split
 ·rename_i h
  have h60 := (term_len (right_ok h)).2
  exact Nat.le_trans (pl_len _) h60
 ·exact Nat.zero_le _
theorem endOn {W : World} {A T : Option Addr} {n cs m c p : Nat} {sg t : List Int} (h : Seg W W.heap.size A n sg) (h' : Seg W W.heap.size T m t) (hn : n ≤ 1048576) (hm : m ≤ 1048576) (ht : termOkB sg t = true) (hp : p < t.length) :
  Calls Tryz.prog 116 #[.agg #[.slice A n cs], .slice T m c, .int .i64 (p : Int)] W fun e w' => e = .returned (.int .i64 (endR sg t (p : Int))) ∧ Below W.heap.size W w' := by
 have hl := h'.1
 refine (specEnd A T n cs m c sg t (p : Int) W h h' hn hm (sig_arities (termOk_parts ht).1).1 (by omega) (by omega)).mono ?_
 rintro e w' ⟨he, hb⟩
 exact ⟨he, hb⟩
set_option maxHeartbeats 4000000 in
theorem specInmostIn (a v u : Value) (d : Dat sSystem) (t : List Int) (w : World) (h : Rd w w.heap.size sSystem [a, v] d) (ht : Rd w w.heap.size sI [u] t) (hz : sz sSystem d ≤ 1048576) (hz' : sz sI t ≤ 1048576) :
  Calls Tryz.prog 134 #[.agg #[a, v], u] w (AnsList w (inmostI d.1 d.2 t)) := by
 have htv := ht
 have h0 := h
 obtain ⟨T, m, c, rfl, hT, hcT⟩ := rd_ints.1 ht
 obtain ⟨A0, n0, cs0, V, q, cv, rfl, rfl, hs, hc, hcv, hq, hn, hq1, hrs, hsg, hE⟩ := rd_sys h hz
 have hm := len_ints hT.1 hz'
 obtain ⟨W, hW⟩ : ∃ W, W = (w.alloc (.cells #[.slice A0 n0 cs0, .slice V q cv] 29)).alloc (.cells #[] 2) := ⟨_, rfl⟩
 have T0 : Lo w (.slice A0 n0 cs0) (.slice V q cv) (some ⟨w.heap.size + 1, 0, none⟩) 0 0 [] W := by
  rw [hW]
  refine ⟨(Row.new _ _ _).alloc _, ?_, ((Below.refl _ _).alloc (Nat.le_refl _) _).alloc (by simp) _⟩
  have := own_empty (w.alloc (.cells #[.slice A0 n0 cs0, .slice V q cv] 29)) (w.heap.size + 1) (by simp)
  simpa using this
 have hzW : W.heap.size = w.heap.size + 2 := by rw [hW]; simp
 have LA := hid (specRedexesIn _ _ _ d t W (h0.next T0.b) (htv.next T0.b) hz hz')
 have LE := hid (fun (w1 : World) (bb : Below w.heap.size w w1) p hok (hp : p < t.length) => endOn (cs := cs0) (c := c) (hs.next bb) (hT.next bb) hn hm hok hp)
 have K0 : W.cell? ⟨w.heap.size, 0, none⟩ = some (.slice A0 n0 cs0) := T0.r.cell 0
 have K1 : W.cell? ⟨w.heap.size, 1, none⟩ = some (.slice V q cv) := T0.r.cell 1
 have HW := hid hW
 have H0 := hid T0
 have HZW := hid hzW
 clear hW h h0 ht htv hT hcT T0 hs hc hcv hq hrs hsg hE hzW
 go_enter Tryz.func134, Tryz.ntmps134
 go_wp2_with fail
 rw [← HW.out]
 go_wp2_with fail
 refine LA.out.mono ?_
 rintro e w1 ⟨A, n, cA, rfl, oA, bb⟩
 have hnl : (placesI d.1 d.2 t).length = n := (Own.len oA).symm
 have hn60 : n ≤ 60 := by rw [← hnl]; exact placesI_len
 have HNL := hid hnl
 have H1 := hid (show Lq w (.slice A0 n0 cs0) (.slice V q cv) A n cA (placesI d.1 d.2 t) (some ⟨w.heap.size + 1, 0, none⟩) 0 0 [] w1 from
  ⟨H0.out.next bb, Own.lower oA (by rw [HZW.out]; omega), fun k hk e => by
   have h1 := (ownLt oA k hk).1
   rw [HZW.out] at h1
   injection e with e
   have e : w.heap.size + 1 = k := e
   omega⟩)
 clear oA bb H0 K0 K1 HW LA hnl HZW
 go_wp2_with fail
 go_loopg [5, 7] n (fun g out i_ wr => ∃ (i on oc : Nat) (O : Option Addr), i_ = .int .i64 i ∧ i + g = n ∧ out = .slice O on oc ∧ on ≤ i ∧ Lq w (.slice A0 n0 cs0) (.slice V q cv) A n cA (placesI d.1 d.2 t) O on oc (inN (endR d.1 t) (placesI d.1 d.2 t) i) wr)
 case atStart => exact ⟨0, 0, 0, _, rfl, by omega, rfl, Nat.le_refl _, H1.out⟩
 case round =>
  clear H1
  obtain ⟨i, on, oc, O, rfl, hig, rfl, hon, S⟩ := hrel
  have HI := hid hig
  have HS := hid S
  have K0 : wr.cell? ⟨w.heap.size, 0, none⟩ = some (.slice A0 n0 cs0) := S.t.r.cell 0
  have K1 : wr.cell? ⟨w.heap.size, 1, none⟩ = some (.slice V q cv) := S.t.r.cell 1
  by_cases hi : i < n
  ·have h1 : (i : Int) < (n : Int) := by omega
   have h2 : (0 : Int) ≤ (i : Int) := by omega
   obtain ⟨b, off, eA, hbl, ci⟩ := (Own.seg S.s).round hi
   subst eA
   obtain ⟨p, hp, hpt, htok, e, he, he60, hp60⟩ := place_at HNL.out hi
   rw [hp] at ci
   have HP := hid hp
   have HEE := hid he
   have LE1 := hid (fun w1 bb => LE.out w1 bb p htok hpt)
   have zA : w.heap.size < wr.heap.size := S.t.r.lt
   have bel := hid S.t.b
   clear S hp he hpt htok hig LE
   obtain ⟨y, hy⟩ : ∃ y, (placesI d.1 d.2 t).getD (i + 1) 0 = y := ⟨_, rfl⟩
   have HY := hid hy
   have hcn : i + 1 < n → wr.cell? ⟨b, off + (i + 1), none⟩ = some (.int .i64 y) := fun hlt => by
    obtain ⟨b', off', e1, -, c1⟩ := (Own.seg HS.out.s).round hlt
    injection e1 with e1
    injection e1 with e1 e2
    subst e1 e2
    rw [hy] at c1
    exact c1
   have HCN := hid hcn
   have zB : b < wr.heap.size := hbl
   clear hy hcn
   go_wp2_with fail
   go_region_held3 (fun w' => w'.cell? ⟨w.heap.size, 0, none⟩ = some (.slice A0 n0 cs0) ∧ w'.cell? ⟨b, off + i, none⟩ = some (.int .i64 (p : Int)))
    (go_keep)
    (first
     | (go_at_call 116; refine (LE1.out _ bel.out.drew).mono ?_; rintro e w2 ⟨rfl, bb⟩; rw [HEE.out]; have k0 : w2.cell? ⟨w.heap.size, 0, none⟩ = some (.slice A0 n0 cs0) := (bb.cell (p := ⟨w.heap.size, 0, none⟩) zA).trans K0; have ci2 : w2.cell? ⟨b, off + i, none⟩ = some (.int .i64 (p : Int)) := (bb.cell (p := ⟨b, off + i, none⟩) zB).trans ci))
   have S2 := hid ((HS.out.next (drew_below wr)).next bb)
   have hcn2 : i + 1 < n → w2.cell? ⟨b, off + (i + 1), none⟩ = some (.int .i64 y) := fun hlt => (bb.cell (p := ⟨b, off + (i + 1), none⟩) zB).trans (HCN.out hlt)
   clear K0 K1 ci HCN bb HS bel LE1
   by_cases hl : i + 1 = n
   ·have q1 : (i : Int) + 1 = (n : Int) := by omega
    have HC := hid (show i + 1 = (placesI d.1 d.2 t).length ∨ endR d.1 t ((placesI d.1 d.2 t).getD i 0) ≤ (placesI d.1 d.2 t).getD (i + 1) 0 from .inl (by rw [HNL.out]; exact hl))
    have ho : Own w2 (w.heap.size + 1) (.slice O on oc) (inN (endR d.1 t) (placesI d.1 d.2 t) i) := S2.out.t.o
    have hsz : w.heap.size < w2.heap.size := S2.out.t.r.lt
    go_wp2_with (at_builtin; refine app1Q rfl _ _ rfl (w.heap.size + 1) O on oc _ rfl (Own.alloc ho _) w2.heap.size 1 (p : Int) rfl ((Row.new _ _ _).cell 0) (by omega) (by simp; omega) ?_; intro O' oc' w4 ho4 hg4 hat4)
    have F := hid (show Lq w (.slice A0 n0 cs0) (.slice V q cv) (some ⟨b, off, none⟩) n cA (placesI d.1 d.2 t) O' (on + 1) oc' (inN (endR d.1 t) (placesI d.1 d.2 t) (i + 1)) w4 from by rw [in_yes HC.out, HP.out]; exact S2.out.app ho4 hg4 hat4)
    clear ho4 hg4 hat4 ho S2 HC
    go_wp2
    go_roundg (gk - 1)
    case measure => have := HI.out; omega
    case rel => exact ⟨i + 1, on + 1, oc', O', by (first | (simp; done) | (simp; omega)), by have := HI.out; omega, rfl, by omega, F.out⟩
   ·have q1 : ¬ (i : Int) + 1 = (n : Int) := by omega
    have q2 : (i : Int) + 1 < (n : Int) := by omega
    have q3 : (0 : Int) ≤ (i : Int) + 1 := by omega
    have cy := hcn2 (by omega)
    by_cases hye : (e : Int) ≤ y
    ·have HC := hid (show i + 1 = (placesI d.1 d.2 t).length ∨ endR d.1 t ((placesI d.1 d.2 t).getD i 0) ≤ (placesI d.1 d.2 t).getD (i + 1) 0 from .inr (by rw [HP.out, HEE.out, HY.out]; exact hye))
     have ho : Own w2 (w.heap.size + 1) (.slice O on oc) (inN (endR d.1 t) (placesI d.1 d.2 t) i) := S2.out.t.o
     have hsz : w.heap.size < w2.heap.size := S2.out.t.r.lt
     go_wp2_with (at_builtin; refine app1Q rfl _ _ rfl (w.heap.size + 1) O on oc _ rfl (Own.alloc ho _) w2.heap.size 1 (p : Int) rfl ((Row.new _ _ _).cell 0) (by omega) (by simp; omega) ?_; intro O' oc' w4 ho4 hg4 hat4)
     have F := hid (show Lq w (.slice A0 n0 cs0) (.slice V q cv) (some ⟨b, off, none⟩) n cA (placesI d.1 d.2 t) O' (on + 1) oc' (inN (endR d.1 t) (placesI d.1 d.2 t) (i + 1)) w4 from by rw [in_yes HC.out, HP.out]; exact S2.out.app ho4 hg4 hat4)
     clear ho4 hg4 hat4 ho S2 HC
     go_wp2
     go_roundg (gk - 1)
     case measure => have := HI.out; omega
     case rel => exact ⟨i + 1, on + 1, oc', O', by (first | (simp; done) | (simp; omega)), by have := HI.out; omega, rfl, by omega, F.out⟩
    ·have HC := hid (show ¬ (i + 1 = (placesI d.1 d.2 t).length ∨ endR d.1 t ((placesI d.1 d.2 t).getD i 0) ≤ (placesI d.1 d.2 t).getD (i + 1) 0) from by rw [HNL.out, HP.out, HEE.out, HY.out]; omega)
     have F := hid (show Lq w (.slice A0 n0 cs0) (.slice V q cv) (some ⟨b, off, none⟩) n cA (placesI d.1 d.2 t) O on oc (inN (endR d.1 t) (placesI d.1 d.2 t) (i + 1)) w2 from by rw [in_no HC.out]; exact S2.out)
     clear S2 HC
     go_wp2
     go_roundg (gk - 1)
     case measure => have := HI.out; omega
     case rel => exact ⟨i + 1, on, oc, O, by simp, by have := HI.out; omega, rfl, by omega, F.out⟩
  ·have e1 : i = n := by have := HI.out; omega
   subst e1
   have h1 : ¬ (i : Int) < (i : Int) := by omega
   have F := hid (HS.out.t.list (show _ = inmostI d.1 d.2 t by unfold inmostI inL; rw [HNL.out]))
   clear HS LE K0 K1 S
   go_wp2
   go_ret
   exact F.out
theorem seg_cell {w : World} {B b off n i : Nat} {L : List Int} {p : Int} (h : Seg w B (some ⟨b, off, none⟩) n L) (hi : i < n) (hp : L.getD i 0 = p) : w.cell? ⟨b, off + i, none⟩ = some (.int .i64 p) := by
 obtain ⟨b', off', e1, -, c1⟩ := h.round hi
 injection e1 with e1
 injection e1 with e1 e2
 subst e1 e2
 rw [hp] at c1
 exact c1
end orderSpec
end
section
open Go.Lib (hid)
namespace orderSpec
open Go.RowKit base ints sig term termOk endAt endOf marks app sym sub segs segsHelp kinds termFacts shifted shape kindsR kindsW ruleMath ruleSpec stepMath walkMath stepsMath varsOf stepSpec orderMath appAt
set_option maxRecDepth 100000
def spL (sg : List Int) (rs : List Rl) (t : List Int) (s : Int) : List Int := if s = 1 then inmostI sg rs t else if s = 2 then placesI sg rs t else (placesI sg rs t).drop ((placesI sg rs t).length - 1)
theorem placesL_of {sg : List Int} {rs : List Rl} {t : List Int} (h : rightB sg rs t = true) : placesI sg rs t = placesL sg rs t := by unfold placesI; rw [if_pos h]
theorem last_head (l : List Int) : (l.drop (l.length - 1)).head? = l.reverse.head? := by
 rw [List.head?_reverse, List.head?_drop]
 cases l with
 | nil => rfl
 | cons x r => rw [List.getLast?_eq_getElem?]
theorem spL_head {sg : List Int} {rs : List Rl} {t : List Int} {s : Int} (h : rightB sg rs t = true) : (spL sg rs t s).head? = (selL sg rs t s).head? := by
 unfold spL selL inmostI
 rw [placesL_of h]
 split
 ·rfl
 ·split
  ·rfl
  ·exact last_head _
def AnsPick (w : World) (o : Option (Int × Int)) (e : Ending) (w' : World) : Prop := e = .returned (.tuple #[.int .i64 ((o.map (·.1)).getD 0), .int .i64 ((o.map (·.2)).getD 0), .bool o.isSome]) ∧ Below w.heap.size w w'
theorem ansPick_none {w w' : World} {o : Option (Int × Int)} (h : o = none) (hb : Below w.heap.size w w') : AnsPick w o (.returned (.tuple #[.int .i64 0, .int .i64 0, .bool false])) w' := ⟨by rw [h]; rfl, hb⟩
theorem ansPick_some {w w' : World} {o : Option (Int × Int)} {a r : Int} (h : o = some (a, r)) (hb : Below w.heap.size w w') : AnsPick w o (.returned (.tuple #[.int .i64 a, .int .i64 r, .bool true])) w' := ⟨by rw [h]; rfl, hb⟩
theorem pickO_no {sg : List Int} {rs : List Rl} {t : List Int} {s : Int} (h : (rightB sg rs t && stratB s) = false) : pickO sg rs t s = none := by
 unfold pickO
 rw [if_neg]
 rw [Bool.and_eq_false_iff] at h
 rintro ⟨h1, h2⟩
 rcases h with h | h
 ·rw [h1] at h; cases h
 ·rw [h2] at h; cases h
theorem pickO_yes {sg : List Int} {rs : List Rl} {t : List Int} {s : Int} (h1 : rightB sg rs t = true) (h2 : stratB s = true) : pickO sg rs t s = pickL sg rs t s := by unfold pickO; rw [if_pos ⟨h1, h2⟩]
theorem pickL_nil {sg : List Int} {rs : List Rl} {t : List Int} {s : Int} (h : (selL sg rs t s).head? = none) : pickL sg rs t s = none := by unfold pickL; rw [h]; rfl
theorem pickL_at {sg : List Int} {rs : List Rl} {t : List Int} {s x : Int} (h : (selL sg rs t s).head? = some x) : pickL sg rs t s = some (x, ruleF sg rs t x.toNat) := by unfold pickL; rw [h]; rfl
theorem sel_at {sg : List Int} {rs : List Rl} {t : List Int} {s x : Int} (h : (selL sg rs t s).head? = some x) : ∃ a : Nat, x = (a : Int) ∧ a < t.length := by
 have h1 : x ∈ selL sg rs t s := List.mem_of_head? h
 obtain ⟨a, ha, -, e⟩ := pl_mem.1 (show x ∈ plN sg rs t t.length from sel_mem h1)
 exact ⟨a, e, ha⟩
set_option maxHeartbeats 2000000 in
theorem l8Right (a v u : Value) (d : Dat sSystem) (t : List Int) (s : Int) (w : World) (h : Rd w w.heap.size sSystem [a, v] d) (ht : Rd w w.heap.size sI [u] t) (hz : sz sSystem d ≤ 1048576) (hz' : sz sI t ≤ 1048576) :
  Calls Tryz.prog 37 #[.agg #[a, v], u, .int .i64 s] w (AnsB w (rightB d.1 d.2 t && stratB s)) := by
 obtain ⟨T, m, c, rfl, hT, hcT⟩ := rd_ints.1 ht
 have hm := len_ints hT.1 hz'
 obtain ⟨W, hW, rA, bel⟩ := box1 w 29 #[a, v]
 have HW := hid hW
 have L1 := hid (l7Right a v d T m c t W (h.next bel) hz (hT.next bel) hm)
 clear hW h hz hT hcT ht
 cases ok : rightB d.1 d.2 t with
 | false =>
  have HS := hid ok
  clear ok
  go_enter Tryz.func37, Tryz.ntmps37
  go_wp2_with fail
  rw [← HW.out]
  refine L1.out.mono ?_
  rintro e w1 ⟨he, bb⟩
  rw [HS.out] at he
  subst he
  have F := hid (show AnsB w (false && stratB s) (.returned (.bool false)) w1 from ⟨rfl, next_trans bel bb⟩)
  clear bb bel rA
  go_wp2
  go_ret
  exact F.out
 | true =>
  have HS := hid ok
  clear ok
  by_cases hs : 1 ≤ s ∧ s ≤ 3
  ·have HB := hid (show stratB s = true from decide_eq_true hs)
   have hy := inYes s 1 3
   go_enter Tryz.func37, Tryz.ntmps37
   go_wp2_with fail
   rw [← HW.out]
   refine L1.out.mono ?_
   rintro e w1 ⟨he, bb⟩
   rw [HS.out] at he
   subst he
   have HY := hid (hy w1 hs)
   have F := hid (show AnsB w (true && stratB s) (.returned (.bool true)) w1 from ⟨by rw [HB.out]; rfl, next_trans bel bb⟩)
   clear bb bel rA hs hy
   go_wp2_with fail
   refine HY.out.mono ?_
   rintro e w2 ⟨rfl, rfl⟩
   go_wp2
   go_ret
   exact F.out
  ·have HB := hid (show stratB s = false from decide_eq_false hs)
   have hy := inNo s 1 3
   go_enter Tryz.func37, Tryz.ntmps37
   go_wp2_with fail
   rw [← HW.out]
   refine L1.out.mono ?_
   rintro e w1 ⟨he, bb⟩
   rw [HS.out] at he
   subst he
   have HY := hid (hy w1 hs)
   have F := hid (show AnsB w (true && stratB s) (.returned (.bool false)) w1 from ⟨by rw [HB.out]; rfl, next_trans bel bb⟩)
   clear bb bel rA hs hy
   go_wp2_with fail
   refine HY.out.mono ?_
   rintro e w2 ⟨rfl, rfl⟩
   go_wp2
   go_ret
   exact F.out
set_option maxHeartbeats 2000000 in
theorem l8Places (a v u : Value) (d : Dat sSystem) (t : List Int) (s : Int) (w : World) (h : Rd w w.heap.size sSystem [a, v] d) (ht : Rd w w.heap.size sI [u] t) (hz : sz sSystem d ≤ 1048576) (hz' : sz sI t ≤ 1048576) :
  Calls Tryz.prog 91 #[.agg #[a, v], u, .int .i64 s] w (AnsSeg w (spL d.1 d.2 t s)) := by
 obtain ⟨W, hW, rA, bel⟩ := box1 w 29 #[a, v]
 have HW := hid hW
 have LP := hid (specRedexesIn a v u d t W (h.next bel) (ht.next bel) hz hz')
 have LI := hid (specInmostIn a v u d t W (h.next bel) (ht.next bel) hz hz')
 have K0 : W.cell? ⟨w.heap.size, 0, none⟩ = some a := rA.cell 0
 have K1 : W.cell? ⟨w.heap.size, 1, none⟩ = some v := rA.cell 1
 obtain ⟨T, m, c, rfl, -, -⟩ := rd_ints.1 ht
 clear hW h hz ht
 by_cases h1 : s = 1
 ·subst h1
  clear LP
  go_enter Tryz.func91, Tryz.ntmps91
  go_wp2_with fail
  rw [← HW.out]
  go_wp2_with fail
  refine LI.out.mono ?_
  rintro e w1 ⟨O, on, oc, rfl, oO, bb⟩
  have F := hid (show AnsSeg w (spL d.1 d.2 t 1) (.returned (.slice O on oc)) w1 from ⟨O, on, oc, rfl, Own.seg oO, next_trans bel bb⟩)
  clear oO bb bel rA LI K0 K1
  go_wp2
  go_ret
  exact F.out
 ·by_cases h2 : s = 2
  ·subst h2
   clear LI
   go_enter Tryz.func91, Tryz.ntmps91
   go_wp2_with fail
   rw [← HW.out]
   go_wp2_with fail
   refine LP.out.mono ?_
   rintro e w1 ⟨O, on, oc, rfl, oO, bb⟩
   have F := hid (show AnsSeg w (spL d.1 d.2 t 2) (.returned (.slice O on oc)) w1 from ⟨O, on, oc, rfl, Own.seg oO, next_trans bel bb⟩)
   clear oO bb bel rA LP K0 K1
   go_wp2
   go_ret
   exact F.out
  ·have HF := hid (show spL d.1 d.2 t s = (placesI d.1 d.2 t).drop ((placesI d.1 d.2 t).length - 1) by unfold spL; rw [if_neg h1, if_neg h2])
   have d1 : decide (s = 1) = false := decide_eq_false h1
   have d2 : decide (s = 2) = false := decide_eq_false h2
   clear LI
   go_enter Tryz.func91, Tryz.ntmps91
   go_wp2_with fail
   rw [← HW.out]
   go_wp2_with fail
   refine LP.out.mono ?_
   rintro e w1 ⟨O, on, oc, rfl, oO, bb⟩
   have hl := Own.len oO
   have hn60 : on ≤ 60 := by rw [hl]; exact placesI_len
   have hcap := (look.own_cap oO).1
   by_cases h0 : on = 0
   ·subst h0
    have F := hid (show AnsSeg w (spL d.1 d.2 t s) (.returned (.slice O 0 oc)) w1 from ⟨O, 0, oc, rfl, by
     have e0 : placesI d.1 d.2 t = [] := List.eq_nil_of_length_eq_zero hl.symm
     rw [HF.out, e0]
     have := Own.seg oO
     rw [e0] at this
     exact this, next_trans bel bb⟩)
    clear oO bb bel rA LP K0 K1 hl
    go_wp2
    go_ret
    exact F.out
   ·obtain ⟨b, off, rfl, hbl, hcs⟩ := (Own.seg oO).2 (by omega)
    have hpos : (0 : Int) < (on : Int) := by omega
    have hsub : ((on : Int) - 1).toNat = on - 1 := by omega
    have p1 : (0 : Int) ≤ (on : Int) - 1 := by omega
    have p2 : (on : Int) - 1 ≤ (oc : Int) := by omega
    have hne : ¬ on - 1 = oc := by omega
    have hln : on - (on - 1) = 1 := by omega
    have F := hid (show AnsSeg w (spL d.1 d.2 t s) (.returned (.slice (some ⟨b, off + (on - 1), none⟩) 1 (oc - (on - 1)))) w1 from ⟨_, 1, _, rfl, by
     rw [HF.out, ← hl]
     have := Seg.cut (a := on - 1) (j := 1) (Own.seg oO) (by omega)
     rwa [List.take_of_length_le (by rw [List.length_drop, ← hl]; omega)] at this, next_trans bel bb⟩)
    clear oO bb bel rA LP K0 K1 hl hcap hcs
    go_wp2
    go_ret
    exact F.out
set_option maxHeartbeats 4000000 in
theorem specPickBy (a v u : Value) (d : Dat sSystem) (t : List Int) (s : Int) (w : World) (h : Rd w w.heap.size sSystem [a, v] d) (ht : Rd w w.heap.size sI [u] t) (hz : sz sSystem d ≤ 1048576) (hz' : sz sI t ≤ 1048576) :
  Calls Tryz.prog 40 #[.agg #[a, v], u, .int .i64 s] w (AnsPick w (pickO d.1 d.2 t s)) := by
 obtain ⟨W, hW, rA, bel⟩ := box1 w 29 #[a, v]
 have HW := hid hW
 have LR := hid (l8Right a v u d t s W (h.next bel) (ht.next bel) hz hz')
 have LP := hid (fun (w1 : World) (bb : Below w.heap.size w w1) => l8Places a v u d t s w1 (h.next bb) (ht.next bb) hz hz')
 have LX := hid (fun (w1 : World) (bb : Below w.heap.size w w1) x hok hx => l8Redex a v u d t x w1 (h.next bb) (ht.next bb) hz hok hx)
 have K0 : W.cell? ⟨w.heap.size, 0, none⟩ = some a := rA.cell 0
 have K1 : W.cell? ⟨w.heap.size, 1, none⟩ = some v := rA.cell 1
 obtain ⟨T, m, c, rfl, -, -⟩ := rd_ints.1 ht
 clear hW h hz ht
 cases ok : (rightB d.1 d.2 t && stratB s) with
 | false =>
  have HS := hid ok
  rw [ok] at LR
  clear ok LP LX
  go_enter Tryz.func40, Tryz.ntmps40
  go_wp2_with fail
  rw [← HW.out]
  go_wp2_with fail
  refine LR.out.mono ?_
  rintro e w1 ⟨rfl, bb⟩
  have F := hid (ansPick_none (w := w) (pickO_no HS.out) (next_trans bel bb))
  clear bb bel rA K0 K1 LR
  go_wp2
  go_ret3
  exact F.out
 | true =>
  rw [ok] at LR
  have HS := hid ((Bool.and_eq_true _ _).mp ok)
  clear ok
  have zW : w.heap.size < W.heap.size := rA.lt
  go_enter Tryz.func40, Tryz.ntmps40
  go_wp2_with fail
  rw [← HW.out]
  go_wp2_with fail
  refine LR.out.mono ?_
  rintro e w1 ⟨rfl, bb⟩
  replace rA := rA.next bb
  replace bel := next_trans bel bb
  have k0 : w1.cell? ⟨w.heap.size, 0, none⟩ = some a := rA.cell 0
  have k1 : w1.cell? ⟨w.heap.size, 1, none⟩ = some v := rA.cell 1
  have LP1 := hid (LP.out w1 bel)
  have zw1 : w.heap.size < w1.heap.size := rA.lt
  clear bb LR LP K0 K1 zW
  go_wp2_with fail
  refine LP1.out.mono ?_
  rintro e w2 ⟨O, on, oc, rfl, oO, bb⟩
  have hhd := spL_head (s := s) HS.out.1
  cases hL : spL d.1 d.2 t s with
  | nil =>
   rw [hL] at oO hhd
   have e0 : on = 0 := by have := oO.1; simpa using this.symm
   subst e0
   have F := hid (ansPick_none (w := w) (show pickO d.1 d.2 t s = none by rw [pickO_yes HS.out.1 HS.out.2]; exact pickL_nil hhd.symm) (next_trans bel bb))
   clear oO hhd hL bb bel rA k0 k1 LP1 LX
   go_wp2
   go_ret3
   exact F.out
  | cons x r =>
   rw [hL] at oO hhd
   have hlen : on = r.length + 1 := by have := oO.1; simpa using this.symm
   obtain ⟨p, rfl, hp⟩ := sel_at hhd.symm
   obtain ⟨b, off, y, rfl, hb, cy, ey⟩ := oO.spot (k := 0) (by omega)
   have ey : y = (p : Int) := by have := ey.out; simpa using this.symm
   subst ey
   have LX2 := hid (fun (w3 : World) (b3 : Below w2.heap.size w2 w3) => LX.out w3 (next_trans (next_trans bel bb) b3) p HS.out.1 hp)
   have HPK := hid (show pickO d.1 d.2 t s = some ((p : Int), ruleF d.1 d.2 t p) by rw [pickO_yes HS.out.1 HS.out.2, pickL_at hhd.symm]; rfl)
   have rA2 := rA.next bb
   have z2 : w.heap.size < w2.heap.size := rA2.lt
   have HBB := hid (next_trans bel bb)
   have q0 : w2.cell? ⟨w.heap.size, 0, none⟩ = some a := rA2.cell 0
   have q1 : w2.cell? ⟨w.heap.size, 1, none⟩ = some v := rA2.cell 1
   have cy0 : w2.cell? ⟨b, off, none⟩ = some (.int .i64 (p : Int)) := cy
   have on0 : 0 < on := by omega
   have on1 : (0 : Int) < (on : Int) := by omega
   have hne : ¬ on = 0 := by omega
   have hne2 : ¬ (on : Int) = 0 := by omega
   clear cy oO hhd hL bb bel rA k0 k1 LP1 LX hlen rA2
   go_wp2_with fail
   go_region_held3 (fun w' => w'.cell? ⟨w.heap.size, 0, none⟩ = some a ∧ w'.cell? ⟨w.heap.size, 1, none⟩ = some v ∧ w'.cell? ⟨b, off, none⟩ = some (.int .i64 (p : Int)))
    (go_keep)
    (first
     | (go_at_call 92; refine (LX2.out _ (drew_below w2)).mono ?_; rintro e w3 ⟨rfl, bb⟩; have j0 : w3.cell? ⟨w.heap.size, 0, none⟩ = some a := (bb.cell (p := ⟨w.heap.size, 0, none⟩) z2).trans q0; have j1 : w3.cell? ⟨w.heap.size, 1, none⟩ = some v := (bb.cell (p := ⟨w.heap.size, 1, none⟩) z2).trans q1; have j2 : w3.cell? ⟨b, off, none⟩ = some (.int .i64 (p : Int)) := (bb.cell (p := ⟨b, off, none⟩) hb).trans cy0))
   have F := hid (ansPick_some (w := w) HPK.out (next_trans HBB.out ((drew_below w2).trans bb)))
   clear HBB HPK bb
   go_wp2
   go_ret3
   exact F.out
end orderSpec
end
section
namespace walkSpec
open Go.RowKit base ints sig term termOk endAt endOf marks app sym sub segs segsHelp kinds termFacts same shifted shape kindsR kindsW varsOf ruleMath ruleSpec stepMath walkMath stepSpec
set_option maxRecDepth 100000
theorem rd_own {w : World} {lo : Nat} {A : Option Addr} {n c : Nat} {xs : List Int} (h : Own w lo (.slice A n c) xs) : Rd w w.heap.size sI [.slice A n c] xs := rd_ints.2 ⟨A, n, c, rfl, Own.seg h, look.own_cap h⟩
theorem rd_step {w wr : World} {B : Nat} {A : Option Addr} {n c : Nat} {L : List St} {k : Nat} (h : Rd w B sStepS [.slice A n c] L) (hb : Below B w wr) (hl : L.length = n) (hk : k < n) :
  ∃ b off u x, A = some ⟨b, off, none⟩ ∧ b < B ∧ Hid (L.getD k (0, 0, []) = x) ∧ wr.cell? ⟨b, off + k * 3, none⟩ = some (.int .i64 x.1) ∧ wr.cell? ⟨b, off + k * 3 + 1, none⟩ = some (.int .i64 x.2.1) ∧ wr.cell? ⟨b, off + k * 3 + 2, none⟩ = some u ∧ Rd wr B sI [u] x.2.2 := by
 obtain ⟨b, off, n2, c2, es, ev, -, -, hbB, hel, hp, hr⟩ := h.elem (j := k) (by rw [hl]; exact hk)
 injection ev with e1 e2 e3
 subst e1
 obtain ⟨v0, rfl⟩ := cells_Step hr
 have hpw := hp.keep (w' := wr) (fun p hp => hb.cell (p := p) (by rw [hp]; exact hbB))
 obtain ⟨-, -, p2⟩ := parts_Step hr
 exact ⟨b, off, v0, _, rfl, hbB, Lib.hid rfl, hpw 0 (by simp), hpw 1 (by simp), hpw 2 (by simp), p2.below hb⟩
theorem rd_walk {w : World} {B : Nat} {f s : Value} {k : Dat sWalk} (h : Rd w B sWalk [f, s] k) (hz : sz sWalk k ≤ 1048576) :
  ∃ F fn fc S sn sc, f = .slice F fn fc ∧ s = .slice S sn sc ∧ Seg w B F fn k.1 ∧ Cap F fn fc ∧ fn ≤ 1048576 ∧ k.2.length = sn ∧ sn ≤ 1048576 ∧ Cap S sn sc ∧ Rd w B sI [.slice F fn fc] k.1 ∧ Rd w B sStepS [.slice S sn sc] k.2 ∧ sz sI k.1 ≤ 1048576 ∧ ∀ i, i < sn → sz sI (k.2.getD i (0, 0, [])).2.2 ≤ 1048576 := by
 have hz0 : sz sI k.1 + sz sStepS k.2 ≤ 1048576 := hz
 obtain ⟨p1, p2⟩ := parts_Walk h
 obtain ⟨F, fn, fc, rfl, hs, hc⟩ := rd_ints.1 p1
 obtain ⟨S, sc, rfl, hc2⟩ := p2.slice
 have hz1 : sz sI k.1 ≤ 1048576 := by omega
 have hz2 : sz sStepS k.2 ≤ 1048576 := by omega
 refine ⟨F, fn, fc, S, List.length k.2, sc, rfl, rfl, hs, hc, len_ints hs.1 hz1, rfl, sz_len hz2, hc2, p1, p2, hz1, fun i hi => ?_⟩
 have h1 := sz_each hz2 hi
 have h2 : sz sStep (k.2.getD i (0, 0, [])) = 0 + (0 + sz sI (k.2.getD i (0, 0, [])).2.2) := rfl
 have h3 : sz sStep (k.2.getD i (0, 0, [])) ≤ 1048576 := h1
 omega
theorem walk_noR {sg : List Int} {rs : List Rl} {k : Wk} (h : rightB sg rs k.1 = false) : walkB sg rs k = false := by unfold walkB; rw [h]; rfl
theorem walk_long {sg : List Int} {rs : List Rl} {k : Wk} {n : Nat} (hn : k.2.length = n) (h : ¬ n ≤ 60) : walkB sg rs k = false := by unfold walkB; rw [hn, decide_eq_false h]; simp
theorem walk_yes {sg : List Int} {rs : List Rl} {k : Wk} {n : Nat} (hr : rightB sg rs k.1 = true) (hn : k.2.length = n) (h : n ≤ 60) : walkB sg rs k = (goOn sg rs k.1 k.2).isSome := by unfold walkB; rw [hr, hn, decide_eq_true h]; rfl
theorem go_step {sg : List Int} {rs : List Rl} {t u : List Int} {x : St} {L : List St} {i : Nat} (hi : i < L.length) (hx : L.getD i (0, 0, []) = x) (h : stepAtO sg rs t x.1 x.2.1 = some u) (he : u = x.2.2) : goOn sg rs t (L.drop i) = goOn sg rs u (L.drop (i + 1)) := by
 have e : L.drop i = x :: L.drop (i + 1) := by
  rw [← hx, List.drop_eq_getElem_cons hi]
  simp [List.getD, hi]
 rw [e, goOn, h]
 dsimp only
 rw [if_pos he]
theorem go_none {sg : List Int} {rs : List Rl} {t : List Int} {x : St} {L : List St} {i : Nat} (hi : i < L.length) (hx : L.getD i (0, 0, []) = x) (h : stepAtO sg rs t x.1 x.2.1 = none) : goOn sg rs t (L.drop i) = none := by
 have e : L.drop i = x :: L.drop (i + 1) := by
  rw [← hx, List.drop_eq_getElem_cons hi]
  simp [List.getD, hi]
 rw [e, goOn, h]
theorem go_differ {sg : List Int} {rs : List Rl} {t u : List Int} {x : St} {L : List St} {i : Nat} (hi : i < L.length) (hx : L.getD i (0, 0, []) = x) (h : stepAtO sg rs t x.1 x.2.1 = some u) (he : ¬ u = x.2.2) : goOn sg rs t (L.drop i) = none := by
 have e : L.drop i = x :: L.drop (i + 1) := by
  rw [← hx, List.drop_eq_getElem_cons hi]
  simp [List.getD, hi]
 rw [e, goOn, h]
 dsimp only
 rw [if_neg he]
theorem go_all {sg : List Int} {rs : List Rl} {t : List Int} {L : List St} {i : Nat} (hi : L.length = i) : goOn sg rs t (L.drop i) = some t := by rw [List.drop_eq_nil_of_le (by omega)]; rfl
end walkSpec
end
section
namespace walkSpec
open Go.RowKit base ints sig term termOk endAt endOf marks app sym sub segs segsHelp kinds termFacts same shifted shape kindsR kindsW varsOf ruleMath ruleSpec stepMath walkMath stepSpec ownL heldT
set_option maxRecDepth 100000
theorem end_none {k : Wk} (h : k.2.length = 0) : endL k = k.1 := by unfold endL; rw [List.eq_nil_of_length_eq_zero h]; rfl
theorem end_last {k : Wk} {n : Nat} {x : St} (h : k.2.length = n + 1) (hx : k.2.getD n (0, 0, []) = x) : endL k = x.2.2 := by
 unfold endL
 have : k.2.getLast? = some x := by
  rw [List.getLast?_eq_getElem?, h, ← hx]
  have hn : n < k.2.length := by omega
  simp [List.getD, hn]
 rw [this]
def endW (sg : List Int) (rs : List Rl) (k : Wk) : List Int := if walkB sg rs k = true then endL k else []
theorem end_len {k : Wk} (h : sz sWalk k ≤ 1048576) : (endL k).length ≤ 1048576 := by
 have hz0 : sz sI k.1 + sz sStepS k.2 ≤ 1048576 := h
 by_cases h0 : k.2.length = 0
 ·rw [end_none h0]
  have h1 : sz sI k.1 ≤ 1048576 := by omega
  rwa [sz_ints] at h1
 ·obtain ⟨n, hn⟩ : ∃ n, k.2.length = n + 1 := ⟨k.2.length - 1, by omega⟩
  rw [end_last hn rfl]
  have h1 := sz_each (e := 75) (s := sStep) (d := k.2) (L := 1048576) (j := n) (show sz sStepS k.2 ≤ 1048576 by omega) (by omega)
  have h2 : sz sStep (k.2.getD n (dft sStep)) = 0 + (0 + sz sI (k.2.getD n (0, 0, [])).2.2) := rfl
  rw [h2, sz_ints] at h1
  omega
theorem endW_len {sg : List Int} {rs : List Rl} {k : Wk} (h : sz sWalk k ≤ 1048576) : (endW sg rs k).length ≤ 1048576 := by
 unfold endW
 split
 ·exact end_len h
 ·simp
end walkSpec
end
section
namespace walkSpec
open Go.RowKit base ints sig term termOk endAt endOf marks app sym sub segs segsHelp kinds termFacts same shifted shape kindsR kindsW varsOf ruleMath ruleSpec stepMath walkMath stepSpec ownL heldT
set_option maxRecDepth 100000
def AnsWalk (w : World) (k : Wk) (b : Bool) (e : Ending) (w' : World) : Prop := ∃ A0 n0 c0 A1 n1 c1, e = .returned (.tuple #[.agg #[.slice A0 n0 c0, .slice A1 n1 c1], .bool b]) ∧ Owned w' w.heap.size w'.heap.size sWalk [.slice A0 n0 c0, .slice A1 n1 c1] k ∧ Below w.heap.size w w'
theorem owned_zero (w : World) (lo hi : Nat) : Owned w lo hi sWalk [.slice none 0 0, .slice none 0 0] (([], []) : List Int × List St) :=
 ⟨[], ⟨[.slice none 0 0], [.slice none 0 0], [], [], rfl, rfl, ⟨none, 0, 0, rfl, rfl, .inl ⟨rfl, rfl, rfl, rfl⟩⟩, ⟨none, 0, 0, rfl, rfl, .inl ⟨rfl, rfl, rfl, rfl⟩⟩⟩, List.nodup_nil, fun k hk => by cases hk⟩
theorem owned_walk {w : World} {lo mid hi : Nat} {X O : Option Addr} {xn xc n c : Nat} {f : List Int} {L : List St} (h : Ownd w lo mid X xn xc f) (h2 : OwnL w mid hi 75 sStep O n c L) (h3 : lo ≤ mid) (h4 : mid ≤ hi) : Owned w lo hi sWalk [.slice X xn xc, .slice O n c] (f, L) :=
 Owned.cat (ow_ints.2 h) h2.owned (Nat.le_refl _) h3 h4
theorem ansWalk_no {w w' : World} {k : Wk} {b : Bool} (h : k = ([], []) ∧ b = false) (hb : Below w.heap.size w w') : AnsWalk w k b (.returned (.tuple #[.agg #[.slice none 0 0, .slice none 0 0], .bool false])) w' :=
 ⟨none, 0, 0, none, 0, 0, by rw [h.2], by rw [h.1]; exact owned_zero _ _ _, hb⟩
section
variable {sg : List Int} {rs : List Rl} {a b : Wk}
end
structure Jn (w : World) (a v f s f' s' : Value) (wr : World) : Prop where
 r0 : Row wr w.heap.size 29 #[a, v]
 r1 : Row wr (w.heap.size + 1) 34 #[f, s]
 r2 : Row wr (w.heap.size + 1 + 1) 34 #[f', s']
 r3 : Row wr (w.heap.size + 1 + 1 + 1) 34 #[.slice none 0 0, .slice none 0 0]
 b : Below w.heap.size w wr
section
variable {w wr w' : World} {a v f s f' s' : Value}
theorem Jn.next (h : Jn w a v f s f' s' wr) (hb : Below wr.heap.size wr w') : Jn w a v f s f' s' w' := ⟨h.r0.next hb, h.r1.next hb, h.r2.next hb, h.r3.next hb, next_trans h.b hb⟩
theorem Jn.below {lo : Nat} (h : Jn w a v f s f' s' wr) (hb : Below lo wr w') (hl : w.heap.size + 1 + 1 + 1 + 1 ≤ lo) : Jn w a v f s f' s' w' := ⟨h.r0.below hb (by omega), h.r1.below hb (by omega), h.r2.below hb (by omega), h.r3.below hb (by omega), h.b.trans (hb.mono (by omega))⟩
theorem Jn.size (h : Jn w a v f s f' s' wr) : w.heap.size + 1 + 1 + 1 + 1 ≤ wr.heap.size := h.r3.lt
end
end walkSpec
end
end Go.Proofs.YtmoidijngeijkaaGreat
