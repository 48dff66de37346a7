/-
  MERGED: my texts DelPk, RenImpl, OvAdd, FinMath, Done, FinImpl, WalkSpec, WalkSpecB, StepImplC, WalkImpl, one behind the other, as they are. By an AI agent.
-/
import Derived.Test.YtlmofkeemlfpgaaGreatMFnExactClosedIn8
import Derived.Maps.Own
import Derived.Maps.OwnOps
import Derived.Maps.OwnSet
import Derived.Maps.Views
import Derived.Maps.Keyed
import Derived.WalkArith
namespace Go.Proofs.YtlmofkeemlfpgaaGreat
section
namespace delPk
open Go.RowKit base ints sig marks app appAt sym segs inside shape kindsR kindsP peakMath pkAll ownL drawX pickOwn rootSpec
set_option maxRecDepth 100000
def FstP (f : Pk → Bool) (D : List Pk) (z : Int) : Prop := (z = -1 ∧ ∀ j, j < D.length → f (D.getD j (dft sPeak)) = false) ∨ ∃ k : Nat, z = (k : Int) ∧ k < D.length ∧ f (D.getD k (dft sPeak)) = true ∧ ∀ j, j < k → f (D.getD j (dft sPeak)) = false
def AnsFp (w : World) (f : Pk → Bool) (D : List Pk) (e : Ending) (w' : World) : Prop := ∃ z : Int, e = .returned (.int .i64 z) ∧ FstP f D z ∧ Below w.heap.size w w'
def HeadFp (w : World) (n : Nat) (f : Pk → Bool) (D : List Pk) (i : Value) (wr : World) : Prop := ∃ k : Nat, k ≤ n ∧ i = .int .i64 k ∧ (∀ j, j < k → f (D.getD j (dft sPeak)) = false) ∧ Below w.heap.size w wr
def posF (f : Pk → Bool) (D : List Pk) (j : Nat) : List Nat := (List.range j).filter fun k => !f (D.getD k (dft sPeak))
section
variable {f : Pk → Bool} {D : List Pk} {j : Nat}
theorem posF_mem {k : Nat} (h : k ∈ posF f D j) : k < j := List.mem_range.1 (List.mem_filter.1 h).1
theorem posF_nodup : (posF f D j).Nodup := List.Nodup.sublist List.filter_sublist List.nodup_range
theorem filter_posF : D.filter (fun x => !f x) = (posF f D D.length).map fun k => D.getD k (dft sPeak) := by
 unfold posF
 have e : D = (List.range D.length).map fun k => D.getD k (dft sPeak) := by
  refine List.ext_getElem (by simp) fun i h1 h2 => ?_
  simp [List.getD, h1]
 conv => lhs; rw [e]
 rw [List.filter_map]
 rfl
end
structure Dp (w : World) (g0 n c : Nat) (vs : List Value) (Q : List Nat) (i j : Nat) (W : World) : Prop where
 gr : w.grownBy W (some g0)
 len : Q.length = i
 lt : i < j
 row : ∃ cur, Row W g0 38 cur ∧ cur.size = c * 6 ∧ (∀ k, j * 6 ≤ k → k < n * 6 → cur[k]? = vs[k]?) ∧ ∀ k r, k < i → r < 6 → cur[k * 6 + r]? = vs[Q.getD k 0 * 6 + r]?
section
variable {w W W' : World} {g0 n c i j : Nat} {vs : List Value} {Q : List Nat}
theorem Dp.next (h : Dp w g0 n c vs Q i j W) (hb : Below W.heap.size W W') : Dp w g0 n c vs Q i j W' := by
 obtain ⟨cur, h1, h2⟩ := h.row
 exact ⟨⟨hb.os.trans h.gr.os, hb.tape.trans h.gr.tape, hb.output.trans h.gr.output, Nat.le_trans h.gr.size hb.size, fun k hk hne => (hb.block k (Nat.lt_of_lt_of_le hk h.gr.size)).trans (h.gr.block k hk hne)⟩, h.len, h.lt, cur, h1.next hb, h2⟩
theorem Dp.skip (h : Dp w g0 n c vs Q i j W) : Dp w g0 n c vs Q i (j + 1) W := by
 obtain ⟨cur, h1, h2, h3, h4⟩ := h.row
 exact ⟨h.gr, h.len, by have := h.lt; omega, cur, h1, h2, fun k hk => h3 k (by omega), h4⟩
theorem grown_trans {A B C : World} {r : Option Nat} (h : A.grownBy B r) (k : B.grownBy C r) : A.grownBy C r := ⟨k.os.trans h.os, k.tape.trans h.tape, k.output.trans h.output, Nat.le_trans h.size k.size, fun q hq hne => (k.block q (Nat.lt_of_lt_of_le hq h.size) hne).trans (h.block q hq hne)⟩
theorem Dp.keep {u0 u1 u2 u3 u4 u5 : Value} (h : Dp w g0 n c vs Q i j W) (h0 : vs[j * 6]? = some u0) (h1 : vs[j * 6 + 1]? = some u1) (h2 : vs[j * 6 + 2]? = some u2) (h3 : vs[j * 6 + 3]? = some u3) (h4 : vs[j * 6 + 4]? = some u4) (h5 : vs[j * 6 + 5]? = some u5) (hj : j < n) (hc : n ≤ c) :
  Dp w g0 n c vs (Q ++ [j]) (i + 1) (j + 1) ((((((W.setCell ⟨g0, i * 6, none⟩ u0).setCell ⟨g0, i * 6 + 1, none⟩ u1).setCell ⟨g0, i * 6 + 2, none⟩ u2).setCell ⟨g0, i * 6 + 3, none⟩ u3).setCell ⟨g0, i * 6 + 4, none⟩ u4).setCell ⟨g0, i * 6 + 5, none⟩ u5) := by
 obtain ⟨cur, q1, q2, q3, q4⟩ := h.row
 have hlt := h.lt
 have gs := grown_trans (grown_trans (grown_trans (grown_trans (grown_trans (grown_trans h.gr (findW.grown_set W g0 (i * 6) u0)) (findW.grown_set _ g0 (i * 6 + 1) u1)) (findW.grown_set _ g0 (i * 6 + 2) u2)) (findW.grown_set _ g0 (i * 6 + 3) u3)) (findW.grown_set _ g0 (i * 6 + 4) u4)) (findW.grown_set _ g0 (i * 6 + 5) u5)
 refine ⟨gs, by simp [h.len], by omega, _, (((((q1.put (i * 6) u0).put (i * 6 + 1) u1).put (i * 6 + 2) u2).put (i * 6 + 3) u3).put (i * 6 + 4) u4).put (i * 6 + 5) u5, by simpa using q2, fun k hk hkn => ?_, fun k r hk hr => ?_⟩
 ·simp only [Array.getElem?_setIfInBounds, Array.size_setIfInBounds]
  rw [if_neg (by omega), if_neg (by omega), if_neg (by omega), if_neg (by omega), if_neg (by omega), if_neg (by omega)]
  exact q3 k (by omega) hkn
 ·have hsz : i * 6 + 5 < cur.size := by omega
  simp only [Array.getElem?_setIfInBounds, Array.size_setIfInBounds]
  by_cases e : k = i
  ·subst e
   have e2 : (Q ++ [j]).getD k 0 = j := by simp [List.getD, ← h.len]
   rw [e2]
   have hcases : r = 0 ∨ r = 1 ∨ r = 2 ∨ r = 3 ∨ r = 4 ∨ r = 5 := by omega
   rcases hcases with rfl | rfl | rfl | rfl | rfl | rfl
   ·rw [if_neg (by omega), if_neg (by omega), if_neg (by omega), if_neg (by omega), if_neg (by omega), if_pos (by omega), if_pos (by omega)]; exact h0.symm
   ·rw [if_neg (by omega), if_neg (by omega), if_neg (by omega), if_neg (by omega), if_pos rfl, if_pos (by omega)]; exact h1.symm
   ·rw [if_neg (by omega), if_neg (by omega), if_neg (by omega), if_pos rfl, if_pos (by omega)]; exact h2.symm
   ·rw [if_neg (by omega), if_neg (by omega), if_pos rfl, if_pos (by omega)]; exact h3.symm
   ·rw [if_neg (by omega), if_pos rfl, if_pos (by omega)]; exact h4.symm
   ·rw [if_pos rfl, if_pos (by omega)]; exact h5.symm
  ·rw [if_neg (by omega), if_neg (by omega), if_neg (by omega), if_neg (by omega), if_neg (by omega), if_neg (by omega), q4 k r (by omega) hr]
   have e2 : (Q ++ [j]).getD k 0 = Q.getD k 0 := by simp [List.getD, List.getElem?_append_left (show k < Q.length by rw [h.len]; omega)]
   rw [e2]
end
def zerosP (n : Nat) : List Value := (Builtin.zeroCells #[.slice none 0 0, .slice none 0 0, .slice none 0 0, .int .i64 0, .int .i64 0, .int .i64 0] n).toList
theorem Dp.done {w W : World} {g0 n c i lo hi : Nat} {vs : List Value} {D : List Pk} {f : Pk → Bool} {G : Nat → List Nat} (h : Dp w g0 n c vs (posF f D n) i n W) (o : OwnG w lo hi 38 sPeak (some ⟨g0, 0, none⟩) n c D vs G) (hc : n ≤ c) (hcm : c ≤ maxLen) (hlo : lo ≤ w.heap.size) :
  OwnL (W.setCells g0 (i * 6) (zerosP (n - i))) lo (W.setCells g0 (i * 6) (zerosP (n - i))).heap.size 38 sPeak (some ⟨g0, 0, none⟩) i c (D.filter fun x => !f x) ∧ Below lo w (W.setCells g0 (i * 6) (zerosP (n - i))) := by
 obtain ⟨cur, h1, h2, -, h4⟩ := h.row
 obtain ⟨o1, o2, o3, o4, o5, o6⟩ := o
 have hg0 : lo ≤ g0 ∧ g0 < w.heap.size := World.ownsRow.lt o3 g0 rfl
 have hlt := h.lt
 obtain ⟨cur', r1, r2, r3, r4, r5⟩ := delFunc.set_run (zerosP (n - i)) (i * 6) W cur h1
 generalize W.setCells g0 (i * 6) (zerosP (n - i)) = V at r1 r4 r5 ⊢
 have hgr : w.grownBy V (some g0) := grown_trans h.gr r4
 have hlen : (D.filter fun x => !f x).length = i := by rw [filter_posF, List.length_map, o1, h.len]
 have hQ : ∀ k, k < i → (posF f D n).getD k 0 < n := fun k hk => by
  have hk2 : k < (posF f D n).length := by rw [h.len]; exact hk
  have e : (posF f D n).getD k 0 = (posF f D n)[k] := by simp [List.getD, hk2]
  rw [e]
  exact posF_mem (List.getElem_mem hk2)
 have hinj : ∀ a b, a < i → b < i → (posF f D n).getD a 0 = (posF f D n).getD b 0 → a = b := fun a b ha hb e => by
  have ha2 : a < (posF f D n).length := by rw [h.len]; exact ha
  have hb2 : b < (posF f D n).length := by rw [h.len]; exact hb
  have e1 : (posF f D n).getD a 0 = (posF f D n)[a] := by simp [List.getD, ha2]
  have e2 : (posF f D n).getD b 0 = (posF f D n)[b] := by simp [List.getD, hb2]
  rw [e1, e2] at e
  have hp := List.pairwise_iff_getElem.1 (posF_nodup (f := f) (D := D) (j := n))
  rcases Nat.lt_trichotomy a b with h3 | h3 | h3
  ·exact absurd e (hp _ _ ha2 hb2 h3)
  ·exact h3
  ·exact absurd e.symm (hp _ _ hb2 ha2 h3)
 refine ⟨⟨hlen, fun k hk => ?_, cur'.toList.take (i * 6), fun k => G ((posF f D n).getD k 0), ⟨by show (cur'.toList.take (i * 6)).length = i * 6; simp; omega, .inr ⟨g0, c, cur', rfl, hg0.1, r1, by omega, hcm, by show cur'.size = c * 6; omega, rfl⟩⟩, (fun e => by cases e), flat_inj o5 hQ hinj, fun k hk => ⟨?_, fun q hq => ?_⟩⟩, (Below.refl lo w).grown hgr hlo (fun k hk => by injection hk with hk; rw [← hk]; exact hg0.1)⟩
 ·injection hk with hk
  rw [← hk]
  exact Nat.lt_of_lt_of_le hg0.2 hgr.size
 ·have hq := hQ k hk
  have e2 := (o6 _ hq).1
  have e3 : (D.filter fun x => !f x).getD k (dft sPeak) = D.getD ((posF f D n).getD k 0) (dft sPeak) := by
   have hk2 : k < (posF f D n).length := by rw [h.len]; exact hk
   rw [filter_posF, o1]
   simp [List.getD, hk2]
  have e4 : cellsOf 6 (cur'.toList.take (i * 6)) k = cellsOf 6 vs ((posF f D n).getD k 0) := by
   refine List.ext_getElem? fun r => ?_
   unfold cellsOf
   by_cases hr : r < 6
   ·rw [List.getElem?_take, if_pos hr, List.getElem?_drop, List.getElem?_take, if_pos (by omega), List.getElem?_take, if_pos hr, List.getElem?_drop, Array.getElem?_toList, r3 _ (by omega), h4 k r hk hr]
   ·rw [List.getElem?_take, if_neg hr, List.getElem?_take, if_neg hr]
  show Ow V sPeak (cellsOf 6 _ k) ((D.filter fun x => !f x).getD k (dft sPeak)) _
  rw [e4, e3]
  exact Ow.keep (s := sPeak) e2 fun q hq' => hgr.block q (e2.lt q hq') (by
   have := ((o6 _ hq).2 q hq').2.2
   exact this)
 ·have h9 := o6 _ (hQ k hk)
  exact ⟨(h9.2 q hq).1, Nat.lt_of_lt_of_le (h9.1.lt q hq) hgr.size, (h9.2 q hq).2.2⟩
theorem Dp.cells {w W : World} {g0 n c i j : Nat} {vs : List Value} {Q : List Nat} (h : Dp w g0 n c vs Q i j W) (hj : j ≤ n) (hc : n ≤ c) : ∃ cur o0 o1 o2 o3 o4 o5, Row W g0 38 cur ∧ cur.size = c * 6 ∧ cur[i * 6]? = some o0 ∧ cur[i * 6 + 1]? = some o1 ∧ cur[i * 6 + 2]? = some o2 ∧ cur[i * 6 + 3]? = some o3 ∧ cur[i * 6 + 4]? = some o4 ∧ cur[i * 6 + 5]? = some o5 := by
 obtain ⟨cur, h1, h2, -, -⟩ := h.row
 have := h.lt
 exact ⟨cur, _, _, _, _, _, _, h1, h2, Array.getElem?_eq_getElem (by omega), Array.getElem?_eq_getElem (by omega), Array.getElem?_eq_getElem (by omega), Array.getElem?_eq_getElem (by omega), Array.getElem?_eq_getElem (by omega), Array.getElem?_eq_getElem (by omega)⟩
end delPk
end
section
namespace renImpl
open Go.RowKit base ints sig cursor term termOk marks app appAt sym segs termFacts varsMath fillMath Go.Proofs.YtlmofkeemlfpgaaGreat.look renMath rename
set_option maxRecDepth 100000
def vn (n : Int) : Int := -1 - n
theorem vn_inj : ∀ a b : Int, vn a = vn b → a = b := fun a b h => by unfold vn at h; omega
structure Side (p : Nat) (r : Option Nat) (a b : World) : Prop where
 os : b.os = a.os
 tape : b.tape = a.tape
 output : b.output = a.output
 size : a.heap.size ≤ b.heap.size
 block : ∀ k, k < a.heap.size → k ≠ p → some k ≠ r → b.heap[k]? = a.heap[k]?
section
variable {p : Nat} {r : Option Nat} {a b c : World}
theorem Side.of_below (h : Below a.heap.size a b) : Side p r a b := ⟨h.os, h.tape, h.output, h.size, fun k hk _ _ => h.block k hk⟩
theorem Side.of_grown (h : a.grownBy b r) : Side p r a b := ⟨h.os, h.tape, h.output, h.size, fun k hk _ hr => h.block k hk hr⟩
theorem Side.of_var (h : a.grownBy b (some p)) : Side p r a b := ⟨h.os, h.tape, h.output, h.size, fun k hk hp _ => h.block k hk (fun e => by injection e with e; exact hp e)⟩
theorem Side.trans (h : Side p r a b) (k : Side p r b c) : Side p r a c :=
 ⟨k.os.trans h.os, k.tape.trans h.tape, k.output.trans h.output, Nat.le_trans h.size k.size, fun i hi hp hr => (k.block i (Nat.lt_of_lt_of_le hi h.size) hp hr).trans (h.block i hi hp hr)⟩
theorem Own.side {base n cc : Nat} {O : Option Addr} {xs : List Int} {cs : Array Value} (h : Own a base (.slice O n cc) xs) (hs : Side p r a b) (hv : Row a p 22 cs) (hne : blk O = none ∨ blk O ≠ r) : Own b base (.slice O n cc) xs := by
 obtain ⟨q1, q2⟩ := h
 refine ⟨q1, ?_⟩
 rcases q2 with q2 | ⟨g, cap, cur, e, hg, hh, rest⟩
 ·exact .inl q2
 ·refine .inr ⟨g, cap, cur, e, hg, ?_, rest⟩
  have hlt : g < a.heap.size := (Array.getElem?_eq_some_iff.1 hh).1
  have hb : blk O = some g := by rw [← blk_own O n cc, e]; rfl
  have hgp : g ≠ p := Row.ne_ (t := 2) (t' := 22) hh hv (by decide)
  exact (hs.block g hlt hgp (by rw [hb] at hne; rcases hne with h | h; cases h; exact h)).trans hh
end
theorem own_ne {w : World} {base B n c : Nat} {S : Option Addr} {xs : List Int} {cs : Array Value} (h : Own w base (.slice S n c) xs) (hr : Row w B 22 cs) : blk S ≠ some B := by
 have hl := Own.len h
 rcases own_form (n := n) (vs := xs.map (Value.int .i64)) (by rw [hl]; rw [hl] at h; exact h) with ⟨rfl, _⟩ | ⟨g, cur, rfl, _, hrow, _⟩
 ·intro e; cases e
 ·intro e
  have e2 : g = B := Option.some.inj e
  exact Row.ne_ hr hrow (by decide) e2.symm
theorem one_seg (w : World) (y : Int) : Seg (w.alloc (.cells #[.int .i64 y] 2)) (w.alloc (.cells #[.int .i64 y] 2)).heap.size (some ⟨w.heap.size, 0, none⟩) 1 [y] :=
 (Row.new w 2 #[.int .i64 y]).seg rfl (by simp) (fun j hj => by
  have e : j = 0 := by omega
  subst e
  rfl)
theorem ne_flip {a b : Option Nat} (h : a = none ∨ a ≠ b) : b = none ∨ b ≠ a := by
 cases b with
 | none => exact .inl rfl
 | some k =>
  right
  rintro rfl
  rcases h with h | h
  ·cases h
  ·exact h rfl
theorem blk_lt {w : World} {base : Nat} {A : Option Addr} {n c : Nat} {xs : List Int} (h : Own w base (.slice A n c) xs) : ∀ k, blk A = some k → base ≤ k ∧ k < w.heap.size := fun k hk => World.ownsRow.lt h k (by rw [blk_own]; exact hk)
theorem ne_new {w : World} {base : Nat} {S : Option Addr} {n c : Nat} {xs : List Int} {a : Option Nat} (h : Own w base (.slice S n c) xs) (q : Nat) (hq : w.heap.size ≤ q) (ha : a = some q) : a = none ∨ a ≠ blk S := by
 right
 rintro rfl
 have := (blk_lt h q ha).2
 omega
def ordF (o t : List Int) : List Int := t.foldl extV o
theorem ordF_take {o t : List Int} {k : Nat} {x : Int} (hk : k < t.length) (hx : t.getD k 0 = x) : ordF o (t.take (k + 1)) = extV (ordF o (t.take k)) x := by
 unfold ordF
 rw [take_snoc hk hx, List.foldl_append]
 rfl
theorem ordF_len (o t : List Int) : (ordF o t).length ≤ o.length + t.length := fold_ext_len t o
theorem ordF_same {o : List Int} : ∀ {t : List Int}, (∀ x ∈ t, x < 0 → x ∈ o) → ordF o t = o
 | [], _ => rfl
 | x :: t, h => by
  have e : extV o x = o := by
   unfold extV
   split
   ·unfold ext; rw [if_pos (h x (List.mem_cons_self ..) (by assumption))]
   ·rfl
  show t.foldl extV (extV o x) = o
  rw [e]
  exact ordF_same (fun y hy => h y (List.mem_cons_of_mem _ hy))
def renF (o t : List Int) : List Int := t.map (ren (ordF o t))
theorem renF_take {o t : List Int} {k : Nat} {x : Int} (hk : k < t.length) (hx : t.getD k 0 = x) : renF o (t.take (k + 1)) = renF o (t.take k) ++ [ren (extV (ordF o (t.take k)) x) x] := by
 unfold renF
 rw [ordF_take hk hx, take_snoc hk hx, List.map_append]
 congr 1
 refine List.map_congr_left fun n hn => ren_ext fun h0 => ?_
 exact fold_ext_mem.2 (.inl ⟨hn, h0⟩)
theorem Side.on {B : Nat} {r r' : Option Nat} {a b c : World} (h : Side B r a b) (hr : r' = r ∨ ∃ k, r' = some k ∧ a.heap.size ≤ k) (k : Side B r' b c) : Side B r a c :=
 ⟨k.os.trans h.os, k.tape.trans h.tape, k.output.trans h.output, Nat.le_trans h.size k.size, fun i hi hp hne => (k.block i (Nat.lt_of_lt_of_le hi h.size) hp (fun e => by
  rcases hr with e2 | ⟨q, e2, hq⟩
  ·exact hne (by rw [e, e2])
  ·rw [e2] at e; injection e with e; omega)).trans (h.block i hi hp hne)⟩
theorem Side.grow {B : Nat} {r q : Option Nat} {a b c : World} (h : Side B r a b) (hg : b.grownBy c q) (hq : ∀ k, q = some k → a.heap.size ≤ k) : Side B r a c :=
 ⟨hg.os.trans h.os, hg.tape.trans h.tape, hg.output.trans h.output, Nat.le_trans h.size hg.size, fun i hi hp hne => (hg.block i (Nat.lt_of_lt_of_le hi h.size) (fun e => by have := hq i e.symm; omega)).trans (h.block i hi hp hne)⟩
theorem Side.allocs {B : Nat} {r : Option Nat} {a b : World} (h : Side B r a b) (o : Obj) : Side B r a (b.alloc o) :=
 ⟨h.os, h.tape, h.output, by have := h.size; simp; omega, fun i hi hp hne => (Below.heap_alloc b o i (Nat.lt_of_lt_of_le hi h.size)).trans (h.block i hi hp hne)⟩
theorem renaming_ (w : World) : Calls Tryz.prog 100 #[] w fun e w' => e = .returned (.func (.func 132) #[] #[.pointer (some ⟨w.heap.size, 0, none⟩)]) ∧ w' = w.alloc (.cells #[.slice none 0 0] 22) := by
 have hmf : ∀ (fn : Fn) (first cap : Array Value) (w : World), (Instr.makeFunc fn first cap).run Tryz.prog w = .ok (.func fn first cap) w := fun _ _ _ _ => rfl
 go_enter Tryz.func100, Tryz.ntmps100
 go_wp2
 go_ret
 exact ⟨rfl, rfl⟩
end renImpl
end
section
open Go.Lib (hid)
namespace ovAdd
open Go.RowKit base ints sig term sym varsOf marks app appAt segs renMath rename renImpl pathSpec ovStart
set_option maxRecDepth 100000
def castL (l : List Nat) : List Int := l.map fun c : Nat => (c : Int)
theorem castL_app (a b : List Nat) : castL (a ++ b) = castL a ++ castL b := by simp [castL]
theorem castL_len (l : List Nat) : (castL l).length = l.length := by simp [castL]
def Apart2 (X K : Option Addr) : Prop := ∀ k, blk X = some k → blk K ≠ some k
theorem Apart2.or {X K : Option Addr} (h : Apart2 X K) : blk X = none ∨ blk X ≠ blk K := by
 cases e : blk X with
 | none => exact .inl rfl
 | some k => exact .inr fun e' => h k e e'.symm
theorem Apart2.ro {X K : Option Addr} (h : Apart2 X K) : blk K = none ∨ blk K ≠ blk X := by
 cases e : blk K with
 | none => exact .inl rfl
 | some k => exact .inr fun e' => h k e'.symm e
def HeadAdd (w : World) (p : Nat) (T0 T1 T2 T3 T4 : Value) (X : Option Addr) (xn xc : Nat) (nums lks side : List Int) (m : Nat) (i : Value) (wr : World) : Prop :=
 ∃ (k : Nat) (K : Option Addr) (kc : Nat), i = .int .i64 (k : Int) ∧ k ≤ m ∧ Row wr p 122 #[T0, T1, T2, T3, T4, .slice X xn xc, .slice K (xn + k) kc] ∧ Own wr (p + 1) (.slice X xn xc) nums ∧ Own wr (p + 1) (.slice K (xn + k) kc) (lks ++ castL (lkT xn side k)) ∧ Apart2 X K ∧ Below p w wr
def AnsAdd (w : World) (p : Nat) (T0 T1 T2 T3 T4 : Value) (xn m : Nat) (nums lks side : List Int) (e : Ending) (w' : World) : Prop :=
 (∃ v, e = .returned v) ∧ ∃ (X : Option Addr) (xc : Nat) (K : Option Addr) (kc : Nat), Row w' p 122 #[T0, T1, T2, T3, T4, .slice X (xn + m) xc, .slice K (xn + m) kc] ∧ Own w' (p + 1) (.slice X (xn + m) xc) (nums ++ side) ∧ Own w' (p + 1) (.slice K (xn + m) kc) (lks ++ castL (lkT xn side m)) ∧ Apart2 X K ∧ Below p w w'
theorem put_below {w w' : World} {p i : Nat} {v : Value} (h : Below p w w') : Below p w (w'.setCell ⟨p, i, none⟩ v) :=
 ⟨h.os, h.tape, h.output, by have := h.size; simp; omega, fun k hk => (Below.heap_setCell w' _ _ k (fun e => by simp at e; omega)).trans (h.block k hk)⟩
theorem own_put9 {w : World} {p i : Nat} {v : Value} {A : Option Addr} {n c : Nat} {xs : List Int} (h : Own w (p + 1) (.slice A n c) xs) : Own (w.setCell ⟨p, i, none⟩ v) (p + 1) (.slice A n c) xs :=
 Own.far h (cursor.grown_put (World.grownBy.refl _ _) _ _) fun k hk => by injection hk; omega
theorem add_step {w wr w2 : World} {p : Nat} {T0 T1 T2 T3 T4 : Value} {X : Option Addr} {xn xc : Nat} {nums lks side : List Int} {m k : Nat} {K K' : Option Addr} {kc kc' : Nat} {y : Int} {cs : Array Value} (hk : k < m) (hr : Row wr p 122 #[T0, T1, T2, T3, T4, .slice X xn xc, .slice K (xn + k) kc])
  (hX : Own wr (p + 1) (.slice X xn xc) nums) (hs : Apart2 X K) (hb : Below p w wr) (hK : Own wr (p + 1) (.slice K (xn + k) kc) (lks ++ castL (lkT xn side k))) (hy : y = ((xn + fi side k : Nat) : Int))
  (ho2 : Own w2 (p + 1) (.slice K' (xn + k + 1) kc') (lks ++ castL (lkT xn side k) ++ [y])) (hg : (wr.alloc (.cells cs 2)).grownBy w2 (blk K)) (hat : blk K' = blk K ∨ blk K' = some (wr.alloc (.cells cs 2)).heap.size) :
  HeadAdd w p T0 T1 T2 T3 T4 X xn xc nums lks side m (.int .i64 ((k : Int) + 1)) (w2.setCell ⟨p, 6, none⟩ (.slice K' (xn + k + 1) kc')) := by
 have hlt := hr.lt
 have hp : blk K ≠ some p := fun e => by have := (own_lt hK p e).1; omega
 have r2 := Row.away (hr.alloc (.cells cs 2)) hg hp
 have x2 := Own.kept (Own.alloc hX (.cells cs 2)) hg hs.or
 refine ⟨k + 1, K', kc', by simp, hk, ?_, own_put9 x2, ?_, ?_, put_below ?_⟩
 ·have := r2.put 6 (.slice K' (xn + k + 1) kc')
  exact this
 ·rw [lkT_next, castL_app, ← List.append_assoc]
  have e : castL [xn + fi side k] = [y] := by rw [hy]; rfl
  rw [e]
  exact own_put9 ho2
 ·intro z hz e
  rcases hat with h | h
  ·exact hs z hz (h ▸ e)
  ·rw [h] at e
   injection e with e
   have := (own_lt hX z hz).2
   simp at e
   omega
 ·have h1 : Below p wr (wr.alloc (.cells cs 2)) := (Below.refl p wr).alloc (by omega) _
  have h2 : Below p (wr.alloc (.cells cs 2)) w2 := (Below.refl p _).grown hg (by simp; omega) (fun k hk => by have := (own_lt hK k hk).1; omega)
  exact (hb.trans h1).trans h2
set_option maxHeartbeats 2000000 in
theorem ovAdd (p : Nat) (T0 T1 T2 T3 T4 : Value) (X K S : Option Addr) (xn xc kc m sc : Nat) (nums lks side : List Int) (w : World) (hr : Row w p 122 #[T0, T1, T2, T3, T4, .slice X xn xc, .slice K xn kc]) (hX : Own w (p + 1) (.slice X xn xc) nums) (hK : Own w (p + 1) (.slice K xn kc) lks) (hs : Apart2 X K)
  (h : Seg w p S m side) (hxn : xn ≤ 1000) (hm : m ≤ 1000) (hm1 : 1 ≤ m) :
  Calls Tryz.prog 129 #[.pointer (some ⟨p, 0, none⟩), .slice S m sc] w (AnsAdd w p T0 T1 T2 T3 T4 xn m nums lks side) := by
 have hlt := hr.lt
 have c5 : w.cell? ⟨p, 5, none⟩ = some (.slice X xn xc) := hr.cell 5
 have S0 : HeadAdd w p T0 T1 T2 T3 T4 X xn xc nums lks side m (.int .i64 0) w := ⟨0, K, kc, rfl, Nat.zero_le _, hr, hX, by simpa [castL, lkT] using hK, hs, Below.refl _ _⟩
 have HS0 := hid S0
 have HL := hid h.1
 clear S0 hr hX hK hs
 go_enter Tryz.func129, Tryz.ntmps129
 go_wp2
 go_loopw [14] (fun i wr => HeadAdd w p T0 T1 T2 T3 T4 X xn xc nums lks side m i wr) (fun i _ => m - (intOf i).toNat)
 case atStart => exact HS0.out
 case round =>
  obtain ⟨k, K, kc, rfl, hk, hr, hX, hK, hs, hb⟩ := hrel
  clear HS0
  have hpl := hr.lt
  have c5 : wr.cell? ⟨p, 5, none⟩ = some (.slice X xn xc) := hr.cell 5
  have c6 : wr.cell? ⟨p, 6, none⟩ = some (.slice K (xn + k) kc) := hr.cell 6
  have hp : blk K ≠ some p := fun e => by have := (own_lt hK p e).1; omega
  by_cases hltk : k < m
  ·obtain ⟨b, off, x, rfl, hbb, hx, ex⟩ := h.spot hltk
   have hx1 : wr.cell? ⟨b, off + k, none⟩ = some (.int .i64 x) := (hb.cell (p := ⟨b, off + k, none⟩) hbb).trans hx
   have hsw : Seg wr wr.heap.size (some ⟨b, off, none⟩) m side := Seg.more (h.below hb) (by omega)
   have hkl : k < side.length := by rw [HL.out]; exact hltk
   have hfi := fi_le hkl
   obtain ⟨q, hq⟩ : ∃ q, fi side k = q := ⟨_, rfl⟩
   rw [hq] at hfi
   have hi1 : (k : Int) < (m : Int) := by omega
   have hi0 : (0 : Int) ≤ (k : Int) := by omega
   have hr1 := hid (hr.alloc (.cells #[.int .i64 ((xn : Int) + (q : Int))] 2))
   have hK1 := hid (Own.alloc hK (.cells #[.int .i64 ((xn : Int) + (q : Int))] 2))
   have STEP := hid (fun w2 K' kc' => @add_step w wr w2 p T0 T1 T2 T3 T4 X xn xc nums lks side m k K K' kc kc' ((xn : Int) + (q : Int)) #[.int .i64 ((xn : Int) + (q : Int))] hltk hr hX hs hb hK (by rw [hq]; push_cast; rfl))
   have HP := hid hp
   have LI := hid (indexOf (some ⟨b, off, none⟩) m sc side x wr hsw (by omega))
   have EX := hid ex.out
   have HQ := hid hq
   clear hx ex hsw hr hX hs hb hK hp hq
   by_cases hx0 : x < 0
   ·have EI := hid (show indexI side x = (q : Int) by
     have e := EX.out
     unfold indexI
     rw [← HQ.out]
     unfold fi
     rw [e, if_pos hx0, if_pos]
     rw [← e]
     exact get_mem hkl)
    clear hbb hkl
    go_wp2_with fail
    refine LI.out.mono ?_
    rintro e w1 ⟨rfl, he⟩
    rw [EI.out] at he
    subst he
    go_wp2_with (at_builtin; refine appAllAt rfl _ _ rfl (p + 1) K (xn + k) kc _ rfl hK1.out (some ⟨wr.heap.size, 0, none⟩) 1 1 (wr.heap.size + 1) [(xn : Int) + (q : Int)] rfl (by simpa using one_seg wr ((xn : Int) + (q : Int))) (by omega) (by omega) (by omega) (by simp; omega) ?_; intro K' kc' w2 ho2 hg hat; have r2 := Row.away hr1.out hg HP.out; have cB2 : w2.cell? ⟨p, 6, none⟩ = some (.slice K (xn + k) kc) := r2.cell 6; have fB2 : w2.frozen? ⟨p, 6, none⟩ = false := r2.free 6)
    have F := hid (STEP.out w2 K' kc' ho2 hg hat)
    clear ho2 hg hat r2 cB2 fB2 LI hr1 hK1 STEP
    go_wp2
    go_roundw
    case rel => exact F.out
    case measure => simp [intOf]; omega
   ·have EI := hid (show q = k by
     have e := EX.out
     rw [← HQ.out]
     exact fi_sym (by rw [e]; omega))
    clear hbb hkl LI
    obtain rfl := EI.out
    go_wp2_with (at_builtin; refine appAllAt rfl _ _ rfl (p + 1) K (xn + q) kc _ rfl hK1.out (some ⟨wr.heap.size, 0, none⟩) 1 1 (wr.heap.size + 1) [(xn : Int) + (q : Int)] rfl (by simpa using one_seg wr ((xn : Int) + (q : Int))) (by omega) (by omega) (by omega) (by simp; omega) ?_; intro K' kc' w2 ho2 hg hat; have r2 := Row.away hr1.out hg HP.out; have cB2 : w2.cell? ⟨p, 6, none⟩ = some (.slice K (xn + q) kc) := r2.cell 6; have fB2 : w2.frozen? ⟨p, 6, none⟩ = false := r2.free 6)
    have F := hid (STEP.out w2 K' kc' ho2 hg hat)
    clear ho2 hg hat r2 cB2 fB2 hr1 hK1 STEP
    go_wp2
    go_roundw
    case rel => exact F.out
    case measure => simp [intOf]; omega
  ·obtain rfl : k = m := by omega
   have hseg := Seg.more (h.below hb) (show p ≤ wr.heap.size by omega)
   have hpX : blk X ≠ some p := fun e => by have := (own_lt hX p e).1; omega
   have HR := hid hr
   have HX := hid hX
   have HK := hid hK
   have HS := hid hs
   have HB := hid hb
   clear hr hX hK hs hb h
   go_wp2_with (at_builtin; refine appAllAt rfl _ _ rfl (p + 1) X xn xc nums rfl HX.out S k sc wr.heap.size side rfl hseg (by omega) (by omega) (by omega) (by omega) ?_; intro X' xc' w2 ho2 hg hat; have r2 := Row.away HR.out hg hpX; have cB2 : w2.cell? ⟨p, 5, none⟩ = some (.slice X xn xc) := r2.cell 5; have fB2 : w2.frozen? ⟨p, 5, none⟩ = false := r2.free 5)
   have o3 := own_put9 (i := 5) (v := .slice X' (xn + k) xc') ho2
   have k3 := own_put9 (i := 5) (v := .slice X' (xn + k) xc') (Own.kept HK.out hg HS.out.ro)
   have r3 := r2.put 5 (.slice X' (xn + k) xc')
   have F := hid (show AnsAdd w p T0 T1 T2 T3 T4 xn k nums lks side (.returned (.tuple #[])) (w2.setCell ⟨p, 5, none⟩ (.slice X' (xn + k) xc')) from
    ⟨⟨_, rfl⟩, X', xc', K, kc, r3, o3, k3, fun z hz e => by
      rcases hat with h | h
      ·exact HS.out z (h ▸ hz) e
      ·rw [h] at hz
       injection hz with hz
       have := (own_lt HK.out z e).2
       omega, put_below (HB.out.trans ((Below.refl p wr).grown hg (by omega) (fun k hk => by have := (own_lt HX.out k hk).1; omega)))⟩)
   clear ho2 hg hat r2 cB2 fB2 o3 k3 r3 HR HX HK HS HB
   go_wp2
   go_end0
   exact F.out
end ovAdd
end
section
namespace finMath
open sig term fillMath unifMath forest triMath ufMath
theorem count_one {p q : Nat → Bool} {r : Nat} (hp : p r = true) (hq : q r = false) (h : ∀ i, i ≠ r → q i = p i) : ∀ n, r < n → (List.range n).countP q + 1 = (List.range n).countP p
 | 0, hr => absurd hr (Nat.not_lt_zero _)
 | n + 1, hr => by
  rw [List.range_succ, List.countP_append, List.countP_append]
  by_cases e : r = n
  ·subst e
   have h1 : (List.range r).countP q = (List.range r).countP p := by
    refine List.countP_congr fun i hi => ?_
    rw [h i (by have := List.mem_range.1 hi; omega)]
   simp [hp, hq, h1]
  ·have h1 := count_one hp hq h n (by omega)
   have h2 : [n].countP q = [n].countP p := by rw [List.countP_cons, List.countP_cons, h n (fun e2 => e e2.symm)]; rfl
   omega
theorem count_same {p q : Nat → Bool} (n : Nat) (h : ∀ i, i < n → q i = p i) : (List.range n).countP q = (List.range n).countP p :=
 List.countP_congr fun i hi => by rw [h i (List.mem_range.1 hi)]
def Ct (n : Nat) (rt : Nat → Nat) (F : Int → Option Bool) : Nat := (List.range n).countP fun i => decide (rt i = i) && (F (i : Int)).isNone
def putF (F : Int → Option Bool) (y : Int) (z : Bool) (u : Int) : Option Bool := if u = y then some z else F u
theorem ct_new {n : Nat} {rt : Nat → Nat} {F : Int → Option Bool} {r : Nat} (hr : r < n) (h1 : rt r = r) (h2 : F (r : Int) = none) (z : Bool) : Ct n rt (putF F (r : Int) z) + 1 = Ct n rt F := by
 unfold Ct
 refine count_one (r := r) ?_ ?_ (fun i hi => ?_) n hr
 ·simp [h1, h2]
 ·simp [putF]
 ·have : ¬ (i : Int) = (r : Int) := by omega
  simp [putF, this]
theorem ct_old {n : Nat} {rt : Nat → Nat} {F : Int → Option Bool} {r : Nat} (h2 : (F (r : Int)).isSome = true) (z : Bool) : Ct n rt (putF F (r : Int) z) = Ct n rt F := by
 unfold Ct
 refine count_same n fun i _ => ?_
 by_cases e : (i : Int) = (r : Int)
 ·have e : i = r := by omega
  subst e
  cases hF : F (i : Int) with
  | none => rw [hF] at h2; cases h2
  | some v => simp [putF, hF]
 ·simp [putF, e]
structure Mk (n : Nat) (F : Int → Option Bool) (D S : List Nat) : Prop where
 t : ∀ i : Nat, i < n → (F (i : Int) = some true ↔ i ∈ D)
 f : ∀ i : Nat, i < n → (F (i : Int) = some false ↔ i ∈ S)
theorem Mk.start {n : Nat} : Mk n (fun _ => none) [] [] := ⟨fun i _ => by simp, fun i _ => by simp⟩
theorem Mk.open_ {n : Nat} {F : Int → Option Bool} {D S : List Nat} (h : Mk n F D S) {r : Nat} (hr : r < n) (h2 : F (r : Int) = none) : Mk n (putF F (r : Int) false) D (r :: S) := by
 refine ⟨fun i hi => ?_, fun i hi => ?_⟩
 ·by_cases e : i = r
  ·subst e
   have h3 : i ∉ D := fun h4 => by have := (h.t i hi).2 h4; rw [h2] at this; cases this
   simp [putF, h3]
  ·have e2 : ¬ (i : Int) = (r : Int) := by omega
   simp only [putF, if_neg e2]
   exact h.t i hi
 ·by_cases e : i = r
  ·subst e; simp [putF]
  ·have e2 : ¬ (i : Int) = (r : Int) := by omega
   simp only [putF, if_neg e2, List.mem_cons, e, false_or]
   exact h.f i hi
theorem Mk.close_ {n : Nat} {F : Int → Option Bool} {D S : List Nat} {r : Nat} (h : Mk n F D (r :: S)) (hr : r < n) (hS : r ∉ S) : Mk n (putF F (r : Int) true) (D ++ [r]) S := by
 refine ⟨fun i hi => ?_, fun i hi => ?_⟩
 ·by_cases e : i = r
  ·subst e; simp [putF]
  ·have e2 : ¬ (i : Int) = (r : Int) := by omega
   simp only [putF, if_neg e2, List.mem_append, List.mem_singleton, e, or_false]
   exact h.t i hi
 ·by_cases e : i = r
  ·subst e; simp [putF, hS]
  ·have e2 : ¬ (i : Int) = (r : Int) := by omega
   simp only [putF, if_neg e2]
   rw [h.f i hi, List.mem_cons]
   simp [e]
theorem Mk.none {n : Nat} {F : Int → Option Bool} {D S : List Nat} (h : Mk n F D S) {i : Nat} (hi : i < n) (h2 : F (i : Int) = Option.none) : i ∉ D ∧ i ∉ S :=
 ⟨fun h3 => (by have := (h.t i hi).2 h3; rw [h2] at this; exact absurd this (by simp)), fun h3 => (by have := (h.f i hi).2 h3; rw [h2] at this; exact absurd this (by simp))⟩
end finMath
end
section
namespace doneMap
open Go.RowKit Go.Maps Go.WideMaps base ints marks app sym
set_option maxRecDepth 100000
def ilit (x : Int) : Lit := .int .i64 x
def In64 (x : Int) : Prop := -9223372036854775808 ≤ x ∧ x ≤ 9223372036854775807
theorem ilit_inj {x y : Int} (h : ilit x = ilit y) : x = y := by unfold ilit at h; injection h
theorem ilit_key (x : Int) : WideAt.IsKeyLit (ilit x) := by unfold ilit; simp [WideAt.IsKeyLit]
def Says (D : DataW Unit) (x : Int) : Option Bool → Prop
 | none => Maps.has D (ilit x) = false
 | some v => Maps.has D (ilit x) = true ∧ D.atKey (ilit x) (.lit (.bool false)) = .lit (.bool v)
def Dn (w : World) (b n : Nat) (F : Int → Option Bool) : Prop := ∃ D : DataW Unit, w.ownsMap Tryz.prog 2 (plainElem Tryz.prog 4) b n D ∧ ∀ x, Says D x (F x)
section
variable {w w' : World} {b n : Nat} {F : Int → Option Bool} {row : Option Nat}
theorem Dn.kept (h : Dn w b n F) (hg : w.grownBy w' row) (hne : some b ≠ row) : Dn w' b n F := by
 obtain ⟨D, h1, h2⟩ := h
 exact ⟨D, h1.kept hg hne, h2⟩
theorem Dn.lt (h : Dn w b n F) : b < w.heap.size := by
 obtain ⟨D, h1, h2⟩ := h
 exact h1.lt
theorem Dn.below (h : Dn w b n F) (hb : Below w.heap.size w w') : Dn w' b n F := h.kept (row := none) ⟨hb.os, hb.tape, hb.output, hb.size, fun k hk _ => hb.block k hk⟩ (fun e => by cases e)
theorem dn_made (w : World) : Dn (w.alloc (.map #[] 0)) w.heap.size 0 fun _ => none := ⟨.map [], World.ownsMap_made _ _ _ _, fun _ => by show Maps.has _ _ = false; simp [Maps.has]⟩
theorem says_put {D : DataW Unit} (hD : Maps.IsMap D) (h : ∀ x, Says D x (F x)) (y : Int) (z : Bool) : ∀ x, Says (D.put (ilit y) (.lit (.bool z))) x (if x = y then some z else F x) := by
 intro x
 by_cases e : x = y
 ·subst e
  rw [if_pos rfl]
  exact ⟨Maps.has_put_same hD (ilit_key _) _, Maps.atKey_put_same hD (ilit_key _) _ _⟩
 ·rw [if_neg e]
  have hne : ilit x ≠ ilit y := fun h => e (ilit_inj h)
  have h1 := h x
  cases hF : F x with
  | none =>
   rw [hF] at h1
   show Maps.has _ _ = false
   rw [Maps.has_put_other hne]
   exact h1
  | some v =>
   rw [hF] at h1
   exact ⟨by rw [Maps.has_put_other hne]; exact h1.1, by rw [Maps.atKey_put_other hne]; exact h1.2⟩
end
theorem key_int {x : Int} (h : In64 x) : keyOf Tryz.prog 2 (.int .i64 x) = some (ilit x) := keyOf_int_mk Tryz.underlying2 (WalkArith.wf_i64 h)
theorem zero_bool (w : World) : (zeroValue 4).run Tryz.prog w = .ok (.bool false) w := by kernel_rfl
theorem plain_inv {v : Value} {z : DataW Unit × List MemPlace} (h : plainElem Tryz.prog 4 v = some z) : ∃ a, v = .bool a ∧ z = (.lit (.bool a), []) := by
 unfold plainElem at h
 rw [Tryz.underlying4] at h
 cases v <;> simp at h
 exact ⟨_, rfl, h.symm⟩
section
variable {w : World} {ops : Array Oper} {rest : List Oper} {o : Oper} {a : Act} {Q : Exit → Act → World → Prop}
theorem dn_look (hg : o.guard = none) (m x : Operand) (ho : o.op = Op.lookup 162 m x true) (b n : Nat) (F : Int → Option Bool) (hm : a.eval m = .map (some b)) (h : Dn w b n F) (y : Int) (hy : In64 y) (hx : a.eval x = .int .i64 y)
  (K : wpList Tryz.prog ops Q rest (a.put o.dst (.tuple #[.bool ((F y).getD false), .bool (F y).isSome])) w) : wpList Tryz.prog ops Q (o :: rest) a w := by
 obtain ⟨D, hown, hs⟩ := h
 refine wpList_lookup_own_ok w hg m x 162 ho 2 4 (int_keyed Tryz.underlying2) Tryz.underlying162 _ (zero_bool w) (.lit (.bool false)) [] (plainElem_bool Tryz.underlying4 false) b n D hm hown _ (ilit y) hx (key_int hy) ?_
 intro v ps hv
 obtain ⟨c, rfl, e⟩ := plain_inv hv
 injection e with e1 e2
 have h1 := hs y
 cases hF : F y with
 | none =>
  rw [hF] at h1 K
  have h1 : Maps.has D (ilit y) = false := h1
  rw [h1]
  have e3 : D.atKey (ilit y) (.lit (.bool false)) = .lit (.bool false) := Maps.atKey_of_not_has h1 _
  rw [e3] at e1
  injection e1 with e1
  injection e1 with e1
  rw [← e1]
  exact K
 | some u =>
  rw [hF] at h1 K
  rw [h1.1]
  rw [h1.2] at e1
  injection e1 with e1
  injection e1 with e1
  rw [← e1]
  exact K
theorem dn_put (hg : o.guard = none) (m x v : Operand) (ho : o.op = Op.mapUpdate 162 m x v) (b n : Nat) (F : Int → Option Bool) (hm : a.eval m = .map (some b)) (h : Dn w b n F) (hn : n ≤ 1048576) (y : Int) (hy : In64 y) (z : Bool) (hx : a.eval x = .int .i64 y) (hv : a.eval v = .bool z)
  (K : ∀ w', Dn w' b (n + 1) (fun u => if u = y then some z else F u) → w.grownBy w' (some b) → wpList Tryz.prog ops Q rest (a.put o.dst undef) w') : wpList Tryz.prog ops Q (o :: rest) a w := by
 obtain ⟨D, hown, hs⟩ := h
 refine wpList_mapUpdate_own w hg m x v 162 ho 2 4 (int_keyed Tryz.underlying2) Tryz.underlying162 _ b n D hm hown (by unfold maxLen; omega) _ _ (ilit y) hx hv (key_int hy) _ [] (plainElem_bool Tryz.underlying4 z) ?_
 intro w' how hgr
 exact K w' ⟨_, how, says_put hown.isMap hs y z⟩ hgr
end
end doneMap
end
section
open Go.Lib (hid)
namespace finImpl
open Go.RowKit base ints sig term cursor args sym marks app appAt segs kinds shape drawX fillMath forest triMath unifMath ufMath nodes ovImpl linkImpl finMath doneMap
set_option maxRecDepth 100000
theorem Ov.grown {w w' : World} {Q : Nat → Prop} {p lb b : Nat} {A : Option Addr} {n c : Nat} {v : Value} {o a u : Int} {X : Option Addr} {xn xc lc : Nat} {sg nums : List Int} {lk : List Nat} (h : Ov w Q p lb A n c v o a u X xn xc lc sg nums lk) (hg : w.grownBy w' (some b)) (h1 : b ≠ p) (h2 : b ≠ lb) (h3 : ∀ z, Q z → z ≠ b) : Ov w' Q p lb A n c v o a u X xn xc lc sg nums lk := by
 obtain ⟨cur, r, l1, l2⟩ := h.lk
 have hk : ∀ z, Q z → w'.heap[z]? = w.heap[z]? := fun z hz => hg.block z (h.q z hz).2.2 (fun e => by injection e with e; exact h3 z hz e)
 exact ⟨marks.Row.away h.row hg (fun e => by injection e with e; exact h1 e), h.sg.keep hk, h.nm.keep hk, ⟨cur, marks.Row.away r hg (fun e => by injection e with e; exact h2 e), l1, l2⟩, h.ne, fun z hz => ⟨(h.q z hz).1, (h.q z hz).2.1, Nat.lt_of_lt_of_le (h.q z hz).2.2 hg.size⟩⟩
def AnsFin (w : World) (n b : Nat) (rt : Nat → Nat) (nm : Nat → Int) (ch : Nat → List Nat) (tu : Prop) (D S : List Nat) (F : Int → Option Bool) (nn x : Nat) (e : Ending) (w' : World) : Prop :=
 ∃ ok : Bool, e = .returned (.bool ok) ∧ w.grownBy w' (some b) ∧
  (ok = true → ∃ E nn' F', Dn w' b nn' F' ∧ nn' + 2 * Ct n rt F' ≤ nn + 2 * Ct n rt F ∧ Ct n rt F' ≤ Ct n rt F ∧ Mk n F' (D ++ E) S ∧ ufMath.Good n nm ch rt (D ++ E) ∧ rt x ∈ D ++ E) ∧ (ok = false → tu)
def HeadFin (w : World) (Q : Nat → Prop) (p lb : Nat) (A : Option Addr) (n c : Nat) (v : Value) (o a u : Int) (X : Option Addr) (xn xc lc : Nat) (sg nums : List Int) (lk : List Nat) (b : Nat) (rt : Nat → Nat) (D S : List Nat) (C1 N1 r : Nat) (Y : Option Addr) (yn yc : Nat) (k : Nat) (wr : World) : Prop :=
 ∃ (E : List Nat) (F : Int → Option Bool) (nn : Nat), Ov wr Q p lb A n c v o a u X xn xc lc sg nums lk ∧ Dn wr b nn F ∧ nn + 2 * Ct xn rt F ≤ N1 ∧ Ct xn rt F ≤ C1 ∧ Mk xn F (D ++ E) (r :: S) ∧ ufMath.Good xn (fun i => nums.getD i 0) (chN sg nums) rt (D ++ E) ∧
  (∀ j, j < k → rt ((chN sg nums r).getD j 0) ∈ D ++ E) ∧ Own wr (w.heap.size) (.slice Y yn yc) (argsL sg nums r) ∧ w.grownBy wr (some b)
theorem ch_var {sg nums : List Int} {r : Nat} (h : nums.getD r 0 < 0) : chN sg nums r = [] := by
 unfold chN argsL
 have h1 : (ar sg (nums.getD r 0)).toNat = 0 := by
  unfold ar
  split
  ·rfl
  ·split
   ·omega
   ·rfl
 rw [h1]
 rfl
set_option maxHeartbeats 4000000 in
theorem isFinite (Q : Nat → Prop) (p lb : Nat) (A : Option Addr) (n c : Nat) (v : Value) (o a u : Int) (X : Option Addr) (xn xc lc : Nat) (sg nums nums' : List Int) (Inn : Nat → Prop) (ra ru : Nat) (hN : Nd sg nums nums' xn Inn ra ru) (hs : Arities sg) (hn : n ≤ 1048576) (hxn : xn ≤ 1000) (lk : List Nat) (rt rk : Nat → Nat)
  (hL : Lk xn (fun i => nums.getD i 0) (nodes.nd sg nums nums') Inn lk rt rk) (hS : Snd sg xn (nodes.nd sg nums nums') ra ru rt) (b : Nat) (hb1 : b ≠ p) (hb2 : b ≠ lb) (hb3 : ∀ z, Q z → z ≠ b) :
  ∀ (m : Nat) (D S : List Nat) (F : Int → Option Bool) (nn x : Nat) (w : World), Ct xn rt F < m → Ov w Q p lb A n c v o a u X xn xc lc sg nums lk → Dn w b nn F → nn + 2 * Ct xn rt F ≤ 4000 → Mk xn F D S → ufMath.Good xn (fun i => nums.getD i 0) (chN sg nums) rt D → x < xn → (∃ q, q < xn ∧ Inn q ∧ rt q = rt x) →
   (∀ r ∈ S, ∀ θ, Unis sg (nodes.nd sg nums nums' ra) (nodes.nd sg nums nums' ru) θ → (fillL θ (nodes.nd sg nums nums' (rt x))).length < (fillL θ (nodes.nd sg nums nums' r)).length) →
  Calls Tryz.prog 131 #[.pointer (some ⟨p, 0, none⟩), .int .i64 (x : Int), .map (some b)] w (AnsFin w xn b rt (fun i => nums.getD i 0) (chN sg nums) (∀ θ, ¬ Unis sg (nodes.nd sg nums nums' ra) (nodes.nd sg nums nums' ru) θ) D S F nn x)
 | 0, _, _, _, _, _, _, h, _, _, _, _, _, _, _, _ => absurd h (Nat.not_lt_zero _)
 | m + 1, D, S, F, nn, x, w, hm, hO, hD, hnn, hM, hG, hx, hi, hless => by
  obtain ⟨hr1, hr2⟩ := hL.root x hx
  have hrn := (hL.lt x hx).2
  obtain ⟨r, hr⟩ : ∃ r, rt x = r := ⟨_, rfl⟩
  rw [hr] at hr1 hr2 hrn
  have LF := hid (find Q p lb A n c v o a u X xn xc lc sg nums lk x w hO hL hx)
  have HR := hid hr
  have hr64 : In64 (r : Int) := ⟨by omega, by omega⟩
  have HD := hid hD
  cases hF : F (r : Int) with
  | some z =>
   cases z with
   | true =>
    have FF := hid (show AnsFin w xn b rt (fun i => nums.getD i 0) (chN sg nums) (∀ θ, ¬ Unis sg (nodes.nd sg nums nums' ra) (nodes.nd sg nums nums' ru) θ) D S F nn x (.returned (.bool true)) w from
     ⟨true, rfl, World.grownBy.refl w _, fun _ => ⟨[], nn, F, hD, Nat.le_refl _, Nat.le_refl _, by rw [List.append_nil]; exact hM, by rw [List.append_nil]; exact hG, by rw [List.append_nil, HR.out]; exact (hM.t r hrn).1 hF⟩, fun h => by cases h⟩)
    have HF := hid hF
    clear hF hM hG hless hi hO hm hnn hD hr hS hL hr1 hr2
    go_enter Tryz.func131, Tryz.ntmps131
    go_wp2_with fail
    refine LF.out.mono ?_
    rintro e w1 ⟨rfl, hw⟩
    rw [hw, HR.out]
    clear LF hw
    go_wp2_with (at_lookup; refine dn_look rfl _ _ rfl b nn F rfl HD.out (r : Int) hr64 rfl ?_; rw [HF.out])
    go_ret
    exact FF.out
   | false =>
    have FF := hid (show AnsFin w xn b rt (fun i => nums.getD i 0) (chN sg nums) (∀ θ, ¬ Unis sg (nodes.nd sg nums nums' ra) (nodes.nd sg nums nums' ru) θ) D S F nn x (.returned (.bool false)) w from
     ⟨false, rfl, World.grownBy.refl w _, fun h => (by cases h), fun _ θ hθ => absurd (hless r ((hM.f r hrn).1 hF) θ hθ) (by rw [HR.out]; exact Nat.lt_irrefl _)⟩)
    have HF := hid hF
    clear hF hM hG hless hi hO hm hnn hD hr hS hL hr1 hr2
    go_enter Tryz.func131, Tryz.ntmps131
    go_wp2_with fail
    refine LF.out.mono ?_
    rintro e w1 ⟨rfl, hw⟩
    rw [hw, HR.out]
    clear LF hw
    go_wp2_with (at_lookup; refine dn_look rfl _ _ rfl b nn F rfl HD.out (r : Int) hr64 rfl ?_; rw [HF.out])
    go_ret
    exact FF.out
  | none =>
   have hC := ct_new hrn hr2 hF false
   obtain ⟨js, hjs⟩ := hN.sc r hrn
   have HNR := hid (hM.none hrn hF)
   have LA := hid (fun (wx : World) (hOx : Ov wx Q p lb A n c v o a u X xn xc lc sg nums lk) => ovArgs Q p lb A n c v o a u X xn xc lc sg nums lk r js wx hOx hs hn (by omega) hrn hjs)
   have HCH := hid (show ∀ k, k < (chN sg nums r).length → (chN sg nums r).getD k 0 < xn ∧ (∃ q, q < xn ∧ Inn q ∧ rt q = rt ((chN sg nums r).getD k 0)) ∧ ∀ s ∈ r :: S, ∀ θ, Unis sg (nodes.nd sg nums nums' ra) (nodes.nd sg nums nums' ru) θ → (fillL θ (nodes.nd sg nums nums' (rt ((chN sg nums r).getD k 0)))).length < (fillL θ (nodes.nd sg nums nums' s)).length from fun k hk => by
    have h0 : 0 ≤ nums.getD r 0 := by
     refine Int.not_lt.1 fun h9 => ?_
     rw [ch_var h9] at hk
     exact absurd hk (Nat.not_lt_zero _)
    have hmem : (chN sg nums r).getD k 0 ∈ chN sg nums r := by
     rw [List.getD, List.getElem?_eq_getElem hk, Option.getD_some]
     exact List.getElem_mem _
    have hcx := hN.gr.lt r hrn h0 _ hmem
    have hci := hN.gr.inn r hrn h0 (root_inn hL hrn h0 hr2 (by obtain ⟨q, h1, h2, h3⟩ := hi; exact ⟨q, h1, h2, h3.trans HR.out⟩)) _ hmem
    refine ⟨hcx, ⟨_, hcx, hci, rfl⟩, fun s hs' θ hθ => ?_⟩
    have h2 := hN.gr.less hrn h0 hθ.1 hmem
    rw [← hS θ hθ _ hcx]
    rcases List.mem_cons.1 hs' with e | e
    ·rw [e]; exact h2
    ·have h3 := hless s e θ hθ
     rw [HR.out] at h3
     omega)
   have HF := hid hF
   have HO := hid hO
   have HM := hid hM
   have HG := hid hG
   have IH := hid (fun D' S' F' nn' x' w' => isFinite Q p lb A n c v o a u X xn xc lc sg nums nums' Inn ra ru hN hs hn hxn lk rt rk hL hS b hb1 hb2 hb3 m D' S' F' nn' x' w')
   have HB := hid (And.intro hb1 (And.intro hb2 hb3))
   have HR2 := hid hr2
   have HAL := hid (show (argsL sg nums r).length = (chN sg nums r).length by rw [args_cast, List.length_map])
   have HAK := hid (show ∀ k, k < (chN sg nums r).length → (argsL sg nums r).getD k 0 = (((chN sg nums r).getD k 0 : Nat) : Int) from fun k hk => by rw [args_cast, List.getD, List.getD, List.getElem?_map, List.getElem?_eq_getElem hk]; rfl)
   clear hF hM hG hless hi hO hD hr hS hL hr1 hr2 hN hjs hb1 hb2 hb3
   go_enter Tryz.func131, Tryz.ntmps131
   go_wp2_with fail
   refine LF.out.mono ?_
   rintro e w1 ⟨rfl, hw⟩
   rw [hw, HR.out]
   clear LF hw
   go_wp2_with (at_lookup; refine dn_look rfl _ _ rfl b nn F rfl HD.out (r : Int) hr64 rfl ?_; rw [HF.out]; refine (?_ : Hid _).out)
   refine hid ?_
   go_wp2_with (at_mapUpdate; refine dn_put rfl _ _ _ rfl b nn F rfl HD.out (by omega) (r : Int) hr64 false rfl rfl ?_; intro w2 hD2 g2; refine (?_ : Hid _).out)
   have O2 := Ov.grown HO.out g2 HB.out.1 HB.out.2.1 HB.out.2.2
   have L2 := hid (LA.out w2 O2)
   have hs2 := g2.size
   clear LA
   refine hid ?_
   go_wp2_with fail
   refine L2.out.mono ?_
   rintro e w3 ⟨Y, yn, yc, rfl, oY, b3⟩
   have hyn : yn = (chN sg nums r).length := by rw [← HAL.out]; exact Own.len oY
   have S0 := hid (show HeadFin w Q p lb A n c v o a u X xn xc lc sg nums lk b rt D S (Ct xn rt (putF F (r : Int) false)) (nn + 1 + 2 * Ct xn rt (putF F (r : Int) false)) r Y yn yc 0 w3 from
    ⟨[], putF F (r : Int) false, nn + 1, O2.next b3, hD2.below b3, by omega, Nat.le_refl _, by rw [List.append_nil]; exact HM.out.open_ hrn HF.out, by rw [List.append_nil]; exact HG.out, fun j hj => absurd hj (Nat.not_lt_zero j), Own.lower oY hs2, grown_trans g2 (grown_below b3 _)⟩)
   have HYN := hid hyn
   have hy3 : yn ≤ 3 := by have h9 := argsL_len (t := nums) hs r; have := Own.len oY; omega
   clear oY b3 O2 L2 hD2 g2 hyn
   go_wp2_with fail
   go_loopg [28] yn (fun g i wr => ∃ k : Nat, i = .int .i64 (k : Int) ∧ k + g = yn ∧ HeadFin w Q p lb A n c v o a u X xn xc lc sg nums lk b rt D S (Ct xn rt (putF F (r : Int) false)) (nn + 1 + 2 * Ct xn rt (putF F (r : Int) false)) r Y yn yc k wr)
   case atStart => exact ⟨0, rfl, by omega, S0.out⟩
   case round =>
    clear S0
    obtain ⟨k, rfl, hkg, E, F1, n1, O1, D1, hn1, hC1, M1, G1, hdone, oY, g1⟩ := hrel
    have HK := hid hkg
    clear hkg
    by_cases hk : k < yn
    ·have hkc : k < (chN sg nums r).length := by rw [← HYN.out]; exact hk
     obtain ⟨hcx, hci, hcl⟩ := HCH.out k hkc
     obtain ⟨b', off', rfl, hbb, hcell⟩ := (Own.seg oY).round hk
     rw [HAK.out k hkc] at hcell
     have LI := hid (IH.out (D ++ E) (r :: S) F1 n1 ((chN sg nums r).getD k 0) wr (by omega) O1 D1 (by omega) M1 G1 hcx hci hcl)
     have HS := hid (And.intro O1 (And.intro oY (And.intro g1 hdone)))
     obtain ⟨cc, hcc⟩ : ∃ cc, (chN sg nums r).getD k 0 = cc := ⟨_, rfl⟩
     rw [hcc] at hcell LI
     have HCC := hid hcc
     have i0 : (0 : Int) ≤ (k : Int) := by omega
     have i1 : (k : Int) < (yn : Int) := by omega
     clear O1 D1 M1 G1 hdone oY g1 hci hcl hcc
     go_wp2_with fail
     refine LI.out.mono ?_
     rintro e w4 ⟨ok, rfl, g4, hyes, hno⟩
     obtain ⟨O1, oY, g1, hdone⟩ := HS.out
     cases ok with
     | false =>
      have FF := hid (show AnsFin w xn b rt (fun i => nums.getD i 0) (chN sg nums) (∀ θ, ¬ Unis sg (nodes.nd sg nums nums' ra) (nodes.nd sg nums nums' ru) θ) D S F nn x (.returned (.bool false)) w4 from ⟨false, rfl, grown_trans g1 g4, fun h => (by cases h), fun _ => hno rfl⟩)
      clear O1 oY g1 hdone g4 hyes hno LI HS
      go_wp2
      go_ret
      exact FF.out
     | true =>
      obtain ⟨E2, n2, F2, D2, hn2, hC2, M2, G2, hx2⟩ := hyes rfl
      have S2 := hid (show HeadFin w Q p lb A n c v o a u X xn xc lc sg nums lk b rt D S (Ct xn rt (putF F (r : Int) false)) (nn + 1 + 2 * Ct xn rt (putF F (r : Int) false)) r (some ⟨b', off', none⟩) yn yc (k + 1) w4 from
       ⟨E ++ E2, F2, n2, Ov.grown O1 g4 HB.out.1 HB.out.2.1 HB.out.2.2, D2, by omega, by omega, by rw [← List.append_assoc]; exact M2, by rw [← List.append_assoc]; exact G2, fun j hj => by
        rw [← List.append_assoc]
        by_cases e : j = k
        ·subst e; rw [HCC.out]; exact hx2
        ·exact List.mem_append_left _ (hdone j (by omega)), Own.far oY g4 (fun z e => by injection e with e; rw [← e]; exact HD.out.lt), grown_trans g1 g4⟩)
      clear O1 oY g1 hdone g4 hyes hno LI HS D2 M2 G2 hx2
      go_wp2
      go_roundg (gk - 1)
      case measure => have := HK.out; omega
      case rel => exact ⟨k + 1, by simp, by have := HK.out; omega, S2.out⟩
    ·have i1 : ¬ (k : Int) < (yn : Int) := by omega
     have hbz : b < wr.heap.size := D1.lt
     have HC1 := hid (And.intro M1 (And.intro G1 (And.intro hdone (And.intro g1 (And.intro hn1 hC1)))))
     clear M1 G1 hdone oY g1
     go_wp2_with (at_mapUpdate; refine dn_put rfl _ _ _ rfl b n1 F1 rfl D1 (by omega) (r : Int) hr64 true rfl rfl ?_; intro w5 D5 g5; refine (?_ : Hid _).out)
     obtain ⟨M1, G1, hdone, g1, hn1, hC1⟩ := HC1.out
     have hFr : F1 (r : Int) = some false := (M1.f r hrn).2 (List.mem_cons_self ..)
     have hCo := ct_old (n := xn) (rt := rt) (r := r) (F := F1) (by rw [hFr]; rfl) true
     have FF := hid (show AnsFin w xn b rt (fun i => nums.getD i 0) (chN sg nums) (∀ θ, ¬ Unis sg (nodes.nd sg nums nums' ra) (nodes.nd sg nums nums' ru) θ) D S F nn x (.returned (.bool true)) w5 from
      ⟨true, rfl, grown_trans g1 g5, fun _ => ⟨E ++ [r], n1 + 1, putF F1 (r : Int) true, D5, by omega, by omega, by rw [← List.append_assoc]; exact M1.close_ hrn HNR.out.2, by
       rw [← List.append_assoc]
       refine G1.snoc hrn HR2.out fun _ ch hch => ?_
       obtain ⟨j, hj, e⟩ := List.mem_iff_getElem.1 hch
       have h9 := hdone j (by have := HYN.out; have := HK.out; omega)
       rw [List.getD, List.getElem?_eq_getElem hj, Option.getD_some, e] at h9
       exact h9, by rw [HR.out]; simp⟩, fun h => by cases h⟩)
     clear M1 G1 hdone g1 D5 g5 HC1 D1
     refine hid ?_
     go_wp2
     go_ret
     exact FF.out
end finImpl
end
section
namespace walkSpec
open Go.RowKit base ints sig term termOk endAt endOf marks app sym sub segs segsHelp kinds termFacts same shifted shape kindsR kindsW varsOf ruleMath ruleSpec stepMath walkMath stepSpec
set_option maxRecDepth 100000
end walkSpec
end
section
namespace walkSpec
open Go.RowKit base ints sig term termOk endAt endOf marks app sym sub segs segsHelp kinds termFacts same shifted shape kindsR kindsW varsOf ruleMath ruleSpec stepMath walkMath stepSpec ownL heldT
set_option maxRecDepth 100000
end walkSpec
end
section
open Go.Lib (hid)
namespace stepImpl
open Go.RowKit base ints sig term termOk endAt inside marks app sym sub segs segsHelp kinds termFacts matchMath whole takeMath take extended varsOf shape kindsR ruleMath ruleSpec ruleImpl stepMath walkMath stepSpec
set_option maxRecDepth 100000
theorem right_of {sg : List Int} {rs : List Rl} {t : List Int} (h : sysOkB sg rs = true) : rightB sg rs t = termOkB sg t := by unfold rightB; rw [h]; rfl
theorem there_eq {sg : List Int} {rs : List Rl} {t : List Int} {a r : Int} (h : sysOkB sg rs = true) : thereR sg rs t a r = (thereB sg t a && walkMath.inB r rs.length) := by
 unfold thereR thereB walkMath.inB endAt.inB
 rw [right_of h, Bool.and_assoc]
theorem hasRule (a : Value) (V : Option Addr) (q cv : Nat) (r : Int) (w : World) (hq : q ≤ 1048576) :
  Calls Tryz.prog 156 #[.agg #[a, .slice V q cv], .int .i64 r] w (AnsB w (walkMath.inB r q)) := by
 obtain ⟨W, hW, rA, bel⟩ := box1 w 76 #[a, .slice V q cv]
 have HW := hid hW
 have R := hid rA
 have FF := hid (fun (b : Bool) (h : walkMath.inB r q = b) => (ansB (b := walkMath.inB r q) (a := b) h.symm bel))
 clear hW rA bel
 by_cases h0 : r < 0
 ·have F := hid (FF.out false (by unfold walkMath.inB; exact decide_eq_false (by omega)))
  go_enter Tryz.func156, Tryz.ntmps156
  go_wp2_with fail
  try rw [← HW.out]
  go_wp2
  go_ret
  exact F.out
 ·by_cases h1 : r < (q : Int)
  ·have F := hid (FF.out true (by unfold walkMath.inB; exact decide_eq_true (by omega)))
   have h0' : (0 : Int) ≤ r := by omega
   have K1 : (w.alloc (.cells #[a, .slice V q cv] 76)).cell? ⟨w.heap.size, 1, none⟩ = some (.slice V q cv) := by rw [← HW.out]; exact R.out.cell 1
   go_enter Tryz.func156, Tryz.ntmps156
   go_wp2
   rw [← HW.out]
   go_ret
   exact F.out
  ·have F := hid (FF.out false (by unfold walkMath.inB; exact decide_eq_false (by omega)))
   have h0' : (0 : Int) ≤ r := by omega
   have K1 : (w.alloc (.cells #[a, .slice V q cv] 76)).cell? ⟨w.heap.size, 1, none⟩ = some (.slice V q cv) := by rw [← HW.out]; exact R.out.cell 1
   go_enter Tryz.func156, Tryz.ntmps156
   go_wp2
   rw [← HW.out]
   go_ret
   exact F.out
set_option maxHeartbeats 4000000 in
theorem hasRedex (a v u : Value) (d : Dat sSystem) (t : List Int) (x r : Int) (w : World) (h : Rd w w.heap.size sSystem [a, v] d) (ht : Rd w w.heap.size sI [u] t) (hz : sz sSystem d ≤ 1048576) (hz' : sz sI t ≤ 1048576) (oks : sysOkB d.1 d.2 = true) :
  Calls Tryz.prog 173 #[.agg #[a, v], u, .int .i64 x, .int .i64 r] w (AnsB w (redexB d.1 d.2 t x r)) := by
 have h0 := h
 have ht0 := ht
 obtain ⟨T, m, c, rfl, hT, hcT⟩ := rd_ints.1 ht
 have hm := len_ints hT.1 hz'
 obtain ⟨A, n, cs, V, q, cv, rfl, rfl, hs, hc, hcv, hq, hn, hq1, hrs, hsg, hE⟩ := rd_sys h hz
 obtain ⟨W, hW, rA, bel⟩ := box1 w 76 #[.slice A n cs, .slice V q cv]
 have HW := hid hW
 have LP := hid (placeIn A T n cs m c d.1 t x W (hs.next bel) (hT.next bel) hn hm)
 have HQ := hid hq
 have LHR := hid (fun (w1 : World) => hasRule (.slice A n cs) V q cv r w1 hq1)
 have LMA := hid (fun (w1 : World) (bb : Below w.heap.size w w1) (x k : Nat) hok hx hk => matchAt _ _ _ d t x k w1 (h0.next bb) (ht0.next bb) hz hok hx hk)
 have OKS := hid oks
 clear hW h h0 ht ht0 hz hz' hs hc hcv hq hrs hsg hE hT hcT oks
 obtain ⟨bp, hbp⟩ : ∃ bp, thereB d.1 t x = bp := ⟨_, rfl⟩
 have HP := hid hbp
 have HTH := hid (show thereR d.1 d.2 t x r = (bp && walkMath.inB r d.2.length) by rw [there_eq OKS.out, hbp])
 rw [hbp] at LP
 clear hbp
 cases bp with
 | false =>
  go_enter Tryz.func173, Tryz.ntmps173
  go_wp2_with fail
  rw [← HW.out]
  refine LP.out.mono ?_
  rintro e w1 ⟨rfl, bb⟩
  have F := hid (ansB (b := redexB d.1 d.2 t x r) (a := false) (by rw [redex_no (by rw [HTH.out]; rfl)]) (next_trans bel bb))
  clear bb bel rA LMA
  go_wp2
  go_ret
  exact F.out
 | true =>
  go_enter Tryz.func173, Tryz.ntmps173
  go_wp2_with fail
  rw [← HW.out]
  refine LP.out.mono ?_
  rintro e w1 ⟨rfl, bb⟩
  replace rA := rA.next bb
  replace bel := next_trans bel bb
  have K0 : w1.cell? ⟨w.heap.size, 0, none⟩ = some (.slice A n cs) := rA.cell 0
  have K1 : w1.cell? ⟨w.heap.size, 1, none⟩ = some (.slice V q cv) := rA.cell 1
  have LH1 := hid (LHR.out w1)
  clear bb LP LHR
  obtain ⟨bi, hbi⟩ : ∃ bi, walkMath.inB r q = bi := ⟨_, rfl⟩
  have HBI := hid hbi
  rw [hbi] at LH1
  clear hbi
  go_wp2_with fail
  refine LH1.out.mono ?_
  rintro e w2 ⟨rfl, bb⟩
  cases bi with
  | false =>
   have F := hid (ansB (b := redexB d.1 d.2 t x r) (a := false) (by rw [redex_no (by rw [HTH.out, HQ.out, HBI.out]; rfl)]) (next_trans bel bb))
   clear bb bel rA LMA K0 K1 LH1
   go_wp2
   go_ret
   exact F.out
  | true =>
   have hkk : 0 ≤ r ∧ r < (q : Int) := of_decide_eq_true HBI.out
   obtain ⟨k, rfl⟩ := Int.eq_ofNat_of_zero_le hkk.1
   have hkq : k < q := by omega
   have hx := endAt.there_parts HP.out
   obtain ⟨i, rfl⟩ := Int.eq_ofNat_of_zero_le hx.2.1
   have hix : i < t.length := by omega
   have okR : rightB d.1 d.2 t = true := by rw [right_of OKS.out]; exact hx.1
   have hkl : k < d.2.length := by rw [HQ.out]; exact hkq
   have HRE := hid (show redexB d.1 d.2 t (i : Int) (k : Int) = (mst d.1 t (d.2.getD k ([], [])).1 i s0).isSome by
    rw [redex_yes (by rw [HTH.out]; unfold walkMath.inB; rw [decide_eq_true (by omega)]; rfl), red_at (sys_rule OKS.out hkl) hx.1 hix]
    unfold rl
    rw [Int.toNat_natCast, Int.toNat_natCast])
   replace rA := rA.next bb
   replace bel := next_trans bel bb
   have LM1 := hid (LMA.out w2 bel i k okR hix hkl)
   clear K0 K1
   have K0 : w2.cell? ⟨w.heap.size, 0, none⟩ = some (.slice A n cs) := rA.cell 0
   have K1 : w2.cell? ⟨w.heap.size, 1, none⟩ = some (.slice V q cv) := rA.cell 1
   clear hx okR LMA HTH hkk hix hkl bb rA LH1
   obtain ⟨R, hR⟩ : ∃ R, mst d.1 t (d.2.getD k ([], [])).1 i s0 = R := ⟨_, rfl⟩
   rw [hR] at LM1 HRE
   clear hR
   go_wp2_with fail
   refine LM1.out.mono ?_
   rintro e w3 ⟨rs, rfl, tab, hsz, bb⟩
   have one := hid tab.one
   have h24 := hid tab.1
   obtain ⟨bo, hbo⟩ : ∃ bo, R.isSome = bo := ⟨_, rfl⟩
   rw [hbo]
   have F := hid (show AnsB w (redexB d.1 d.2 t (i : Int) (k : Int)) (.returned (.bool bo)) (w3.alloc (.cells rs 171)) from ⟨by rw [HRE.out, hbo], (next_trans bel bb).alloc (next_trans bel bb).size _⟩)
   clear tab hsz bb bel K0 K1 hbo LM1 HRE
   go_wp2_with (first
    | (refine rowAlloc rfl 171 rfl z24 zero_b ?_)
    | (refine rowStore rfl 171 _ _ rfl w3.heap.size rs z24 171 rfl rfl (heap_alloc_new w3 _) (by rw [h24.out]; exact size_b) (by rw [h24.out]; rfl) one.out ?_; rw [World.setRow_alloc_new]))
   go_ret
   exact F.out
set_option maxHeartbeats 4000000 in
theorem stepAt (a v u : Value) (d : Dat sSystem) (t : List Int) (x r : Int) (w : World) (h : Rd w w.heap.size sSystem [a, v] d) (ht : Rd w w.heap.size sI [u] t) (hz : sz sSystem d ≤ 1048576) (hz' : sz sI t ≤ 1048576) (oks : sysOkB d.1 d.2 = true) :
  Calls Tryz.prog 154 #[.agg #[a, v], u, .int .i64 x, .int .i64 r] w (AnsStep w (stepAtO d.1 d.2 t x r)) := by
 obtain ⟨W, hW, rA, bel⟩ := box1 w 76 #[a, v]
 have HW := hid hW
 have LH := hid (hasRedex a v u d t x r W (h.next bel) (ht.next bel) hz hz' oks)
 have LR := hid (fun (w1 : World) (bb : Below w.heap.size w w1) (x k : Nat) hok hx hk hred => reduced a v u d t x k w1 (h.next bb) (ht.next bb) hz hok hx hk hred)
 clear hW h ht hz hz'
 obtain ⟨bp, hbp⟩ : ∃ bp, redexB d.1 d.2 t x r = bp := ⟨_, rfl⟩
 rw [hbp] at LH
 cases bp with
 | false =>
  have HN := hid (show stepAtO d.1 d.2 t x r = none by
   cases e : stepAtO d.1 d.2 t x r with
   | none => rfl
   | some y => rw [stepAt_redex e] at hbp; cases hbp)
  clear hbp
  go_enter Tryz.func154, Tryz.ntmps154
  go_wp2_with fail
  rw [← HW.out]
  refine LH.out.mono ?_
  rintro e w1 ⟨rfl, bb⟩
  have F := hid (ansStep_nil (o := stepAtO d.1 d.2 t x r) HN.out (next_trans bel bb))
  clear bb bel rA LR
  go_wp2
  go_ret2
  exact F.out
 | true =>
  have hth : thereR d.1 d.2 t x r = true := by
   unfold redexB at hbp
   rw [Bool.and_eq_true] at hbp
   exact hbp.1
  obtain ⟨p1, p2, p3, p4⟩ := walkMath.there_parts hth
  obtain ⟨i, rfl⟩ := Int.eq_ofNat_of_zero_le p3.1
  obtain ⟨k, rfl⟩ := Int.eq_ofNat_of_zero_le p4.1
  rw [redex_yes hth] at hbp
  unfold rl at hbp
  rw [Int.toNat_natCast, Int.toNat_natCast] at hbp
  have LR1 := hid (fun w1 bb => LR.out w1 bb i k (right_yes p1 p2) (by omega) (by omega) hbp)
  have HE := hid (show stepAtO d.1 d.2 t (i : Int) (k : Int) = stepO d.1 (d.2.getD k ([], [])) t i by rw [at_yes hth]; unfold rl; rw [Int.toNat_natCast, Int.toNat_natCast])
  clear hth p1 p2 p3 p4 hbp LR oks
  go_enter Tryz.func154, Tryz.ntmps154
  go_wp2_with fail
  rw [← HW.out]
  refine LH.out.mono ?_
  rintro e w1 ⟨rfl, bb⟩
  replace rA := rA.next bb
  replace bel := next_trans bel bb
  have K0 : w1.cell? ⟨w.heap.size, 0, none⟩ = some a := rA.cell 0
  have K1 : w1.cell? ⟨w.heap.size, 1, none⟩ = some v := rA.cell 1
  have LR2 := hid (LR1.out w1 bel)
  clear bb LH LR1 rA
  go_wp2_with fail
  refine LR2.out.mono ?_
  rintro e w2 ⟨X, xn, xc, rfl, oX, bb⟩
  have F : AnsStep w (stepAtO d.1 d.2 t (i : Int) (k : Int)) (.returned (.tuple #[.slice X xn xc, .bool (stepO d.1 (d.2.getD k ([], [])) t i).isSome])) w2 := ⟨X, xn, xc, by rw [HE.out], by rw [HE.out]; exact Own.lower oX bel.size, next_trans bel bb⟩
  have HF := hid F
  clear F oX bb bel K0 K1 LR2
  generalize (stepO d.1 (d.2.getD k ([], [])) t i).isSome = bz at *
  go_wp2
  go_ret2
  exact HF.out
end stepImpl
end
section
namespace walkImpl
open Go.RowKit base ints sig term termOk endAt endOf marks app sym sub segs segsHelp kinds termFacts same shifted shape kindsR kindsW varsOf ruleMath ruleSpec ruleImpl stepMath walkMath stepSpec stepImpl walkSpec
set_option maxRecDepth 100000
set_option maxHeartbeats 4000000 in
theorem leads (a v u : Value) (U : Option Addr) (un uc : Nat) (d : Dat sSystem) (t y : List Int) (x r : Int) (w : World) (h : Rd w w.heap.size sSystem [a, v] d) (ht : Rd w w.heap.size sI [u] t) (hU : Seg w w.heap.size U un y) (hz : sz sSystem d ≤ 1048576) (hz' : sz sI t ≤ 1048576) (hun : un ≤ 1048576) (oks : sysOkB d.1 d.2 = true) :
  Calls Tryz.prog 124 #[.agg #[a, v], u, .agg #[.int .i64 x, .int .i64 r, .slice U un uc]] w (AnsB w (decide (stepAtO d.1 d.2 t x r = some y))) := by
 obtain ⟨W, hW, rA, rX, bel⟩ := box2 w 76 114 #[a, v] #[.int .i64 x, .int .i64 r, .slice U un uc]
 have HW := Lib.hid hW
 have LS := Lib.hid (stepAt a v u d t x r W (h.next bel) (ht.next bel) hz hz' oks)
 have HU := Lib.hid (hU.next bel)
 have K0 : ((w.alloc (.cells #[a, v] 76)).alloc (.cells #[.int .i64 x, .int .i64 r, .slice U un uc] 114)).cell? ⟨w.heap.size, 0, none⟩ = some a := by rw [← hW]; exact rA.cell 0
 have K1 : ((w.alloc (.cells #[a, v] 76)).alloc (.cells #[.int .i64 x, .int .i64 r, .slice U un uc] 114)).cell? ⟨w.heap.size, 1, none⟩ = some v := by rw [← hW]; exact rA.cell 1
 clear hW h ht hU hz hz'
 obtain ⟨o, ho⟩ : ∃ o, stepAtO d.1 d.2 t x r = o := ⟨_, rfl⟩
 rw [ho] at LS
 rw [ho]
 have HL := Lib.hid (show ∀ z, o = some z → z.length ≤ 60 from fun z hz => by subst hz; exact step_len (stepAt_parts ho).2)
 clear ho
 go_enter Tryz.func124, Tryz.ntmps124
 go_wp2_with fail
 rw [← HW.out]
 refine LS.out.mono ?_
 rintro e w2 ⟨X, xn, xc, rfl, oX, bb⟩
 replace rX := rX.next bb
 have b2 := next_trans bel bb
 have k2 : w2.cell? ⟨w.heap.size + 1, 2, none⟩ = some (.slice U un uc) := rX.cell 2
 cases o with
 | none =>
  have F := Lib.hid (show AnsB w (decide ((none : Option (List Int)) = some y)) (.returned (.bool false)) w2 from ⟨rfl, b2⟩)
  clear oX bb rA rX bel b2 HL HU LS K0 K1 k2
  go_wp2
  go_ret
  exact F.out
 | some z =>
  have oY : Own w2 W.heap.size (.slice X xn xc) z := oX
  have hxn : xn ≤ 1048576 := by have := HL.out z rfl; have := Own.len oY; omega
  have LE := Lib.hid (implSame X U xn un xc uc z y w2 (Own.seg oY) (HU.out.next bb) hxn hun)
  clear oX oY HU bb rX rA bel LS K0 K1 HL
  go_wp2_with fail
  refine LE.out.mono ?_
  rintro e w3 ⟨rfl, dd, rfl⟩
  have F := Lib.hid (show AnsB w (decide (some z = some y)) (.returned (.bool (decide (z = y)))) (w2.drewN dd) from ⟨by congr 2; simp, below_drewN b2 dd⟩)
  clear b2 k2 LE
  generalize decide (z = y) = bz at *
  go_wp2
  go_ret
  exact F.out
end walkImpl
end
end Go.Proofs.YtlmofkeemlfpgaaGreat
