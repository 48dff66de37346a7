/-
  MERGED: my texts Shape2, KindsR, SigText, Term2, EndOf, Sym, Args, Depth, TermFacts, TermText, TermTextB, TermTextC, VarsMath, Copy, Vars, VarsOf, CountL, Linear, FillMath, RenMath, RuleMath, Rename, Same, RuleSpec, AnyR, RuleImpl, RuleText, PlainMath, Look, Plain, SubstOk, one behind the other, as they are. By an AI agent.
-/
import Derived.Test.YtlaloakegajheabDoorMFnExactSubstText1
import Derived.Deep.RegionHeld3
import Derived.WalkSpells
import Derived.Deep.QuietTactic
import Derived.BigQuiet
import Derived.Shelf.Abstract
namespace Go.Proofs.YtlaloakegajheabDoor
section
namespace shape
open Go.RowKit base ints sig cursor marks app sym appAt segs segsHelp segsMark kinds
structure Only (F : List Nat) (w w' : World) : Prop where
 os : w'.os = w.os
 tape : w'.tape = w.tape
 output : w'.output = w.output
 size : w.heap.size ≤ w'.heap.size
 block : ∀ k, k < w.heap.size → k ∉ F → w'.heap[k]? = w.heap[k]?
section
variable {w w' w2 : World} {B : Nat} {s : Sh} {e : TypeId} {v : Value} {F G : List Nat}
theorem Ow.only {cs : List Value} {d : Dat s} (h : Ow w s cs d F) (ho : Only G w w') (hd : ∀ k ∈ F, k ∉ G) : Ow w' s cs d F := h.keep fun k hk => ho.block k (h.lt k hk) (hd k hk)
theorem Rd.elem {D : List (Dat s)} {j : Nat} (h : Rd w B (.row e s) [v] D) (hj : j < D.length) : ∃ b off n c es, v = .slice (some ⟨b, off, none⟩) n c ∧ D.length = n ∧ n ≤ c ∧ b < B ∧ es.length = nc s ∧ Piece w b (off + j * nc s) es ∧ Rd w B s es (D.getD j (dft s)) := by
 obtain ⟨A, n, c, e1, hc, hl, h1⟩ := h
 injection e1 with e1
 subst hl
 obtain ⟨b, off, e2, hb, h2⟩ := h1 (by omega)
 obtain ⟨es, he, hp, hr⟩ := h2 j hj
 exact ⟨b, off, _, c, es, by rw [e1, e2], rfl, hc.1, hb, he, hp, hr⟩
theorem Rd.slice {D : List (Dat s)} (h : Rd w B (.row e s) [v] D) : ∃ A c, v = .slice A D.length c ∧ Cap A D.length c := by
 obtain ⟨A, n, c, e1, hc, hl, h1⟩ := h
 injection e1 with e1
 subst hl
 exact ⟨A, c, e1, hc⟩
def Copy1 (w : World) (s : Sh) (d : Dat s) (e : Ending) (w' : World) : Prop := ∃ A n c, e = .returned (.slice A n c) ∧ Owned w' w.heap.size w'.heap.size s [.slice A n c] d ∧ Below w.heap.size w w'
def AnsSzK (w : World) (left : Int) (t : Nat) (e : Ending) (w' : World) : Prop := e = .returned (.int .i64 (if left - t < 0 then -1 else left - t)) ∧ Below w.heap.size w w'
def Yes (w : World) (e : Ending) (w' : World) : Prop := e = .returned (.bool true) ∧ Below w.heap.size w w'
theorem szK_ints (v : Value) (xs : List Int) (left : Int) (w : World) (h : Rd w w.heap.size sI [v] xs) (h0 : 0 ≤ left) (h1 : left ≤ 1048576) :
  Calls Tryd.prog 32 #[v, .int .i64 left] w (AnsSzK w left (sz sI xs)) := by
 obtain ⟨A, n, c, rfl, hs, hc⟩ := rd_ints.1 h
 rw [sz_ints, hs.1]
 exact (szInts A n c left w (Nat.le_trans hc.1 hc.2.1) h0 h1).mono fun _ _ ⟨e1, e2⟩ => ⟨e2, e1 ▸ Below.refl _ _⟩
theorem toK_ints (v : Value) (xs : List Int) (w : World) (h : Rd w w.heap.size sI [v] xs) (hz : sz sI xs ≤ 1048576) :
  Calls Tryd.prog 36 #[v] w (Copy1 w sI xs) := by
 obtain ⟨A, n, c, rfl, hs, hc⟩ := rd_ints.1 h
 rw [sz_ints, hs.1] at hz
 exact (intsTo A n c xs w hs hz).mono fun _ _ ⟨g, e, ho, _, hb⟩ => ⟨_, _, _, e, ow_ints.2 ho, hb⟩
theorem eqK_ints (v v' : Value) (xs : List Int) (w : World) (h : Rd w w.heap.size sI [v] xs) (h' : Rd w w.heap.size sI [v'] xs) (hz : sz sI xs ≤ 1048576) :
  Calls Tryd.prog 12 #[v, v'] w (Yes w) := by
 obtain ⟨A, n, c, rfl, hs, hc⟩ := rd_ints.1 h
 obtain ⟨A', n', c', rfl, hs', hc'⟩ := rd_ints.1 h'
 rw [sz_ints, hs.1] at hz
 exact intsEq A A' n n' c c' xs w hs hs' hz
end
section
variable {s : Sh} {e : TypeId}
def HeadCp (w : World) (e : TypeId) (s : Sh) (n : Nat) (D : List (Dat s)) (i : Value) (wr : World) : Prop :=
 ∃ (k : Nat) (cs : Array Value) (E : Nat → List Value) (G : Nat → List Nat), k ≤ n ∧ i = .int .i64 k ∧ Row wr w.heap.size e cs ∧ cs.size = n * nc s ∧ ((List.range k).flatMap G).Nodup ∧
  (∀ j, j < k → (E j).length = nc s ∧ (∀ i, i < nc s → cs[j * nc s + i]? = (E j)[i]?) ∧ Ow wr s (E j) (D.getD j (dft s)) (G j) ∧ ∀ q ∈ G j, w.heap.size < q) ∧ Below w.heap.size w wr
theorem headCp_zero {w : World} {n : Nat} {D : List (Dat s)} {cs : Array Value} (hs : cs.size = n * nc s) : HeadCp w e s n D (.int .i64 0) (w.alloc (.cells cs e)) :=
 ⟨0, cs, fun _ => [], fun _ => [], Nat.zero_le _, rfl, Row.new _ _ _, hs, by simp, fun j hj => absurd hj (Nat.not_lt_zero _), (Below.refl _ _).alloc (Nat.le_refl _) _⟩
def putAll (w : World) (g : Nat) : Nat → List Value → World
 | _, [] => w
 | off, u :: r => putAll (w.setCell ⟨g, off, none⟩ u) g (off + 1) r
def rowPut (cs : Array Value) : Nat → List Value → Array Value
 | _, [] => cs
 | off, u :: r => rowPut (cs.setIfInBounds off u) (off + 1) r
theorem rowPut_size : ∀ {es : List Value} {cs : Array Value} {off : Nat}, (rowPut cs off es).size = cs.size
 | [], _, _ => rfl
 | u :: r, cs, off => by rw [rowPut, rowPut_size]; simp
theorem rowPut_get : ∀ {es : List Value} {cs : Array Value} {off q : Nat}, off + es.length ≤ cs.size → (rowPut cs off es)[q]? = if off ≤ q ∧ q < off + es.length then es[q - off]? else cs[q]?
 | [], cs, off, q, _ => by rw [rowPut, if_neg (by simp only [List.length_nil]; omega)]
 | u :: r, cs, off, q, h => by
  simp only [List.length_cons] at h
  rw [rowPut, rowPut_get (by simp; omega)]
  simp only [List.length_cons]
  by_cases e1 : q = off
  ·subst e1
   rw [if_neg (by omega), if_pos (by omega), Array.getElem?_setIfInBounds, if_pos rfl, if_pos (by omega)]
   simp
  ·by_cases e2 : off ≤ q ∧ q < off + (r.length + 1)
   ·rw [if_pos (by omega), if_pos e2]
    obtain ⟨m, rfl⟩ : ∃ m, q = off + 1 + m := ⟨q - off - 1, by omega⟩
    rw [show off + 1 + m - (off + 1) = m by omega, show off + 1 + m - off = m + 1 by omega, List.getElem?_cons_succ]
   ·rw [if_neg (by omega), if_neg e2, Array.getElem?_setIfInBounds, if_neg (by omega)]
theorem putAll_row {g : Nat} {t : TypeId} : ∀ {es : List Value} {w : World} {cs : Array Value} {off : Nat}, Row w g t cs → Row (putAll w g off es) g t (rowPut cs off es)
 | [], _, _, _, h => h
 | u :: r, w, cs, off, h => by rw [putAll, rowPut]; exact putAll_row (h.put off u)
theorem putAll_keep {g : Nat} : ∀ {es : List Value} {w : World} {off : Nat} {k : Nat}, k ≠ g → (putAll w g off es).heap[k]? = w.heap[k]?
 | [], _, _, _, _ => rfl
 | u :: r, w, off, k, h => by rw [putAll, putAll_keep h]; exact Below.heap_setCell w _ u k h
theorem putAll_below {g B : Nat} {a : World} : ∀ {es : List Value} {w : World} {off : Nat}, Below B a w → B ≤ g → Below B a (putAll w g off es)
 | [], _, _, h, _ => h
 | u :: r, w, off, h, hg => by rw [putAll]; exact putAll_below (h.setCell hg u) hg
theorem headCp_step {w wr w1 : World} {n k : Nat} {D : List (Dat s)} {cs : Array Value} {E : Nat → List Value} {G : Nat → List Nat} (hk : k < n) (hr : Row wr w.heap.size e cs) (hs : cs.size = n * nc s) (hn : ((List.range k).flatMap G).Nodup)
  (hi : ∀ j, j < k → (E j).length = nc s ∧ (∀ i, i < nc s → cs[j * nc s + i]? = (E j)[i]?) ∧ Ow wr s (E j) (D.getD j (dft s)) (G j) ∧ ∀ q ∈ G j, w.heap.size < q) (hb : Below w.heap.size w wr)
  {es : List Value} (ho : Owned w1 wr.heap.size w1.heap.size s es (D.getD k (dft s))) (bb : Below wr.heap.size wr w1) : HeadCp w e s n D (.int .i64 ((k : Int) + 1)) (putAll w1 w.heap.size (k * nc s) es) := by
 obtain ⟨F, ho, hnF, hF⟩ := ho
 have hz := hr.lt
 have hle : k * nc s + nc s ≤ cs.size := by
  have := Nat.mul_le_mul_right (nc s) (show k + 1 ≤ n by omega)
  rw [Nat.add_mul] at this
  omega
 have hel := ho.len
 have hfr : ∀ j, j < k → ∀ q ∈ G j, q < wr.heap.size := fun j hj => (hi j hj).2.2.1.lt
 refine ⟨k + 1, _, fun j => if j = k then es else E j, fun j => if j = k then F else G j, hk, by simp, putAll_row (hr.next bb), by rw [rowPut_size]; exact hs, ?_, fun j hj => ?_, putAll_below (hb.trans (bb.mono hb.size)) (Nat.le_refl _)⟩
 ·rw [List.range_succ, List.flatMap_append]
  have e1 : (List.range k).flatMap (fun j => if j = k then F else G j) = (List.range k).flatMap G := by
   rw [List.flatMap_def, List.flatMap_def]
   congr 1
   exact List.map_congr_left fun j hj => if_neg (by have := List.mem_range.1 hj; omega)
  rw [e1]
  refine List.nodup_append.2 ⟨hn, by simpa using hnF, fun x hx y hy e => ?_⟩
  obtain ⟨j, hj, hx⟩ := List.mem_flatMap.1 hx
  have h1 := hfr j (List.mem_range.1 hj) x hx
  have h2 := hF y (by simpa using hy)
  omega
 ·by_cases ej : j = k
  ·subst ej
   simp only [if_pos]
   refine ⟨hel, fun i hi2 => ?_, ho.keep fun q hq => putAll_keep (by have := hF q hq; omega), fun q hq => by have := hF q hq; omega⟩
   rw [rowPut_get (by omega), if_pos (by omega)]
   congr 1
   omega
  ·simp only [if_neg ej]
   obtain ⟨q1, q2, q3, q4⟩ := hi j (by omega)
   refine ⟨q1, fun i hi2 => ?_, (q3.next bb).keep fun q hq => putAll_keep (by have := q4 q hq; omega), q4⟩
   rw [rowPut_get (by omega), if_neg ?_]
   ·exact q2 i hi2
   ·have := Nat.mul_le_mul_right (nc s) (show j + 1 ≤ k by omega)
    rw [Nat.add_mul] at this
    omega
theorem headCp_end {w wr : World} {n : Nat} {D : List (Dat s)} {cs : Array Value} {E : Nat → List Value} {G : Nat → List Nat} (hl : D.length = n) (hm : n ≤ 1048576) (hr : Row wr w.heap.size e cs) (hs : cs.size = n * nc s) (hn : ((List.range n).flatMap G).Nodup)
  (hi : ∀ j, j < n → (E j).length = nc s ∧ (∀ i, i < nc s → cs[j * nc s + i]? = (E j)[i]?) ∧ Ow wr s (E j) (D.getD j (dft s)) (G j) ∧ ∀ q ∈ G j, w.heap.size < q) (hb : Below w.heap.size w wr) :
  Copy1 w (.row e s) D (.returned (.slice (some ⟨w.heap.size, 0, none⟩) n n)) wr := by
 refine ⟨_, _, _, rfl, ⟨w.heap.size :: (List.range n).flatMap G, ⟨_, n, n, rfl, hl, .inr ⟨w.heap.size, cs, E, G, rfl, hr, Nat.le_refl _, by omega, hs, rfl, fun j hj => ⟨(hi j hj).1, (hi j hj).2.1, (hi j hj).2.2.1⟩⟩⟩, List.nodup_cons.2 ⟨fun h => ?_, hn⟩, fun k hk => ?_⟩, hb⟩
 ·obtain ⟨j, hj, h⟩ := List.mem_flatMap.1 h
  have := (hi j (List.mem_range.1 hj)).2.2.2 _ h
  omega
 ·rcases List.mem_cons.1 hk with hk | hk
  ·rw [hk]; exact ⟨Nat.le_refl _, hr.lt⟩
  ·obtain ⟨j, hj, h⟩ := List.mem_flatMap.1 hk
   have h1 := (hi j (List.mem_range.1 hj)).2.2.2 _ h
   have h2 := (hi j (List.mem_range.1 hj)).2.2.1.lt _ h
   omega
def mixed (s : Sh) (k : Int) (D : List (Dat s)) (j : Nat) : List (Dat s) := (List.range D.length).map fun q => if q < j then mkc s (k + (cnts s D q : Int)) (D.getD q (dft s)) else D.getD q (dft s)
end
theorem Rd.split {w : World} {B : Nat} {a b : Sh} {ca cb : List Value} {d : Dat (.cat a b)} (h : Rd w B (.cat a b) (ca ++ cb) d) (hl : ca.length = nc a) : Rd w B a ca d.1 ∧ Rd w B b cb d.2 := by
 obtain ⟨ca', cb', e, h1, h2⟩ := h
 obtain ⟨rfl, rfl⟩ := List.append_inj e (by rw [hl, h1.len])
 exact ⟨h1, h2⟩
theorem Ow.split {w : World} {a b : Sh} {ca cb : List Value} {d : Dat (.cat a b)} {F : List Nat} (h : Ow w (.cat a b) (ca ++ cb) d F) (hl : ca.length = nc a) : ∃ Fa Fb, F = Fa ++ Fb ∧ Ow w a ca d.1 Fa ∧ Ow w b cb d.2 Fb := by
 obtain ⟨ca', cb', Fa, Fb, e, e2, h1, h2⟩ := h
 obtain ⟨rfl, rfl⟩ := List.append_inj e (by rw [hl, h1.len])
 exact ⟨Fa, Fb, e2, h1, h2⟩
theorem Row.only {w w' : World} {g : Nat} {t : TypeId} {cs : Array Value} {F : List Nat} (h : Row w g t cs) (ho : Only F w w') (hg : g ∉ F) : Row w' g t cs := (ho.block g h.lt hg).trans h
section
variable {s : Sh} {e : TypeId}
def HeadSzK (w : World) (n : Nat) (s : Sh) (D : List (Dat s)) (left : Int) (l i : Value) (wr : World) : Prop := ∃ k : Nat, k ≤ n ∧ i = .int .i64 k ∧ l = .int .i64 (left - n - szs s D k) ∧ 0 ≤ left - n - szs s D k ∧ Below w.heap.size w wr
theorem headSzK_zero {w : World} {n : Nat} {D : List (Dat s)} {left : Int} (h : 0 ≤ left - n) : HeadSzK w n s D left (.int .i64 (left - n)) (.int .i64 0) w := ⟨0, Nat.zero_le _, rfl, by simp [szs], by simp [szs]; omega, Below.refl _ _⟩
theorem headSzK_bad {n k t : Nat} {D : List (Dat s)} {left : Int} (hn : D.length = n) (hk : k < n) (hs : szs s D (k + 1) = szs s D k + t) (q : left - n - szs s D k - t < 0) : Ending.returned (.int .i64 (-1)) = .returned (.int .i64 (if left - (sz (.row e s) D : Nat) < 0 then -1 else left - (sz (.row e s) D : Nat))) := by
 have h2 := szs_mono (d := D) (show k + 1 ≤ D.length by omega) (Nat.le_refl _)
 rw [if_pos (by rw [sz_row]; omega)]
theorem headSzK_step {w w1 : World} {n k t : Nat} {D : List (Dat s)} {left l : Int} (hk : k < n) (hs : szs s D (k + 1) = szs s D k + t) (hl : left - n - szs s D k = l) (q : ¬ l - t < 0) (hb : Below w.heap.size w w1) : HeadSzK w n s D left (.int .i64 (l - t)) (.int .i64 ((k : Int) + 1)) w1 :=
 ⟨k + 1, hk, by simp, by rw [hs, ← hl]; exact congrArg (Value.int .i64) (by omega), by rw [hs]; omega, hb⟩
theorem headSzK_end {w wr : World} {n k : Nat} {D : List (Dat s)} {left : Int} (hn : D.length = n) (hk : ¬ k < n) (hk' : k ≤ n) (h : 0 ≤ left - n - szs s D k) (hb : Below w.heap.size w wr) : AnsSzK w left (sz (.row e s) D) (.returned (.int .i64 (left - n - szs s D k))) wr := by
 have e1 : k = n := by omega
 subst e1
 have e2 : (left - (sz (.row e s) D : Nat) : Int) = left - k - szs s D k := by rw [sz_row, hn]; omega
 exact ⟨by rw [e2, if_neg (by omega)], hb⟩
end
structure CpS (w : World) (tL tI : TypeId) (cs zs part : Array Value) (wr : World) : Prop where
 box : Row wr w.heap.size tL cs
 res : Row wr (w.heap.size + 1) tI zs
 cur : Row wr (w.heap.size + 1 + 1) tI part
 bel : Below w.heap.size w wr
 size : w.heap.size + 1 + 1 + 1 ≤ wr.heap.size
section
variable {w wr w1 : World} {tL tI : TypeId} {cs zs part : Array Value}
theorem CpS.zero (w : World) (tL tI : TypeId) (cs zs : Array Value) : CpS w tL tI cs zs zs (((w.alloc (.cells cs tL)).alloc (.cells zs tI)).alloc (.cells zs tI)) where
 box := by have := ((Row.new w tL cs).alloc (.cells zs tI)).alloc (.cells zs tI); simpa using this
 res := by have := (Row.new (w.alloc (.cells cs tL)) tI zs).alloc (.cells zs tI); simpa using this
 cur := by have := Row.new ((w.alloc (.cells cs tL)).alloc (.cells zs tI)) tI zs; simpa using this
 bel := (((Below.refl _ _).alloc (Nat.le_refl _) _).alloc (by simp) _).alloc (by simp; omega) _
 size := by simp
theorem CpS.next (h : CpS w tL tI cs zs part wr) (bb : Below wr.heap.size wr w1) : CpS w tL tI cs zs part w1 :=
 ⟨h.box.next bb, h.res.next bb, h.cur.next bb, h.bel.trans (bb.mono h.bel.size), Nat.le_trans h.size bb.size⟩
theorem CpS.put (h : CpS w tL tI cs zs part wr) (i : Nat) (u : Value) : CpS w tL tI cs zs (part.setIfInBounds i u) (wr.setCell ⟨w.heap.size + 1 + 1, i, none⟩ u) :=
 ⟨h.box.far (by show _ ≠ w.heap.size + 1 + 1; omega) _, h.res.far (by show _ ≠ w.heap.size + 1 + 1; omega) _, h.cur.put i u, h.bel.setCell (by show _ ≤ w.heap.size + 1 + 1; omega) _, by simpa using h.size⟩
theorem CpS.fin (h : CpS w tL tI cs zs part wr) (i : Nat) (u : Value) : CpS w tL tI cs (zs.setIfInBounds i u) part (wr.setCell ⟨w.heap.size + 1, i, none⟩ u) :=
 ⟨h.box.far (by show _ ≠ w.heap.size + 1; omega) _, h.res.put i u, h.cur.far (by show _ ≠ w.heap.size + 1; omega) _, h.bel.setCell (by show _ ≤ w.heap.size + 1; omega) _, by simpa using h.size⟩
end
end shape
end
section
open Go.Lib (hid)
namespace kindsR
open Go.RowKit base ints sig cursor marks app sym appAt segs segsHelp segsMark kinds shape
set_option maxRecDepth 100000
abbrev sSig : Sh := sI
theorem cells_Sig {w : World} {B : Nat} {es : List Value} {d : Dat sSig} (h : Rd w B sSig es d) : ∃ (v0 : Value), es = [v0] := by
 obtain ⟨A0, n0, c0, z0, -⟩ := h
 exact ⟨.slice A0 n0 c0, by rw [z0] <;> rfl⟩
set_option maxHeartbeats 2000000 in
theorem szK_Sig (v0 : Value) (d : Dat sSig) (left : Int) (w : World) (h : Rd w w.heap.size sSig [v0] d) (h0 : 0 ≤ left) (h1 : left ≤ 1048576) :
  Calls Tryd.prog 8 #[.agg #[v0], .int .i64 left] w (AnsSzK w left (sz sSig d)) := by
 have g0 := h
 obtain ⟨t0, ht0⟩ : ∃ t, sz sI d = t := ⟨_, rfl⟩
 have HE : Hid (sz sSig d = t0) := hid (by rw [← ht0]; try rfl)
 have HT0 := hid ht0
 have G0 := hid g0
 obtain ⟨W, hW⟩ : ∃ W, W = w.alloc (.cells #[v0] 24) := ⟨_, rfl⟩
 have r : Row W w.heap.size 24 #[v0] := by rw [hW]; exact Row.new _ _ _
 have bel : Below w.heap.size w W := by rw [hW]; exact (Below.refl _ _).alloc (Nat.le_refl _) _
 have HW := hid hW
 clear hW h g0 ht0
 go_enter Tryd.func8, Tryd.ntmps8
 go_wp2_with fail
 rw [← HW.out]
 refine (szK_ints _ _ left W (G0.out.next bel) h0 h1).mono ?_
 rintro e w1 ⟨he, bb⟩
 rw [HT0.out] at he
 replace r := r.next bb
 replace bel := next_trans bel bb
 clear bb
 by_cases q0 : left - (t0 : Int) < 0
 ·rw [if_pos q0] at he
  subst he
  have F : AnsSzK w left (sz sSig d) (.returned (.int .i64 (-1))) w1 := ⟨by rw [HE.out, if_pos (by omega)], bel⟩
  have HF := hid F
  clear F bel r
  go_wp2
  go_ret
  exact HF.out
 rw [if_neg q0] at he
 obtain ⟨l0, hl0⟩ : ∃ l, left - (t0 : Int) = l := ⟨_, rfl⟩
 rw [hl0] at he
 have a0 : 0 ≤ l0 := by omega
 have b0 : l0 ≤ 1048576 := by omega
 have HL0 := hid hl0
 clear hl0 q0
 subst he
 have F : AnsSzK w left (sz sSig d) (.returned (.int .i64 l0)) w1 := ⟨by have := HL0.out; rw [HE.out, if_neg (by omega)]; exact congrArg (fun z => Ending.returned (.int .i64 z)) (by omega), bel⟩
 have HF := hid F
 clear F bel r
 go_wp2
 go_ret
 exact HF.out
def CopySig (w : World) (d : Dat sSig) (e : Ending) (w' : World) : Prop := ∃ A0 n0 c0, e = .returned (.agg #[.slice A0 n0 c0]) ∧ Owned w' w.heap.size w'.heap.size sSig [.slice A0 n0 c0] d ∧ Below w.heap.size w w'
set_option maxHeartbeats 2000000 in
theorem toK_Sig (v0 : Value) (d : Dat sSig) (w : World) (h : Rd w w.heap.size sSig [v0] d) (hz : sz sSig d ≤ 1048576) :
  Calls Tryd.prog 10 #[.agg #[v0]] w (CopySig w d) := by
 have g0 := h
 have cp0 := CpS.zero w 24 28 #[v0] #[.slice none 0 0]
 obtain ⟨W, hW⟩ : ∃ W, W = ((w.alloc (.cells #[v0] 24)).alloc (.cells #[.slice none 0 0] 28)).alloc (.cells #[.slice none 0 0] 28) := ⟨_, rfl⟩
 rw [← hW] at cp0
 have HW := hid hW
 have G0 := hid g0
 have Z0 : Hid (sz sI d ≤ 1048576) := hid (hz)
 clear hW hz h g0
 go_enter Tryd.func10, Tryd.ntmps10
 go_wp2_with fail
 rw [← HW.out]
 refine (toK_ints _ _ _ ((G0.out.below cp0.bel).more cp0.bel.size) Z0.out).mono ?_
 rintro e w1 ⟨x0A0, x0n0, x0c0, rfl, o0, bb⟩
 have zb0 := bb.size
 have zc0 := cp0.size
 replace cp0 := cp0.next bb
 clear bb
 have f0_0 : w1.frozen? ⟨w.heap.size + 1 + 1, 0, none⟩ = false := cp0.cur.free 0
 have k0_0 : w1.cell? ⟨w.heap.size + 1 + 1, 0, none⟩ = some (.slice none 0 0) := cp0.cur.cell 0
 obtain ⟨w2, hw0⟩ : ∃ x, x = (w1.setCell ⟨w.heap.size + 1 + 1, 0, none⟩ (.slice x0A0 x0n0 x0c0)) := ⟨_, rfl⟩
 replace o0 := o0.put (g := w.heap.size + 1 + 1) (i := 0) (u := .slice x0A0 x0n0 x0c0) (by omega)
 rw [← hw0] at o0
 replace cp0 : CpS w 24 28 #[v0] #[.slice none 0 0] #[.slice x0A0 x0n0 x0c0] w2 := by rw [hw0]; exact (CpS.put cp0 0 (.slice x0A0 x0n0 x0c0))
 have zw0 : w2.heap.size = w1.heap.size := by rw [hw0]; simp
 have HW0 := hid hw0
 clear hw0
 have y0 : w2.cell? ⟨w.heap.size + 1 + 1, 0, none⟩ = some (.slice x0A0 x0n0 x0c0) := cp0.cur.cell 0
 rw [HW0.out] at y0
 have s0 : (w2).cell? ⟨w.heap.size + 1, 0, none⟩ = some (.slice none 0 0) := cp0.res.cell 0
 rw [HW0.out] at s0
 have r0 : (w2).frozen? ⟨w.heap.size + 1, 0, none⟩ = false := cp0.res.free 0
 rw [HW0.out] at r0
 have oo : Owned w2 (w.heap.size + 1 + 1 + 1) w2.heap.size sSig [.slice x0A0 x0n0 x0c0] d := o0.wider (by omega) (by omega)
 have F : CopySig w d (.returned (.agg #[.slice x0A0 x0n0 x0c0])) (w2.setCell ⟨w.heap.size + 1, 0, none⟩ (.slice x0A0 x0n0 x0c0)) := ⟨x0A0, x0n0, x0c0, rfl, Owned.wider ((oo.put (g := w.heap.size + 1) (i := 0) (u := .slice x0A0 x0n0 x0c0) (by omega))) (by omega) (by simp), ((CpS.fin cp0 0 (.slice x0A0 x0n0 x0c0))).bel⟩
 have u0 : ((w2.setCell ⟨w.heap.size + 1, 0, none⟩ (.slice x0A0 x0n0 x0c0))).cell? ⟨w.heap.size + 1, 0, none⟩ = some (.slice x0A0 x0n0 x0c0) := (CpS.fin cp0 0 (.slice x0A0 x0n0 x0c0)).res.cell 0
 rw [HW0.out] at u0
 rw [HW0.out] at F
 have HF := hid F
 clear F oo cp0 o0
 go_wp2
 exact bodyPost_ret (v := .agg #[.slice x0A0 x0n0 x0c0]) (by simp [results, Tryd.results10, go_sem, u0]) rfl HF.out
set_option maxHeartbeats 2000000 in
theorem eqK_Sig (v0 u0 : Value) (d : Dat sSig) (w : World) (h : Rd w w.heap.size sSig [v0] d) (h' : Rd w w.heap.size sSig [u0] d) (hz : sz sSig d ≤ 1048576) :
  Calls Tryd.prog 13 #[.agg #[v0], .agg #[u0]] w (Yes w) := by
 have g0 := h
 have g0' := h'
 obtain ⟨W, hW⟩ : ∃ W, W = (w.alloc (.cells #[v0] 28)).alloc (.cells #[u0] 28) := ⟨_, rfl⟩
 have ra : Row W w.heap.size 28 #[v0] := by rw [hW]; exact (Row.new w 28 #[v0]).alloc _
 have rb : Row W (w.heap.size + 1) 28 #[u0] := by rw [hW]; have := Row.new (w.alloc (.cells #[v0] 28)) 28 #[u0]; simpa using this
 have bel : Below w.heap.size w W := by rw [hW]; exact ((Below.refl _ _).alloc (Nat.le_refl _) _).alloc (by simp) _
 have HW := hid hW
 have G0 := hid g0
 have G0' := hid g0'
 have Z0 : Hid (sz sI d ≤ 1048576) := hid (hz)
 clear hW hz h h' g0 g0'
 go_enter Tryd.func13, Tryd.ntmps13
 go_wp2_with fail
 rw [← HW.out]
 refine (eqK_ints _ _ _ W (G0.out.next bel) (G0'.out.next bel) Z0.out).mono ?_
 rintro e w1 ⟨rfl, bb⟩
 replace ra := ra.next bb
 replace rb := rb.next bb
 replace bel := next_trans bel bb
 clear bb
 have F : Yes w (.returned (.bool true)) w1 := ⟨rfl, bel⟩
 have HF := hid F
 clear F ra rb bel
 go_wp2
 go_ret
 exact HF.out
end kindsR
end
section
namespace sigText
open Go.RowKit base ints sig term termOk marks app kinds shape kindsR text textL
set_option maxRecDepth 100000
end sigText
end
section
namespace term
theorem scan_split {sg : List Int} : ∀ {l : List Int} {p q j : Nat}, scan sg (p + q) l = some j → ∃ i, i ≤ j ∧ scan sg p l = some i ∧ scan sg q (l.drop i) = some (j - i) := by
 intro l
 induction l with
 | nil =>
  intro p q j h
  cases p with
  | zero => exact ⟨0, Nat.zero_le _, rfl, by simpa using h⟩
  | succ p => rw [show p + 1 + q = (p + q) + 1 by omega, scan_nil] at h; cases h
 | cons x r ih =>
  intro p q j h
  cases p with
  | zero => exact ⟨0, Nat.zero_le _, rfl, by simpa using h⟩
  | succ p =>
   rw [show p + 1 + q = (p + q) + 1 by omega] at h
   by_cases ha : ar sg x < 0
   ·rw [scan_bad ha] at h; cases h
   ·rw [scan_step ha] at h
    obtain ⟨j', hj', rfl⟩ := Option.map_eq_some_iff.1 h
    rw [show p + q + (ar sg x).toNat = (p + (ar sg x).toNat) + q by omega] at hj'
    obtain ⟨i, h1, h2, h3⟩ := ih hj'
    refine ⟨i + 1, by omega, by rw [scan_step ha, h2]; rfl, ?_⟩
    rw [List.drop_succ_cons, h3]
    congr 1
    omega
theorem scan_tail {sg : List Int} : ∀ {l : List Int} {q j a : Nat}, scan sg q l = some j → a < j → ∃ q', scan sg (q' + 1) (l.drop a) = some (j - a) := by
 intro l
 induction l with
 | nil =>
  intro q j a h ha
  cases q with
  | zero => rw [scan_zero] at h; injection h; omega
  | succ q => rw [scan_nil] at h; cases h
 | cons x r ih =>
  intro q j a h ha
  cases q with
  | zero => rw [scan_zero] at h; injection h; omega
  | succ q =>
   cases a with
   | zero => exact ⟨q, h⟩
   | succ a =>
    by_cases hx : ar sg x < 0
    ·rw [scan_bad hx] at h; cases h
    ·rw [scan_step hx] at h
     obtain ⟨j', hj', rfl⟩ := Option.map_eq_some_iff.1 h
     obtain ⟨q', h'⟩ := ih (a := a) hj' (by omega)
     exact ⟨q', by rw [List.drop_succ_cons, h']; congr 1; omega⟩
theorem scan_pos {sg : List Int} {l : List Int} {q j : Nat} (h : scan sg (q + 1) l = some j) : 1 ≤ j := by
 cases l with
 | nil => rw [scan_nil] at h; cases h
 | cons x r =>
  by_cases hx : ar sg x < 0
  ·rw [scan_bad hx] at h; cases h
  ·rw [scan_step hx] at h
   obtain ⟨j', _, rfl⟩ := Option.map_eq_some_iff.1 h
   omega
theorem scan_le {sg : List Int} : ∀ {l : List Int} {q j : Nat}, scan sg q l = some j → j ≤ l.length := by
 intro l
 induction l with
 | nil =>
  intro q j h
  cases q with
  | zero => rw [scan_zero] at h; injection h; omega
  | succ q => rw [scan_nil] at h; cases h
 | cons x r ih =>
  intro q j h
  cases q with
  | zero => rw [scan_zero] at h; injection h; omega
  | succ q =>
   by_cases hx : ar sg x < 0
   ·rw [scan_bad hx] at h; cases h
   ·rw [scan_step hx] at h
    obtain ⟨j', hj', rfl⟩ := Option.map_eq_some_iff.1 h
    have := ih hj'
    simp
    omega
theorem scan_at {sg t : List Int} (h : scan sg 1 t = some t.length) {a : Nat} (ha : a < t.length) : ∃ j, scan sg 1 (t.drop a) = some j ∧ 1 ≤ j ∧ a + j ≤ t.length := by
 obtain ⟨q', h'⟩ := scan_tail h ha
 rw [Nat.add_comm] at h'
 obtain ⟨i, h1, h2, _⟩ := scan_split h'
 have h3 := scan_pos (q := 0) h2
 exact ⟨i, h2, h3, by omega⟩
theorem scan_args {sg t : List Int} {a j : Nat} (h : scan sg 1 (t.drop a) = some j) : ∃ i, j = i + 1 ∧ a < t.length ∧ ¬ ar sg (t.getD a 0) < 0 ∧ scan sg (ar sg (t.getD a 0)).toNat (t.drop (a + 1)) = some i := by
 by_cases ha : a < t.length
 ·rw [drop_cons ha] at h
  by_cases hx : ar sg (t.getD a 0) < 0
  ·rw [scan_bad hx] at h; cases h
  ·rw [scan_step hx, Nat.zero_add] at h
   obtain ⟨i, hi, rfl⟩ := Option.map_eq_some_iff.1 h
   exact ⟨i, rfl, ha, hx, hi⟩
 ·rw [List.drop_eq_nil_of_le (by omega), scan_nil] at h; cases h
theorem scan_first {sg t : List Int} {q a i : Nat} (h : scan sg (q + 1) (t.drop a) = some i) : ∃ j, scan sg 1 (t.drop a) = some j ∧ 1 ≤ j ∧ j ≤ i ∧ scan sg q (t.drop (a + j)) = some (i - j) := by
 rw [Nat.add_comm] at h
 obtain ⟨j, h1, h2, h3⟩ := scan_split h
 rw [List.drop_drop] at h3
 exact ⟨j, h2, scan_pos (q := 0) h2, h1, h3⟩
def len1 (sg t : List Int) (a : Nat) : Nat := (scan sg 1 (t.drop a)).getD 0
theorem len1_eq {sg t : List Int} {a j : Nat} (h : scan sg 1 (t.drop a) = some j) : len1 sg t a = j := by unfold len1; rw [h]; rfl
def places (sg t : List Int) : Nat → Nat → List Int
 | 0, _ => []
 | k + 1, p => (p : Int) :: places sg t k (p + len1 sg t p)
def maxOver (sg t : List Int) (g : Nat → Int) : Nat → Nat → Int
 | 0, _ => 0
 | k + 1, p => max (g p) (maxOver sg t g k (p + len1 sg t p))
def dep (sg t : List Int) : Nat → Nat → Int
 | 0, _ => 0
 | f + 1, a => maxOver sg t (dep sg t f) (ar sg (t.getD a 0)).toNat (a + 1) + 1
theorem maxOver_bd {sg t : List Int} {g : Nat → Int} {B : Int} (hB : 0 ≤ B) (hg : ∀ p, 0 ≤ g p ∧ g p ≤ B) : ∀ k p, 0 ≤ maxOver sg t g k p ∧ maxOver sg t g k p ≤ B
 | 0, _ => by simp [maxOver, hB]
 | k + 1, p => by
  have h1 := hg p
  have h2 := maxOver_bd (sg := sg) (t := t) hB hg k (p + len1 sg t p)
  simp only [maxOver]
  omega
theorem dep_bd {sg t : List Int} : ∀ f a, 0 ≤ dep sg t f a ∧ dep sg t f a ≤ f
 | 0, _ => by simp [dep]
 | f + 1, a => by
  have := maxOver_bd (sg := sg) (t := t) (g := dep sg t f) (B := f) (by omega) (fun p => dep_bd (sg := sg) (t := t) f p) (ar sg (t.getD a 0)).toNat (a + 1)
  simp only [dep]
  omega
theorem places_len {sg t : List Int} : ∀ k p, (places sg t k p).length = k
 | 0, _ => rfl
 | k + 1, p => by simp [places, places_len]
end term
end
section
open Go.Lib (hid)
namespace endAt
open Go.RowKit base ints sig term arity endOf cursor termOk
def inB (t : List Int) (x : Int) : Bool := decide (0 ≤ x ∧ x < t.length)
def thereB (sg t : List Int) (x : Int) : Bool := termOkB sg t && inB t x
theorem termOk_parts {sg t : List Int} (h : termOkB sg t = true) : sigOkB sg = true ∧ t.length ≤ 60 ∧ scan sg 1 t = some t.length := by
 unfold termOkB termB at h
 simp only [Bool.and_eq_true, decide_eq_true_eq] at h
 exact h
theorem there_parts {sg t : List Int} {x : Int} (h : thereB sg t x = true) : termOkB sg t = true ∧ 0 ≤ x ∧ x < t.length := by
 unfold thereB inB at h
 simp only [Bool.and_eq_true, decide_eq_true_eq] at h
 exact h
theorem there_no {sg t : List Int} {x : Int} (h : termOkB sg t = false ∨ x < 0 ∨ (t.length : Int) ≤ x) : thereB sg t x = false := by
 unfold thereB inB
 rcases h with h | h | h
 ·rw [h, Bool.false_and]
 ·rw [decide_eq_false (by omega), Bool.and_false]
 ·rw [decide_eq_false (by omega), Bool.and_false]
theorem there_yes {sg t : List Int} {x : Int} (h : termOkB sg t = true) (h0 : 0 ≤ x) (h1 : x < t.length) : thereB sg t x = true := by
 unfold thereB inB
 rw [h, decide_eq_true ⟨h0, h1⟩]
 rfl
def AnsAt (w : World) (A : Option Addr) (n c : Nat) (A' : Option Addr) (m c' : Nat) (sg t : List Int) (x : Int) (e : Ending) (w' : World) : Prop :=
 Below w.heap.size w w' ∧ ((thereB sg t x = true ∧ ∃ p, e = .returned (.pointer (some ⟨p, 0, none⟩)) ∧ w.heap.size ≤ p ∧ Cur w' p A n c A' m c' sg t x.toNat) ∨ (thereB sg t x = false ∧ e = .returned (.pointer none)))
theorem at_no {w w' : World} {A A' : Option Addr} {n c m c' : Nat} {sg t : List Int} {x : Int} (h : thereB sg t x = false) (hb : Below w.heap.size w w') : AnsAt w A n c A' m c' sg t x (.returned (.pointer none)) w' := ⟨hb, .inr ⟨h, rfl⟩⟩
set_option maxHeartbeats 1000000 in
theorem cursorAt (A A' : Option Addr) (n c m c' : Nat) (sg t : List Int) (x : Int) (w : World) (h : Seg w w.heap.size A n sg) (h' : Seg w w.heap.size A' m t) (hn : n ≤ 1048576) (hm : m ≤ 1048576) :
  Calls Tryd.prog 70 #[.agg #[.slice A n c], .slice A' m c', .int .i64 x] w (AnsAt w A n c A' m c' sg t x) := by
 obtain ⟨W, hW⟩ : ∃ W, W = w.alloc (.cells #[.slice A n c] 28) := ⟨_, rfl⟩
 have rA : Row W w.heap.size 28 #[.slice A n c] := by rw [hW]; exact Row.new _ _ _
 have bel : Below w.heap.size w W := by rw [hW]; exact (Below.refl _ _).alloc (Nat.le_refl _) _
 replace h := (h.below bel).more bel.size
 replace h' := (h'.below bel).more bel.size
 have HW := hid hW
 have HL := hid h'.1
 clear hW
 have L := hid (implTermOk A A' n c m c' sg t W h h' hn hm)
 cases hok : termOkB sg t with
 | false =>
  have HS := hid hok
  clear hok h h'
  go_enter Tryd.func70, Tryd.ntmps70
  go_wp2_with fail
  rw [← HW.out]
  refine L.out.mono ?_
  rintro e w1 ⟨he, bb⟩
  rw [HS.out] at he
  subst he
  have F := hid (fun A n c A' m c' => at_no (A := A) (n := n) (c := c) (A' := A') (m := m) (c' := c') (x := x) (there_no (.inl HS.out)) (next_trans bel bb))
  clear bb bel rA
  go_wp2
  go_ret
  exact F.out _ _ _ _ _ _
 | true =>
  have HS := hid hok
  clear hok
  by_cases hin : 0 ≤ x ∧ x < (m : Int)
  ·have hars := (sig_arities (termOk_parts HS.out).1).1
   have HT := hid (there_yes HS.out hin.1 (by rw [HL.out]; exact hin.2))
   obtain ⟨k, rfl⟩ := Int.eq_ofNat_of_zero_le hin.1
   obtain ⟨i0, i1⟩ := hin
   go_enter Tryd.func70, Tryd.ntmps70
   go_wp2_with fail
   rw [← HW.out]
   refine L.out.mono ?_
   rintro e w1 ⟨he, bb⟩
   rw [HS.out] at he
   subst he
   replace h := h.next bb
   replace h' := h'.next bb
   replace rA := rA.next bb
   replace bel := next_trans bel bb
   have cA : w1.cell? ⟨w.heap.size, 0, none⟩ = some (.slice A n c) := rA.cell 0
   have CN := cur_new (c := c) (c' := c') h h' hn hm hars k (by omega)
   have F : AnsAt w A n c A' m c' sg t (k : Int) (.returned (.pointer (some ⟨w1.heap.size, 0, none⟩))) (w1.alloc (.cells #[.slice A n c, .slice A' m c', .int .i64 k] 90)) :=
    ⟨bel.alloc (Nat.le_of_lt rA.lt) _, .inl ⟨HT.out, _, rfl, Nat.le_of_lt rA.lt, by rw [Int.toNat_natCast]; exact CN⟩⟩
   have HF := hid F
   clear F CN bb bel rA h h' hars HT
   go_wp2
   go_ret
   exact HF.out
  ·have HT := hid (there_no (sg := sg) (t := t) (x := x) (by rw [HL.out]; omega))
   by_cases hx0 : x < 0
   ·clear hin
    go_enter Tryd.func70, Tryd.ntmps70
    go_wp2_with fail
    rw [← HW.out]
    refine L.out.mono ?_
    rintro e w1 ⟨he, bb⟩
    rw [HS.out] at he
    subst he
    have F := hid (fun A n c A' m c' => at_no (A := A) (n := n) (c := c) (A' := A') (m := m) (c' := c') HT.out (next_trans bel bb))
    clear bb bel rA h h'
    go_wp2
    go_ret
    exact F.out _ _ _ _ _ _
   ·have hx1 : (m : Int) ≤ x := by omega
    clear hin
    go_enter Tryd.func70, Tryd.ntmps70
    go_wp2_with fail
    rw [← HW.out]
    refine L.out.mono ?_
    rintro e w1 ⟨he, bb⟩
    rw [HS.out] at he
    subst he
    have F := hid (fun A n c A' m c' => at_no (A := A) (n := n) (c := c) (A' := A') (m := m) (c' := c') HT.out (next_trans bel bb))
    clear bb bel rA h h'
    go_wp2
    go_ret
    exact F.out _ _ _ _ _ _
end endAt
end
section
namespace sym
open Go.RowKit base ints sig term termOk marks app
end sym
end
section
open Go.Lib (hid)
namespace args
open Go.RowKit base ints sig term arity endOf cursor termOk endAt marks app sym
def argsL (sg t : List Int) (a : Nat) : List Int := places sg t (ar sg (t.getD a 0)).toNat (a + 1)
def Coll (sg t : List Int) (m : Nat) (L ys : List Int) (q p : Nat) : Prop := ys ++ places sg t q p = L ∧ ∃ i, scan sg q (t.drop p) = some i ∧ p + i ≤ m
theorem Coll.first {sg t : List Int} {m : Nat} {L ys : List Int} {q p : Nat} (h : Coll sg t m L ys (q + 1) p) : ∃ j, scan sg 1 (t.drop p) = some j ∧ p + j ≤ m ∧ p < t.length ∧ Coll sg t m L (ys ++ [(p : Int)]) q (p + j) := by
 obtain ⟨h1, i, h2, h3⟩ := h
 obtain ⟨j, e1, e2, e3, e4⟩ := scan_first h2
 have e5 := scan_le h2
 refine ⟨j, e1, by omega, ?_, ?_, i - j, e4, by omega⟩
 ·simp only [List.length_drop] at e5; omega
 ·rw [← h1, List.append_assoc]
  congr 1
  simp only [places, len1_eq e1, List.singleton_append]
theorem Coll.done {sg t : List Int} {m : Nat} {L ys : List Int} {p : Nat} (h : Coll sg t m L ys 0 p) : ys = L := by
 have := h.1
 simpa [places] using this
theorem Coll.len {sg t : List Int} {m : Nat} {L ys : List Int} {q p : Nat} (h : Coll sg t m L ys q p) : ys.length ≤ L.length := by
 rw [← h.1]; simp
theorem Coll.start {sg t : List Int} {m a j : Nat} (hm : t.length = m) (h : scan sg 1 (t.drop a) = some j) (hj : a + j ≤ m) : ¬ ar sg (t.getD a 0) < 0 ∧ Coll sg t m (argsL sg t a) [] (ar sg (t.getD a 0)).toNat (a + 1) := by
 obtain ⟨i, rfl, _, h2, h3⟩ := scan_args h
 exact ⟨h2, rfl, i, h3, by omega⟩
theorem argsL_len {sg t : List Int} (hs : Arities sg) (a : Nat) : (argsL sg t a).length ≤ 3 := by
 unfold argsL
 rw [places_len]
 have := ar_bd hs (t.getD a 0)
 omega
def HeadArgs (w : World) (A : Option Addr) (n c m : Nat) (sg t : List Int) (L : List Int) (out p k : Value) (wr : World) : Prop :=
 ∃ (q pp : Nat) (O : Option Addr) (on oc : Nat) (ys : List Int), k = .int .i64 q ∧ p = .int .i64 pp ∧ out = .slice O on oc ∧ Own wr (w.heap.size + 1) (.slice O on oc) ys ∧ Coll sg t m L ys q pp ∧ q ≤ 3 ∧ Row wr w.heap.size 28 #[.slice A n c] ∧ Below w.heap.size w wr
set_option maxHeartbeats 1000000 in
theorem l1Args (A A' : Option Addr) (n c m c' : Nat) (sg t : List Int) (a j : Nat) (w : World) (h : Seg w w.heap.size A n sg) (h' : Seg w w.heap.size A' m t) (hn : n ≤ 1048576) (hm : m ≤ 1048576)
  (hs : Arities sg) (ha : a < m) (hj : scan sg 1 (t.drop a) = some j) (hj2 : a + j ≤ m) :
  Calls Tryd.prog 86 #[.agg #[.slice A n c], .slice A' m c', .int .i64 (a : Int)] w (AnsList w (argsL sg t a)) := by
 have HL := hid h'.1
 obtain ⟨hneg, hcoll⟩ := Coll.start HL.out hj hj2
 have h3 := argsL_len (t := t) hs a
 obtain ⟨b, off, x, rfl, hbb, hx, ex⟩ := h'.spot ha
 rw [ex.out] at hneg hcoll
 have hzb := ar_bd hs x
 obtain ⟨z, hz⟩ : ∃ z, ar sg x = z := ⟨_, rfl⟩
 rw [hz] at hneg hcoll hzb
 obtain ⟨T, rfl⟩ := Int.eq_ofNat_of_zero_le (show 0 ≤ z by omega)
 rw [Int.toNat_natCast] at hcoll
 have HZ := hid hz
 obtain ⟨L, hL⟩ : ∃ L, argsL sg t a = L := ⟨_, rfl⟩
 rw [hL] at hcoll h3 ⊢
 obtain ⟨W, hW⟩ : ∃ W, W = (w.alloc (.cells #[.slice A n c] 28)).alloc (.cells #[] 2) := ⟨_, rfl⟩
 have rA : Row W w.heap.size 28 #[.slice A n c] := by rw [hW]; exact (Row.new _ _ _).alloc _
 have bel : Below w.heap.size w W := by rw [hW]; exact ((Below.refl _ _).alloc (Nat.le_refl _) _).alloc (by simp) _
 have ow : Own W (w.heap.size + 1) (.slice (some ⟨w.heap.size + 1, 0, none⟩) 0 0) [] := by
  rw [hW]
  have := own_empty (w.alloc (.cells #[.slice A n c] 28)) (w.heap.size + 1) (by simp)
  simpa using this
 have s : Seg W.drew W.heap.size A n sg := ((h.below bel).more bel.size).drew
 have hx1 : W.cell? ⟨b, off + a, none⟩ = some (.int .i64 x) := (bel.cell (p := ⟨b, off + a, none⟩) hbb).trans hx
 have cA : W.cell? ⟨w.heap.size, 0, none⟩ = some (.slice A n c) := rA.cell 0
 have i0 : (0 : Int) ≤ (a : Int) := by omega
 have i1 : (a : Int) < (m : Int) := by omega
 have HW := hid hW
 have HS0 := hid hs
 clear hW hx hL hz hj ex hs
 go_enter Tryd.func86, Tryd.ntmps86
 go_wp2_with fail
 rw [← HW.out]
 replace rA := rA.drew
 replace bel := bel.drew
 replace ow := Own.drew ow
 go_region_held3 (fun w' => w'.cell? ⟨w.heap.size, 0, none⟩ = some (.slice A n c) ∧ w'.cell? ⟨b, off + a, none⟩ = some (.int .i64 x))
  (go_keep)
  (first
   | (go_at_call 85; refine (specArity _ _ _ sg x _ s hn).mono ?_; rintro e w2 ⟨he, bb⟩; rw [HZ.out] at he; subst he; replace cA : w2.cell? ⟨w.heap.size, 0, none⟩ = some (.slice A n c) := (rA.next bb).cell 0; have cx' : w2.cell? ⟨b, off + a, none⟩ = some (.int .i64 x) := (bb.cell (p := ⟨b, off + a, none⟩) (Nat.lt_trans hbb rA.lt)).trans hx1))
 have S0 : HeadArgs w A n c m sg t L (.slice (some ⟨w.heap.size + 1, 0, none⟩) 0 0) (.int .i64 ((a + 1 : Nat) : Int)) (.int .i64 (T : Int)) w2 :=
  ⟨T, a + 1, _, _, _, [], rfl, rfl, rfl, Own.next ow bb, hcoll, by omega, rA.next bb, bel.trans (bb.mono (Nat.le_of_lt rA.lt))⟩
 have HS := hid S0
 clear S0 bb rA bel ow s hx1 cA cx' hcoll
 go_wp2_with fail
 go_loopw [7, 8, 9] (fun out p k wr => HeadArgs w A n c m sg t L out p k wr) (fun _ _ k _ => (intOf k).toNat)
 case atStart => simpa using HS.out
 case round =>
  obtain ⟨q, pp, O, on, oc, ys, rfl, rfl, rfl, ho, hc, hq, hr, hb⟩ := hrel
  clear HS
  have hon : on ≤ 3 := by have := Own.len ho; have := hc.len; omega
  cases q with
  | zero =>
   have F : AnsList w L (.returned (.slice O on oc)) wr := ⟨O, on, oc, rfl, by rw [← hc.done]; exact Own.lower ho (Nat.le_succ _), hb⟩
   have HF := hid F
   clear F ho hc hr hb h h'
   go_wp2
   go_ret
   exact HF.out
  | succ q =>
   obtain ⟨jj, hj, hj2', hlt, hc'⟩ := hc.first
   have HE := hid (endI_some hj)
   have hsz := hr.lt
   have e0 : (0 : Int) < ((q + 1 : Nat) : Int) := by omega
   have hpp : pp ≤ 1048576 := by omega
   clear hc hj
   go_wp2_with (at_builtin; refine app1 rfl _ _ rfl (w.heap.size + 1) O on oc ys rfl (Own.alloc ho _) wr.heap.size 1 (pp : Int) rfl ((Row.new _ _ _).cell 0) (by omega) (by simp; omega) ?_; intro O' oc' w2 ho2 b2; have r2 : Row w2 w.heap.size 28 #[.slice A n c] := (hr.alloc _).below b2 (Nat.lt_succ_self _); have bel2 : Below w.heap.size w w2 := (hb.alloc (Nat.le_of_lt hsz) _).trans (b2.mono (Nat.le_succ _)); have cA2 : w2.cell? ⟨w.heap.size, 0, none⟩ = some (.slice A n c) := r2.cell 0)
   have s2 : Seg w2 w2.heap.size A n sg := (h.below bel2).more bel2.size
   have s2' : Seg w2 w2.heap.size (some ⟨b, off, none⟩) m t := (h'.below bel2).more bel2.size
   clear ho b2 hr hb
   refine (specEnd A _ n c m c' sg t (pp : Int) _ s2 s2' hn hm HS0.out (by omega) (by omega)).mono ?_
   rintro e w3 ⟨he, bb⟩
   rw [Int.toNat_natCast, HE.out] at he
   subst he
   have S : HeadArgs w A n c m sg t L (.slice O' (on + 1) oc') (.int .i64 ((pp : Int) + jj)) (.int .i64 (q : Int)) w3 :=
    ⟨q, pp + jj, O', on + 1, oc', _, rfl, by simp, rfl, Own.next ho2 bb, hc', by omega, r2.next bb, next_trans bel2 bb⟩
   have HSS := hid S
   clear S bb ho2 r2 bel2 cA2 s2 s2' hc'
   go_wp2
   go_roundw
   case rel => first | exact HSS.out | simpa using HSS.out
   case measure => simp [intOf]
theorem Cur.keep {w w' : World} {p : Nat} {A : Option Addr} {n c : Nat} {A' : Option Addr} {m c' : Nat} {sg t : List Int} {k : Nat} (h : Cur w p A n c A' m c' sg t k) (hb : Below (p + 1) w w') : Cur w' p A n c A' m c' sg t k :=
 ⟨h.row.below hb (Nat.lt_succ_self _), h.s.below (hb.mono (Nat.le_succ _)), h.s'.below (hb.mono (Nat.le_succ _)), h.le, h.hn, h.hm, h.ars⟩
theorem Cur.alloc {w : World} {p : Nat} {A : Option Addr} {n c : Nat} {A' : Option Addr} {m c' : Nat} {sg t : List Int} {k : Nat} (h : Cur w p A n c A' m c' sg t k) (o : Obj) : Cur (w.alloc o) p A n c A' m c' sg t k :=
 h.below ((Below.refl _ _).alloc (Nat.le_refl _) _)
theorem args_over {w a b : World} {B : Nat} {r : Option Nat} (g : w.grownBy a r) (hb : Below B a b) (hB : w.heap.size ≤ B) : w.grownBy b r :=
 ⟨hb.os.trans g.os, hb.tape.trans g.tape, hb.output.trans g.output, Nat.le_trans g.size hb.size, fun k hk hne => (hb.block k (by omega)).trans (g.block k hk hne)⟩
end args
end
section
namespace depth
open Go.RowKit base ints sig term arity endOf cursor termOk endAt marks app sym args
def Deep (sg t : List Int) (f : Nat) (M d : Int) (q p : Nat) : Prop := max d (maxOver sg t (dep sg t f) q p) = M ∧ 0 ≤ d ∧ d ≤ f ∧ ∃ i, scan sg q (t.drop p) = some i ∧ i ≤ f ∧ p + i ≤ t.length
theorem Deep.first {sg t : List Int} {f : Nat} {M d : Int} {q p : Nat} (h : Deep sg t f M d (q + 1) p) : ∃ j, scan sg 1 (t.drop p) = some j ∧ j ≤ f ∧ p < t.length ∧ p + j ≤ t.length ∧ Deep sg t f M (max d (dep sg t f p)) q (p + j) := by
 obtain ⟨h1, h2, h3, i, h4, h5, h6⟩ := h
 obtain ⟨j, e1, e2, e3, e4⟩ := scan_first h4
 have hb := dep_bd (sg := sg) (t := t) f p
 refine ⟨j, e1, by omega, by omega, by omega, ?_, by omega, by omega, i - j, e4, by omega, by omega⟩
 simp only [maxOver, len1_eq e1] at h1
 omega
theorem Deep.done {sg t : List Int} {f : Nat} {M d : Int} {p : Nat} (h : Deep sg t f M d 0 p) : d = M := by
 have h1 := h.1
 have h2 := h.2.1
 simp only [maxOver] at h1
 omega
theorem termOk_pos {sg t : List Int} (h : termOkB sg t = true) : 0 < t.length := by
 have := scan_pos (q := 0) (termOk_parts h).2.2
 exact this
end depth
end
section
namespace termFacts
open sig term termOk
theorem term_parts {sg t : List Int} (h : termOkB sg t = true) : sigOkB sg = true ∧ t.length ≤ 60 ∧ scan sg 1 t = some t.length := by
 unfold termOkB termB at h
 simp only [Bool.and_eq_true, decide_eq_true_eq] at h
 exact h
theorem term_mk {sg t : List Int} (h1 : sigOkB sg = true) (h2 : t.length ≤ 60) (h3 : scan sg 1 t = some t.length) : termOkB sg t = true := by
 unfold termOkB termB
 simp [h1, h2, h3]
theorem term_len {sg t : List Int} (h : termOkB sg t = true) : 1 ≤ t.length ∧ t.length ≤ 60 := ⟨scan_pos (q := 0) (term_parts h).2.2, (term_parts h).2.1⟩
theorem term_ar {sg t : List Int} (h : termOkB sg t = true) {j : Nat} (hj : j < t.length) : ¬ ar sg (t.getD j 0) < 0 := by
 obtain ⟨i, h1, _, _⟩ := scan_at (term_parts h).2.2 hj
 obtain ⟨_, _, _, h2, _⟩ := scan_args h1
 exact h2
theorem term_num {sg t : List Int} (h : termOkB sg t = true) {j : Nat} (hj : j < t.length) : -24 ≤ t.getD j 0 ∧ t.getD j 0 < 8 := by
 have h1 := term_ar h hj
 have h2 := (sig_arities (term_parts h).1).2
 unfold ar at h1
 split at h1
 ·omega
 ·split at h1
  ·omega
  ·omega
theorem term_mem {sg t : List Int} (h : termOkB sg t = true) {x : Int} (hx : x ∈ t) : -24 ≤ x ∧ x < 8 := by
 obtain ⟨j, hj, rfl⟩ := List.getElem_of_mem hx
 have := term_num h hj
 simpa [List.getD, hj] using this
end termFacts
end
section
namespace termText
open Go.RowKit base ints sig term arity endOf cursor termOk endAt marks app sym args depth termFacts text textL
set_option maxRecDepth 100000
def hdT (n : Int) : List UInt8 := if n < 0 then 120 :: dg (-1 - n).toNat else 102 :: dg n.toNat
def wordsOf (sg t : List Int) (g : Nat → List UInt8) : Nat → Nat → List (List UInt8)
 | 0, _ => []
 | k + 1, p => g p :: wordsOf sg t g k (p + len1 sg t p)
def open_ (ws : List (List UInt8)) : List UInt8 := if ws = [] then [] else 40 :: Lib.join ws [44]
def shut_ (ws : List (List UInt8)) : List UInt8 := if ws = [] then [] else [41]
def txt (sg t : List Int) : Nat → Nat → List UInt8
 | 0, _ => []
 | f + 1, a => hdT (t.getD a 0) ++ open_ (wordsOf sg t (txt sg t f) (ar sg (t.getD a 0)).toNat (a + 1)) ++ shut_ (wordsOf sg t (txt sg t f) (ar sg (t.getD a 0)).toNat (a + 1))
def Small (t : List Int) : Prop := ∀ p, p < t.length → -24 ≤ t.getD p 0 ∧ t.getD p 0 < 100
theorem hdT_len {n : Int} (h : -24 ≤ n ∧ n < 100) : (hdT n).length ≤ 3 := by
 unfold hdT
 split
 ·have := dg_len (n := (-1 - n).toNat) (by omega); simp; omega
 ·have := dg_len (n := n.toNat) (by omega); simp; omega
theorem words_count (sg t : List Int) (g : Nat → List UInt8) : ∀ k p, (wordsOf sg t g k p).length = k
 | 0, _ => rfl
 | k + 1, p => by simp [wordsOf, words_count sg t g k]
def lens (ws : List (List UInt8)) : Nat := (ws.map List.length).sum
theorem join_lens (ws : List (List UInt8)) (hne : ws ≠ []) : (Lib.join ws [44]).length + 1 ≤ lens ws + ws.length := by
 cases ws with
 | nil => exact absurd rfl hne
 | cons x r =>
  rw [Lib.join_cons]
  have h : ∀ r : List (List UInt8), (Lib.joinTail [44] r).length = lens r + r.length := by
   intro r
   induction r with
   | nil => simp [Lib.joinTail, lens]
   | cons y r ih =>
    have e : Lib.joinTail [44] (y :: r) = [44] ++ y ++ Lib.joinTail [44] r := by simp [Lib.joinTail]
    rw [e]
    simp only [List.length_append, ih, lens, List.map_cons, List.sum_cons, List.length_cons, List.length_nil]
    omega
  simp only [List.length_append, h, lens, List.map_cons, List.sum_cons, List.length_cons]
  omega
theorem txt_len {sg t : List Int} (hs : Arities sg) (hsm : Small t) : ∀ f a j, scan sg 1 (t.drop a) = some j → j ≤ f → (txt sg t f a).length ≤ 7 * j
 | 0, a, j, hj, hf => by have := scan_pos (q := 0) hj; omega
 | f + 1, a, j, hj, hf => by
  obtain ⟨r, rfl, hat, hneg, hr⟩ := scan_args hj
  have hw : ∀ q p r, scan sg q (t.drop p) = some r → r ≤ f → lens (wordsOf sg t (txt sg t f) q p) ≤ 7 * r := by
   intro q
   induction q with
   | zero => intro p r _ _; simp [wordsOf, lens]
   | succ q ih =>
    intro p r hr hf
    obtain ⟨j, e1, e2, e3, e4⟩ := scan_first hr
    have h1 := txt_len hs hsm f p j e1 (by omega)
    have h2 := ih (p + j) (r - j) e4 (by omega)
    simp only [wordsOf, len1_eq e1, lens, List.map_cons, List.sum_cons] at h2 ⊢
    omega
  have h1 := hw _ _ _ hr (by omega)
  have h2 := hdT_len (hsm a hat)
  have h3 := ar_bd hs (t.getD a 0)
  have h4 := words_count sg t (txt sg t f) (ar sg (t.getD a 0)).toNat (a + 1)
  have h5 := join_lens (wordsOf sg t (txt sg t f) (ar sg (t.getD a 0)).toNat (a + 1))
  obtain ⟨H, hH⟩ : ∃ H, hdT (t.getD a 0) = H := ⟨_, rfl⟩
  rw [hH] at h2
  show (hdT (t.getD a 0) ++ open_ _ ++ shut_ _).length ≤ _
  rw [hH]
  obtain ⟨ws, hws⟩ : ∃ ws, wordsOf sg t (txt sg t f) (ar sg (t.getD a 0)).toNat (a + 1) = ws := ⟨_, rfl⟩
  rw [hws] at h1 h4 h5 ⊢
  unfold open_ shut_
  by_cases hn : ws = []
  ·rw [if_pos hn, if_pos hn]; simp; omega
  ·have h6 := h5 hn
   rw [if_neg hn, if_neg hn]; simp only [List.length_append, List.length_cons, List.length_nil]; omega
theorem words_le {sg t : List Int} (hs : Arities sg) (hsm : Small t) {f : Nat} (hf60 : f ≤ 500) : ∀ q p r, scan sg q (t.drop p) = some r → r ≤ f → ∀ x ∈ wordsOf sg t (txt sg t f) q p, x.length ≤ 4096
 | 0, p, r, _, _ => by intro x hx; cases hx
 | q + 1, p, r, hr, hf => by
  intro x hx
  obtain ⟨j, e1, e2, e3, e4⟩ := scan_first hr
  rcases List.mem_cons.1 hx with rfl | hx
  ·have := txt_len hs hsm f p j e1 (by omega); omega
  ·rw [len1_eq e1] at hx
   exact words_le hs hsm hf60 q (p + j) (r - j) e4 (by omega) x hx
set_option maxHeartbeats 1000000 in
theorem headText (n : Int) (w : World) (h : -24 ≤ n ∧ n < 100) :
  Calls Tryd.prog 62 #[.int .i64 n] w fun e w' => e = .returned (.string (bs (hdT n))) ∧ w' = w := by
 by_cases h0 : n < 0
 ·obtain ⟨m, hm⟩ : ∃ m : Nat, -1 - n = (m : Int) := ⟨(-1 - n).toNat, by omega⟩
  have LN := Lib.hid (numberText m w (by omega))
  have e : bs [120] ++ bs (dg m) = bs (hdT n) := by
   rw [bs_app]
   unfold hdT
   rw [if_pos h0, hm, Int.toNat_natCast]
   rfl
  have E := Lib.hid e
  have h1 : -1 - n = (m : Int) := hm
  have h2 : (m : Int) < 100 := by omega
  have ho : ¬ 9223372036854775807 < (⟨#[120]⟩ : ByteArray).size + (bs (dg m)).size := by rw [bs_size]; have := dg_len (n := m) (by omega); show ¬ _ < 1 + _; omega
  clear e hm
  go_enter Tryd.func62, Tryd.ntmps62
  go_wp2_with fail
  refine LN.out.mono ?_
  rintro e w' ⟨rfl, hw⟩
  obtain rfl : w = w' := hw.symm
  clear h1
  go_wp2
  go_ret
  exact ⟨by rw [← E.out]; rfl, rfl⟩
 ·obtain ⟨m, rfl⟩ := Int.eq_ofNat_of_zero_le (Int.not_lt.1 h0)
  have LN := Lib.hid (numberText m w (by omega))
  have e : bs [102] ++ bs (dg m) = bs (hdT (m : Int)) := by
   rw [bs_app]
   unfold hdT
   rw [if_neg h0, Int.toNat_natCast]
   rfl
  have E := Lib.hid e
  have ho : ¬ 9223372036854775807 < (⟨#[102]⟩ : ByteArray).size + (bs (dg m)).size := by rw [bs_size]; have := dg_len (n := m) (by omega); show ¬ _ < 1 + _; omega
  clear e
  go_enter Tryd.func62, Tryd.ntmps62
  go_wp2_with fail
  refine LN.out.mono ?_
  rintro e w' ⟨rfl, hw⟩
  obtain rfl : w = w' := hw.symm
  go_wp2
  go_ret
  exact ⟨by rw [← E.out]; rfl, rfl⟩
end termText
end
section
open Go.Lib (hid)
namespace termText
open Go.RowKit base ints sig term arity endOf cursor termOk endAt marks app sym args depth termFacts text textL
set_option maxRecDepth 100000
def HeadTx (w : World) (A : Option Addr) (n c : Nat) (O : Option Addr) (T oc : Nat) (ys : List Int) (sg t : List Int) (f m : Nat) (H : List UInt8) (Wd : List (List UInt8)) (s i : Value) (wr : World) : Prop :=
 ∃ (k q pp r : Nat) (ws : List (List UInt8)), i = .int .i64 k ∧ k + q = T ∧ ws.length = k ∧ ws ++ wordsOf sg t (txt sg t f) q pp = Wd ∧ ys.drop k = places sg t q pp ∧ scan sg q (t.drop pp) = some r ∧ pp + r ≤ m ∧ r ≤ f ∧ s = .string (bs (H ++ open_ ws)) ∧ Own wr (w.heap.size + 1) (.slice O T oc) ys ∧ Row wr w.heap.size 28 #[.slice A n c] ∧ Below w.heap.size w wr
theorem open_len {ws : List (List UInt8)} (h3 : ws.length ≤ 3) (h : ∀ x ∈ ws, x.length ≤ 4096) : (open_ ws).length ≤ 20000 := by
 unfold open_
 split
 ·simp
 ·have := join_bd (M := 4096) [44] ws h
  have h4 : ws.length * (4096 + [(44 : UInt8)].length) ≤ 3 * 4097 := Nat.mul_le_mul h3 (by simp)
  rw [List.length_cons]
  omega
theorem open_one (w : List UInt8) : open_ ([] ++ [w]) = [40] ++ w := by unfold open_; rw [if_neg (by simp)]; rw [List.nil_append, Lib.join_one]; rfl
theorem open_more {ws : List (List UInt8)} (w : List UInt8) (h : ws ≠ []) : open_ (ws ++ [w]) = open_ ws ++ [44] ++ w := by
 unfold open_
 rw [if_neg (by simp), if_neg h, join_snoc _ _ h]
 simp
set_option maxHeartbeats 4000000 in
theorem specTxt (A A' : Option Addr) (n c m c' : Nat) (sg t : List Int) (hn : n ≤ 1048576) (hm : m ≤ 1048576) (hs : Arities sg) (hsm : Small t) : ∀ (f a j : Nat) (x : Int) (w : World), Seg w w.heap.size A n sg → Seg w w.heap.size A' m t →
  x = (a : Int) → a < m → scan sg 1 (t.drop a) = some j → a + j ≤ m → j ≤ f → f ≤ 500 →
  Calls Tryd.prog 66 #[.agg #[.slice A n c], .slice A' m c', .int .i64 x] w fun e w' => e = .returned (.string (bs (txt sg t f a))) ∧ Below w.heap.size w w' := by
 intro f
 induction f with
 | zero =>
  intro a j x w _ _ _ _ hj _ hf _
  have := scan_pos (q := 0) hj
  omega
 | succ f ih =>
  intro a j x w h h' hx ha hj hl hf hff
  subst hx
  have IH := hid ih
  clear ih
  have HL := hid h'.1
  have HSM := hid hsm
  have HWL := hid (fun q p r h1 h2 => words_le hs hsm (f := f) (by omega) q p r h1 h2)
  have HTL := hid (fun p j h1 h2 => txt_len hs hsm f p j h1 h2)
  obtain ⟨r0, hjr, hat, hneg, hr0⟩ := scan_args hj
  have hsa := hsm a hat
  have hzb := ar_bd hs (t.getD a 0)
  have e2 : argsL sg t a = places sg t (ar sg (t.getD a 0)).toNat (a + 1) := rfl
  obtain ⟨T, hT⟩ : ∃ T, (ar sg (t.getD a 0)).toNat = T := ⟨_, rfl⟩
  have e1 : txt sg t (f + 1) a = hdT (t.getD a 0) ++ open_ (wordsOf sg t (txt sg t f) T (a + 1)) ++ shut_ (wordsOf sg t (txt sg t f) T (a + 1)) := by rw [← hT]; rfl
  rw [hT] at e2 hr0
  have hT3 : T ≤ 3 := by omega
  obtain ⟨W, hW⟩ : ∃ W, W = w.alloc (.cells #[.slice A n c] 28) := ⟨_, rfl⟩
  have rA : Row W w.heap.size 28 #[.slice A n c] := by rw [hW]; exact Row.new _ _ _
  have bel : Below w.heap.size w W := by rw [hW]; exact (Below.refl _ _).alloc (Nat.le_refl _) _
  have zW : W.heap.size = w.heap.size + 1 := by rw [hW]; simp
  obtain ⟨b, off, x, hA', hbb, hcx0, ex⟩ := h'.spot ha
  have cx : (w.alloc (.cells #[.slice A n c] 28)).cell? ⟨b, off + a, none⟩ = some (.int .i64 x) := by rw [← hW]; exact (bel.cell (p := ⟨b, off + a, none⟩) hbb).trans hcx0
  have i0 : (0 : Int) ≤ (a : Int) := by omega
  have i1 : (a : Int) < (m : Int) := by omega
  rw [ex.out] at hsa e1 hT hzb
  have HW := hid hW
  clear hW hcx0
  subst hA'
  by_cases hx0 : x < 0
  ·obtain ⟨m0, hm0⟩ : ∃ z : Nat, -1 - x = (z : Int) := ⟨(-1 - x).toNat, by omega⟩
   have hT0 : T = 0 := by rw [← hT, ar_var (by omega)]; rfl
   have LI := hid (l1Int m0 W (by omega))
   have E := hid (show bs [120] ++ bs (dg m0) = bs (txt sg t (f + 1) a) by
    rw [bs_app, e1, hT0]
    unfold hdT open_ shut_ wordsOf
    rw [if_pos hx0, hm0, Int.toNat_natCast]
    simp)
   have ho : ¬ 9223372036854775807 < (⟨#[120]⟩ : ByteArray).size + (bs (dg m0)).size := by rw [bs_size]; have := dg_len (n := m0) (by omega); show ¬ _ < 1 + _; omega
   clear hj hr0 hT e1 e2 hneg hzb hat h h' HWL HTL IH
   go_enter Tryd.func66, Tryd.ntmps66
   go_wp2_with fail
   rw [← HW.out]
   refine LI.out.mono ?_
   rintro e w1 ⟨rfl, bb⟩
   have F := hid (next_trans bel bb)
   clear bb bel rA LI cx hm0
   go_wp2
   go_ret
   exact ⟨by rw [← E.out]; rfl, F.out⟩
  ·obtain ⟨x0, rfl⟩ := Int.eq_ofNat_of_zero_le (Int.not_lt.1 hx0)
   have HH := hid (show hdT (x0 : Int) = [102] ++ dg x0 by unfold hdT; rw [if_neg hx0, Int.toNat_natCast]; rfl)
   have LI := hid (l1Int x0 W (by omega))
   have hdl := dg_len (n := x0) (by omega)
   obtain ⟨Hd, hHd⟩ : ∃ z, hdT (x0 : Int) = z := ⟨_, rfl⟩
   have hHl : Hd.length ≤ 3 := by rw [← hHd]; exact hdT_len (by omega)
   rw [hHd] at HH e1
   have E0 := hid (show bs [102] ++ bs (dg x0) = bs Hd by rw [bs_app, HH.out])
   have ho : ¬ 9223372036854775807 < (⟨#[102]⟩ : ByteArray).size + (bs (dg x0)).size := by rw [bs_size]; show ¬ _ < 1 + _; omega
   obtain ⟨ys, hys⟩ : ∃ ys, argsL sg t a = ys := ⟨_, rfl⟩
   have hylen : ys.length = T := by rw [← hys, e2, places_len]
   have hpl : ys.drop 0 = places sg t T (a + 1) := by rw [← hys, e2]; rfl
   have LA := hid (fun (w1 : World) (bb : Below w.heap.size w w1) => l1Args A (some ⟨b, off, none⟩) n c m c' sg t a j w1 (h.next bb) (h'.next bb) hn hm hs ha hj hl)
   simp only [hys] at LA
   obtain ⟨Wd, hWd⟩ : ∃ z, wordsOf sg t (txt sg t f) T (a + 1) = z := ⟨_, rfl⟩
   rw [hWd] at e1
   have HE := hid e1
   have HWc := hid (show Wd.length = T by rw [← hWd]; exact words_count _ _ _ _ _)
   have HWb := hid (show ∀ x ∈ Wd, x.length ≤ 4096 by rw [← hWd]; exact HWL.out _ _ _ hr0 (by omega))
   have HST := hid (show scan sg T (t.drop (a + 1)) = some r0 ∧ a + 1 + r0 ≤ m ∧ r0 ≤ f ∧ wordsOf sg t (txt sg t f) T (a + 1) = Wd from ⟨hr0, by omega, by omega, hWd⟩)
   have HYS := hid (show ys.length = T ∧ ys.drop 0 = places sg t T (a + 1) from ⟨hylen, hpl⟩)
   have H := hid h
   have H' := hid h'
   clear hj hr0 hT e1 e2 hneg hzb hat hHd hys hWd hylen hpl hdl h h' HWL
   go_enter Tryd.func66, Tryd.ntmps66
   go_wp2_with fail
   rw [← HW.out]
   refine LI.out.mono ?_
   rintro e w1 ⟨rfl, bb⟩
   replace rA := rA.next bb
   replace bel := next_trans bel bb
   have cA : w1.cell? ⟨w.heap.size, 0, none⟩ = some (.slice A n c) := rA.cell 0
   have zw1 : w.heap.size + 1 ≤ w1.heap.size := by have := bb.size; omega
   have LA1 := hid (LA.out w1 bel)
   clear bb LI LA zW cx
   go_wp2_with fail
   refine LA1.out.mono ?_
   rintro e w2 ⟨O, on, oc, rfl, ho2, bb⟩
   have hon := Own.len ho2
   rw [HYS.out.1] at hon
   subst hon
   have S0 : HeadTx w A n c O on oc ys sg t f m Hd Wd (.string (bs Hd)) (.int .i64 0) w2 := ⟨0, on, a + 1, r0, [], rfl, by omega, rfl, by rw [List.nil_append]; exact HST.out.2.2.2, HYS.out.2, HST.out.1, HST.out.2.1, HST.out.2.2.1, by unfold open_; rw [if_pos rfl, List.append_nil], Own.lower ho2 zw1, rA.next bb, next_trans bel bb⟩
   have HS := hid S0
   clear S0 ho2 bb bel rA cA LA1
   have E1 : (⟨#[102]⟩ : ByteArray) ++ bs (dg x0) = bs Hd := E0.out
   go_wp2_with fail
   go_loopw [7, 9] (fun s i wr => HeadTx w A n c O on oc ys sg t f m Hd Wd s i wr) (fun _ i _ => on - (intOf i).toNat)
   case atStart => first | exact HS.out | (rw [E1]; exact HS.out)
   case round =>
    clear E1
    obtain ⟨k, q, pp, r, ws, rfl, hkq, hwl, hwd, hpl, hsc, hpr, hrf, rfl, ho, hr, hb⟩ := hrel
    clear HS
    have hwb : ∀ x ∈ ws, x.length ≤ 4096 := fun x hx => HWb.out x (by rw [← hwd]; exact List.mem_append_left _ hx)
    have hol := open_len (ws := ws) (by omega) hwb
    obtain ⟨V, hV⟩ : ∃ z, Hd ++ open_ ws = z := ⟨_, rfl⟩
    have hVl : V.length ≤ 20003 := by rw [← hV, List.length_append]; omega
    rw [hV]
    cases q with
    | zero =>
     have hk : k = on := by omega
     subst hk
     have hws : ws = Wd := by rw [← hwd]; simp [wordsOf]
     subst hws
     by_cases h0 : k = 0
     ·have hz : ws = [] := List.length_eq_zero_iff.1 (by omega)
      have F := hid (show bs V = bs (txt sg t (f + 1) a) ∧ Below w.heap.size w wr from ⟨by rw [HE.out, ← hV, hz]; unfold open_ shut_; simp, hb⟩)
      have hk0 : ¬ (0 : Int) < (k : Int) := by omega
      clear ho hr hb hpl hkq h0 hV hwd hz hwl
      go_wp2
      go_ret
      exact ⟨by rw [F.out.1]; rfl, F.out.2⟩
     ·have hz : ws ≠ [] := fun e => h0 (by rw [← hwl, e]; rfl)
      have F := hid (show bs V ++ bs [41] = bs (txt sg t (f + 1) a) ∧ Below w.heap.size w wr from ⟨by rw [bs_app, HE.out, ← hV]; unfold shut_; rw [if_neg hz], hb⟩)
      have hk0 : (0 : Int) < (k : Int) := by omega
      have ho3 : ¬ 9223372036854775807 < (bs V).size + (⟨#[41]⟩ : ByteArray).size := by rw [bs_size]; show ¬ _ < _ + 1; omega
      clear ho hr hb hpl hkq h0 hV hwd hz hwl
      go_wp2
      go_ret
      exact ⟨by rw [← F.out.1]; rfl, F.out.2⟩
    | succ q =>
     obtain ⟨jj, hj, hjr, hle, hsc'⟩ := scan_first hsc
     have hkT : k < on := by omega
     have hplt : pp < t.length := by have := scan_args hj; obtain ⟨_, _, h2, _⟩ := this; exact h2
     have hyk : ys.getD k 0 = (pp : Int) := by
      have : (ys.drop k)[0]? = (places sg t (q + 1) pp)[0]? := by rw [hpl]
      simp [places] at this
      simp [List.getD, this]
     have hpl' : ys.drop (k + 1) = places sg t q (pp + jj) := by
      have : (ys.drop k).drop 1 = (places sg t (q + 1) pp).drop 1 := by rw [hpl]
      rw [List.drop_drop] at this
      simpa [places, len1_eq hj] using this
     have so := Own.seg ho
     obtain ⟨bo, oo, y, rfl, hbo, hy, ey⟩ := so.spot hkT
     have hyy : y = (pp : Int) := by rw [← ey.out]; exact hyk
     subst hyy
     have cA : wr.cell? ⟨w.heap.size, 0, none⟩ = some (.slice A n c) := hr.cell 0
     have s : Seg wr.drew wr.heap.size A n sg := ((H.out.below hb).more hb.size).drew
     have s' : Seg wr.drew wr.heap.size (some ⟨b, off, none⟩) m t := ((H'.out.below hb).more hb.size).drew
     obtain ⟨X, hX⟩ : ∃ z, txt sg t f pp = z := ⟨_, rfl⟩
     have hXl : X.length ≤ 4096 := by rw [← hX]; have := HTL.out pp jj hj (by omega); omega
     have hws' : (ws ++ [X]) ++ wordsOf sg t (txt sg t f) q (pp + jj) = Wd := by
      rw [← hwd]
      simp only [wordsOf, len1_eq hj, hX, List.append_assoc, List.singleton_append]
     have HX := hid hX
     have HWS := hid hws'
     have HJ := hid hj
     have HKQ := hid hkq
     have HSC := hid (show scan sg q (t.drop (pp + jj)) = some (r - jj) ∧ pp + jj + (r - jj) ≤ m ∧ r - jj ≤ f from ⟨hsc', by omega, by omega⟩)
     have HWN := hid hwl
     have i0 : (0 : Int) ≤ (k : Int) := by omega
     have i1 : (k : Int) < (on : Int) := by omega
     have hplt' : pp < m := by rw [← HL.out]; exact hplt
     have hpj' : pp + jj ≤ m := by omega
     have hjf : jj ≤ f := by omega
     replace ho := Own.drew ho
     replace hr := hr.drew
     replace hb := hb.drew
     have HPL := hid hpl'
     have HV := hid hV
     clear hpl hpl' hyk ey so hj hkq hX hws' hwd hsc hsc' hplt hV hwb hol hle hjr hpr hrf
     by_cases h0 : k = 0
     case pos =>
      have oS1 : ¬ 9223372036854775807 < (bs V).size + (⟨#[40]⟩ : ByteArray).size := by rw [bs_size]; show ¬ _ < _ + 1; omega
      have eV : bs V ++ (⟨#[40]⟩ : ByteArray) = bs (V ++ [40]) := bs_app V [40]
      have oS2 : ¬ 9223372036854775807 < (bs V ++ (⟨#[40]⟩ : ByteArray)).size + (bs X).size := by rw [eV, bs_size, bs_size, List.length_append]; show ¬ _ < _ + 1 + _; omega
      have oS3 : ¬ 9223372036854775807 < (bs V).size + (⟨#[40]⟩ : ByteArray).size + (bs X).size := by rw [bs_size, bs_size]; show ¬ _ < _ + 1 + _; omega
      have oS4 : ¬ 9223372036854775807 < (bs V).size + 1 + (bs X).size := oS3
      have oS5 : (bs V).size + 1 + (bs X).size ≤ 9223372036854775807 := by omega
      have hrun : ∀ (v : World), (Op.stringOp .add (bs V ++ (⟨#[40]⟩ : ByteArray)) (bs X)).run Tryd.prog v = .ok (.string (bs V ++ (⟨#[40]⟩ : ByteArray) ++ bs X)) v := fun v => run_string_add_sum v _ _ (by omega)
      have EE := hid (show bs V ++ (⟨#[40]⟩ : ByteArray) ++ bs X = bs (Hd ++ open_ (ws ++ [X])) by rw [eV, bs_app, ← HV.out, List.length_eq_zero_iff.1 (show ws.length = 0 by have := HWN.out; omega), open_one]; unfold open_; simp)
      have EK : ((k : Int) == 0) = true := by rw [h0]; rfl
      clear eV h0
      go_wp2_with fail
      go_region_held3 (fun w' => w'.cell? ⟨w.heap.size, 0, none⟩ = some (.slice A n c) ∧ w'.cell? ⟨bo, oo + k, none⟩ = some (.int .i64 (pp : Int)))
       (go_keep)
       (first
        | (go_at_call 66; refine (IH.out pp jj _ _ s s' rfl hplt' HJ.out hpj' hjf (by omega)).mono ?_; rintro e w4 ⟨he, bb⟩; rw [HX.out] at he; subst he; replace hr := hr.next bb; replace ho := Own.next ho bb; replace hb := next_trans hb bb; replace cA : w4.cell? ⟨w.heap.size, 0, none⟩ = some (.slice A n c) := hr.cell 0; replace hy : w4.cell? ⟨bo, oo + k, none⟩ = some (.int .i64 (pp : Int)) := (bb.cell (p := ⟨bo, oo + k, none⟩) hbo).trans hy))
      have S : HeadTx w A n c (some ⟨bo, oo, none⟩) on oc ys sg t f m Hd Wd (.string (bs V ++ (⟨#[40]⟩ : ByteArray) ++ bs X)) (.int .i64 ((k : Int) + 1)) w4 :=
       ⟨k + 1, q, pp + jj, r - jj, ws ++ [X], by simp, by have := HKQ.out; omega, by rw [List.length_append, HWN.out]; rfl, HWS.out, HPL.out, HSC.out.1, HSC.out.2.1, HSC.out.2.2, by rw [EE.out], ho, hr, hb⟩
      have HSS := hid S
      clear S ho hr hb bb cA hy s s'
      go_wp2
      go_roundw
      case rel => exact HSS.out
      case measure => simp [intOf]; omega
     have oS1 : ¬ 9223372036854775807 < (bs V).size + (⟨#[44]⟩ : ByteArray).size := by rw [bs_size]; show ¬ _ < _ + 1; omega
     have eV : bs V ++ (⟨#[44]⟩ : ByteArray) = bs (V ++ [44]) := bs_app V [44]
     have oS2 : ¬ 9223372036854775807 < (bs V ++ (⟨#[44]⟩ : ByteArray)).size + (bs X).size := by rw [eV, bs_size, bs_size, List.length_append]; show ¬ _ < _ + 1 + _; omega
     have oS3 : ¬ 9223372036854775807 < (bs V).size + (⟨#[44]⟩ : ByteArray).size + (bs X).size := by rw [bs_size, bs_size]; show ¬ _ < _ + 1 + _; omega
     have oS4 : ¬ 9223372036854775807 < (bs V).size + 1 + (bs X).size := oS3
     have oS5 : (bs V).size + 1 + (bs X).size ≤ 9223372036854775807 := by omega
     have hrun : ∀ (v : World), (Op.stringOp .add (bs V ++ (⟨#[44]⟩ : ByteArray)) (bs X)).run Tryd.prog v = .ok (.string (bs V ++ (⟨#[44]⟩ : ByteArray) ++ bs X)) v := fun v => run_string_add_sum v _ _ (by omega)
     have EE := hid (show bs V ++ (⟨#[44]⟩ : ByteArray) ++ bs X = bs (Hd ++ open_ (ws ++ [X])) by rw [eV, bs_app, ← HV.out, open_more X (fun e => h0 (by have := HWN.out; rw [e] at this; exact this.symm))]; simp)
     have EK : ((k : Int) == 0) = false := by simp; omega
     clear eV h0
     go_wp2_with fail
     go_region_held3 (fun w' => w'.cell? ⟨w.heap.size, 0, none⟩ = some (.slice A n c) ∧ w'.cell? ⟨bo, oo + k, none⟩ = some (.int .i64 (pp : Int)))
      (go_keep)
      (first
       | (go_at_call 66; refine (IH.out pp jj _ _ s s' rfl hplt' HJ.out hpj' hjf (by omega)).mono ?_; rintro e w4 ⟨he, bb⟩; rw [HX.out] at he; subst he; replace hr := hr.next bb; replace ho := Own.next ho bb; replace hb := next_trans hb bb; replace cA : w4.cell? ⟨w.heap.size, 0, none⟩ = some (.slice A n c) := hr.cell 0; replace hy : w4.cell? ⟨bo, oo + k, none⟩ = some (.int .i64 (pp : Int)) := (bb.cell (p := ⟨bo, oo + k, none⟩) hbo).trans hy))
     have S : HeadTx w A n c (some ⟨bo, oo, none⟩) on oc ys sg t f m Hd Wd (.string (bs V ++ (⟨#[44]⟩ : ByteArray) ++ bs X)) (.int .i64 ((k : Int) + 1)) w4 :=
      ⟨k + 1, q, pp + jj, r - jj, ws ++ [X], by simp, by have := HKQ.out; omega, by rw [List.length_append, HWN.out]; rfl, HWS.out, HPL.out, HSC.out.1, HSC.out.2.1, HSC.out.2.2, by rw [EE.out], ho, hr, hb⟩
     have HSS := hid S
     clear S ho hr hb bb cA hy s s'
     go_wp2
     go_roundw
     case rel => exact HSS.out
     case measure => simp [intOf]; omega
def termT (sg t : List Int) : List UInt8 := if termOkB sg t = true then txt sg t t.length 0 else []
theorem small_of {sg t : List Int} (h : termOkB sg t = true) : Small t := fun p hp => by
 have hm : t.getD p 0 ∈ t := by simp only [List.getD, List.getElem?_eq_getElem hp, Option.getD_some]; exact List.getElem_mem hp
 have h1 := term_mem h hm
 have h2 := (sig_arities (termOk_parts h).1).2.2
 omega
set_option maxHeartbeats 2000000 in
theorem specTermText0 (A A' : Option Addr) (n c m c' : Nat) (sg t : List Int) (w : World) (h : Seg w w.heap.size A n sg) (h' : Seg w w.heap.size A' m t) (hn : n ≤ 1048576) (hm : m ≤ 1048576) :
  Calls Tryd.prog 35 #[.agg #[.slice A n c], .slice A' m c'] w fun e w' => e = .returned (.string (bs (termT sg t))) ∧ Below w.heap.size w w' := by
 obtain ⟨W, hW⟩ : ∃ W, W = w.alloc (.cells #[.slice A n c] 28) := ⟨_, rfl⟩
 have rA : Row W w.heap.size 28 #[.slice A n c] := by rw [hW]; exact Row.new _ _ _
 have bel : Below w.heap.size w W := by rw [hW]; exact (Below.refl _ _).alloc (Nat.le_refl _) _
 replace h := (h.below bel).more bel.size
 replace h' := (h'.below bel).more bel.size
 have HW := hid hW
 have HL := hid h'.1
 clear hW
 have L := hid (specTermOk A A' n c m c' sg t W h h' hn hm)
 cases hok : termOkB sg t with
 | false =>
  have HS := hid hok
  have HT := hid (show termT sg t = [] by unfold termT; rw [if_neg (by rw [hok]; simp)])
  clear hok h h'
  go_enter Tryd.func35, Tryd.ntmps35
  go_wp2_with fail
  rw [← HW.out]
  refine L.out.mono ?_
  rintro e w1 ⟨he, bb⟩
  rw [HS.out] at he
  subst he
  have F := hid (next_trans bel bb)
  clear bb bel rA L
  go_wp2
  go_ret
  exact ⟨by rw [HT.out]; rfl, F.out⟩
 | true =>
  have HS := hid hok
  have HT := hid (show termT sg t = txt sg t m 0 by unfold termT; rw [if_pos hok, HL.out])
  have hars := (sig_arities (termOk_parts HS.out).1).1
  have hsmall := small_of hok
  have hpos : 0 < m := by have := termOk_pos HS.out; rw [HL.out] at this; exact this
  have h60 : m ≤ 60 := by rw [← HL.out]; exact (term_len hok).2
  have HJ := hid (show scan sg 1 (t.drop 0) = some m by rw [← HL.out]; exact (termOk_parts HS.out).2.2)
  clear hok
  have LX := hid (fun (w1 : World) (bb : Below W.heap.size W w1) => specTxt A A' n c m c' sg t hn hm hars hsmall m 0 m 0 w1 (h.next bb) (h'.next bb) rfl hpos HJ.out (by omega) (Nat.le_refl _) (by omega))
  go_enter Tryd.func35, Tryd.ntmps35
  go_wp2_with fail
  rw [← HW.out]
  refine L.out.mono ?_
  rintro e w1 ⟨he, bb⟩
  rw [HS.out] at he
  subst he
  have LX1 := hid (LX.out w1 bb)
  replace rA := rA.next bb
  replace bel := next_trans bel bb
  have cA : w1.cell? ⟨w.heap.size, 0, none⟩ = some (.slice A n c) := rA.cell 0
  clear bb LX L h h'
  go_wp2_with fail
  refine LX1.out.mono ?_
  rintro e w2 ⟨rfl, bb⟩
  have F := hid (next_trans bel bb)
  clear bb bel rA cA LX1
  go_wp2
  go_ret
  exact ⟨by rw [HT.out]; rfl, F.out⟩
end termText
end
section
open Go.Lib (hid)
namespace termText
open Go.RowKit base ints sig term arity endOf cursor termOk endAt marks app sym args depth termFacts text textL
set_option maxRecDepth 100000
def AnsTx (w : World) (p : Nat) (A : Option Addr) (n c : Nat) (A' : Option Addr) (m c' : Nat) (sg t : List Int) (k : Nat) (X : List UInt8) (e : Ending) (w' : World) : Prop :=
 e = .returned (.string (bs X)) ∧ w.grownBy w' (some p) ∧ Cur w' p A n c A' m c' sg t k
def HeadTi (w : World) (p : Nat) (A : Option Addr) (n c : Nat) (A' : Option Addr) (m c' : Nat) (sg t : List Int) (T f last : Nat) (Wd : List (List UInt8)) (out i : Value) (wr : World) : Prop :=
 ∃ (k q pp r : Nat) (ws : List (List UInt8)) (O : Option Addr) (oc : Nat), i = .int .i64 k ∧ out = .slice O k oc ∧ k + q = T ∧ ws ++ wordsOf sg t (txt sg t f) q pp = Wd ∧ scan sg q (t.drop pp) = some r ∧ pp + r = last ∧ r ≤ f ∧ OwnS wr w.heap.size (.slice O k oc) ws ∧ Cur wr p A n c A' m c' sg t pp ∧ w.grownBy wr (some p)
set_option maxHeartbeats 4000000 in
theorem implTxt (p : Nat) (A : Option Addr) (n c : Nat) (A' : Option Addr) (m c' : Nat) (sg t : List Int) (hsm : Small t) : ∀ (f a j : Nat) (w : World), Cur w p A n c A' m c' sg t a → scan sg 1 (t.drop a) = some j → j ≤ f → f ≤ 500 →
  Calls Tryd.prog 71 #[.pointer (some ⟨p, 0, none⟩)] w (AnsTx w p A n c A' m c' sg t (a + j) (txt sg t f a)) := by
 intro f
 induction f with
 | zero =>
  intro a j w _ hj hf _
  have := scan_pos (q := 0) hj
  omega
 | succ f ih =>
  intro a j w h hj hf hff
  have IH := hid ih
  clear ih
  have HL := hid h.s'.1
  have hs := h.ars
  have hp : p < w.heap.size := h.row.lt
  obtain ⟨r, hjr, hat, hneg, hr⟩ := scan_args hj
  have ham : a < m := by rw [← HL.out]; exact hat
  have hzb := ar_bd hs (t.getD a 0)
  have hsa := hsm a hat
  have hHl := hdT_len hsa
  obtain ⟨z, hz⟩ : ∃ z, ar sg (t.getD a 0) = z := ⟨_, rfl⟩
  have e1 : txt sg t (f + 1) a = hdT (t.getD a 0) ++ open_ (wordsOf sg t (txt sg t f) z.toNat (a + 1)) ++ shut_ (wordsOf sg t (txt sg t f) z.toNat (a + 1)) := by rw [← hz]; rfl
  rw [hz] at hneg hzb hr
  obtain ⟨T, rfl⟩ := Int.eq_ofNat_of_zero_le (show 0 ≤ z by omega)
  rw [Int.toNat_natCast] at e1 hr
  have hwb := words_le hs hsm (f := f) (by omega) _ _ _ hr (by omega)
  obtain ⟨Wd, hWd⟩ : ∃ z, wordsOf sg t (txt sg t f) T (a + 1) = z := ⟨_, rfl⟩
  rw [hWd] at e1 hwb
  have HWD := hid hWd
  have HWB := hid hwb
  have HTL := hid (fun p j h1 h2 => txt_len hs hsm f p j h1 h2)
  obtain ⟨b, off, x, rfl, hbb, hcx, ex⟩ := h.s'.spot ham
  rw [ex.out] at hsa hHl e1
  have HZ := hid (show ar sg (t.getD a 0) = (T : Int) from hz)
  have HE := hid e1
  have HR := hid hr
  have HJR := hid (show a + 1 + r = a + j ∧ r ≤ f by omega)
  have LH := hid (headText x w.drew hsa)
  have LN := hid (next p A n c (some ⟨b, off, none⟩) m c' sg t a w.drew (h.drewN 1))
  have c1 : w.cell? ⟨p, 1, none⟩ = some (.slice (some ⟨b, off, none⟩) m c') := h.row.cell 1
  have c2 : w.cell? ⟨p, 2, none⟩ = some (.int .i64 (a : Int)) := h.row.cell 2
  have i0 : (0 : Int) ≤ (a : Int) := by omega
  have i1 : (a : Int) < (m : Int) := by omega
  obtain ⟨Hd, hHd⟩ : ∃ z, hdT x = z := ⟨_, rfl⟩
  rw [hHd] at LH HE hHl
  clear hz e1 hj hs hneg hr hjr hat hWd hwb ex hHd h
  go_enter Tryd.func71, Tryd.ntmps71
  go_wp2_with fail
  go_region_held3 (fun w' => w'.cell? ⟨p, 1, none⟩ = some (.slice (some ⟨b, off, none⟩) m c') ∧ w'.cell? ⟨p, 2, none⟩ = some (.int .i64 (a : Int)) ∧ w'.cell? ⟨b, off + a, none⟩ = some (.int .i64 x))
   (go_keep)
   (first
    | (go_at_call 62; refine LH.out.mono ?_; rintro e w9 ⟨rfl, hw9⟩; subst hw9))
  clear c1 c2 hcx LH
  go_wp2_with fail
  refine LN.out.mono ?_
  rintro e w1 ⟨hg, ⟨-, he, hc⟩ | ⟨hk', -, -⟩⟩
  ·rw [HZ.out] at he
   subst he
   have hg0 : w.grownBy w1 (some p) := grown_trans (grown_below (Below.refl w.heap.size w).drew _) hg
   have S0 : HeadTi w p A n c (some ⟨b, off, none⟩) m c' sg t T f (a + j) Wd (.slice none 0 0) (.int .i64 0) w1 := ⟨0, T, a + 1, r, [], none, 0, rfl, rfl, by omega, by rw [List.nil_append]; exact HWD.out, HR.out, HJR.out.1, HJR.out.2, OwnS.nil _ _, hc, hg0⟩
   have HS := hid S0
   clear S0 hc hg hg0 LN
   go_wp2_with fail
   go_loopw [4, 18] (fun out i wr => HeadTi w p A n c (some ⟨b, off, none⟩) m c' sg t T f (a + j) Wd out i wr) (fun _ i _ => T - (intOf i).toNat)
   case atStart => exact HS.out
   case round =>
    obtain ⟨k, q, pp, r', ws, O, oc, rfl, rfl, hkq, hwd, hsc, hlast, hrf, ho, hcu, hgr⟩ := hrel
    clear HS
    cases q with
    | zero =>
     have hk : k = T := by omega
     subst hk
     rw [scan_zero] at hsc
     have hr0 : r' = 0 := by injection hsc with hsc; omega
     have hws : ws = Wd := by rw [← hwd]; simp [wordsOf]
     subst hws
     have hwl : ws.length = k := ho.at.1
     have hcl : Cur wr p A n c (some ⟨b, off, none⟩) m c' sg t (a + j) := by rw [← hlast, hr0]; exact hcu
     by_cases h0 : k = 0
     ·have hz : ws = [] := List.length_eq_zero_iff.1 (by omega)
      have F := hid (show AnsTx w p A n c (some ⟨b, off, none⟩) m c' sg t (a + j) (txt sg t (f + 1) a) (.returned (.string (bs Hd))) wr from ⟨by rw [HE.out, hz]; unfold open_ shut_; simp, hgr, hcl⟩)
      have EK : ((k : Int) == 0) = true := by rw [h0]; rfl
      clear ho hcu hgr hcl hwd hlast hkq h0 hz hwl
      go_wp2
      go_ret
      exact F.out
     ·have hz : ws ≠ [] := fun e => h0 (by rw [← hwl, e]; rfl)
      have hjl := join_bd (M := 4096) [44] ws HWB.out
      have h4 : ws.length * (4096 + [(44 : UInt8)].length) ≤ 3 * 4097 := Nat.mul_le_mul (by omega) (by simp)
      have LJ := hid (joinOwn O k oc ws [44] wr ho (by omega) HWB.out (by simp))
      obtain ⟨J, hJ⟩ : ∃ z, Lib.join ws [44] = z := ⟨_, rfl⟩
      rw [hJ] at LJ hjl
      have E := hid (show bs Hd ++ bs [40] ++ bs J ++ bs [41] = bs (txt sg t (f + 1) a) by
       rw [bs_app, bs_app, bs_app, HE.out]
       unfold open_ shut_
       rw [if_neg hz, if_neg hz, hJ]
       simp)
      have EK : ((k : Int) == 0) = false := by simp; omega
      have hHb : (bs Hd).size ≤ 3 := by rw [bs_size]; exact hHl
      have hJb : (bs J).size ≤ 20000 := by rw [bs_size]; omega
      have o1 : ¬ 9223372036854775807 < (bs Hd).size + 1 := by omega
      have o2 : ¬ 9223372036854775807 < (bs Hd).size + 1 + (bs J).size := by omega
      have o3 : ¬ 9223372036854775807 < (bs Hd).size + 1 + (bs J).size + 1 := by omega
      clear ho hwd hlast hkq h0 hz hwl hJ hjl h4 hcu
      go_wp2_with fail
      refine LJ.out.mono ?_
      rintro e w2 ⟨rfl, bb⟩
      have F := hid (show AnsTx w p A n c (some ⟨b, off, none⟩) m c' sg t (a + j) (txt sg t (f + 1) a) (.returned (.string (bs (txt sg t (f + 1) a)))) w2 from ⟨rfl, args_over hgr bb hgr.size, hcl.below bb⟩)
      clear bb hgr hcl LJ EK
      go_wp2
      go_ret
      have F2 := F.out
      rw [← E.out] at F2
      exact F2
    | succ q =>
     obtain ⟨jj, hj, hjp, hle, hsc'⟩ := scan_first hsc
     have hkT : k < T := by omega
     obtain ⟨X, hX⟩ : ∃ z, txt sg t f pp = z := ⟨_, rfl⟩
     have HX := hid hX
     have HJ := hid hj
     have HKQ := hid hkq
     have HWS := hid (show (ws ++ [X]) ++ wordsOf sg t (txt sg t f) q (pp + jj) = Wd by
      rw [← hwd]
      simp only [wordsOf, len1_eq hj, hX, List.append_assoc, List.singleton_append])
     have HSC := hid (show scan sg q (t.drop (pp + jj)) = some (r' - jj) ∧ pp + jj + (r' - jj) = a + j ∧ r' - jj ≤ f from ⟨hsc', by omega, by omega⟩)
     have hjf : jj ≤ f := by omega
     have hsz := hgr.size
     clear hX hj hkq hwd hsc hsc' hlast hle hjp
     go_wp2_with fail
     refine (IH.out pp jj _ hcu HJ.out hjf (by omega)).mono ?_
     rintro e w2 ⟨he, hg2, hc2⟩
     rw [HX.out] at he
     subst he
     have ho2 : OwnS w2 w.heap.size (.slice O k oc) ws := ho.far hg2 (fun g hgg => by injection hgg; omega)
     have hgr2 := grown_trans hgr hg2
     have hz2 := hgr2.size
     clear ho hg2 hgr hcu
     go_wp2_with (at_builtin; refine app1S rfl _ _ rfl w.heap.size O k oc ws rfl (ho2.next ((Below.refl _ _).alloc (Nat.le_refl _) _)) w2.heap.size 1 X rfl ((Row.new _ _ _).cell 0) (by omega) (by simp; omega) ?_; intro O' oc' w3 ho3 b3)
     have hcu3 : Cur w3 p A n c (some ⟨b, off, none⟩) m c' sg t (pp + jj) := Cur.keep (Cur.alloc hc2 _) (b3.mono hp)
     have hgr3 : w.grownBy w3 (some p) := args_over (args_over hgr2 ((Below.refl _ _).alloc (Nat.le_refl _) _) hz2) b3 (Nat.le_refl _)
     have S : HeadTi w p A n c (some ⟨b, off, none⟩) m c' sg t T f (a + j) Wd (.slice O' (k + 1) oc') (.int .i64 ((k : Int) + 1)) w3 :=
      ⟨k + 1, q, pp + jj, r' - jj, ws ++ [X], O', oc', by simp, rfl, by have := HKQ.out; omega, HWS.out, HSC.out.1, HSC.out.2.1, HSC.out.2.2, ho3, hcu3, hgr3⟩
     have HSS := hid S
     clear S ho2 ho3 hc2 hgr2 b3 hcu3 hgr3
     go_wp2
     go_roundw
     case rel => exact HSS.out
     case measure => simp [intOf]; omega
  ·omega
set_option maxHeartbeats 2000000 in
theorem implTermText0 (A A' : Option Addr) (n c m c' : Nat) (sg t : List Int) (w : World) (h : Seg w w.heap.size A n sg) (h' : Seg w w.heap.size A' m t) (hn : n ≤ 1048576) (hm : m ≤ 1048576) :
  Calls Tryd.prog 42 #[.agg #[.slice A n c], .slice A' m c'] w fun e w' => e = .returned (.string (bs (termT sg t))) ∧ Below w.heap.size w w' := by
 obtain ⟨W, hW⟩ : ∃ W, W = w.alloc (.cells #[.slice A n c] 28) := ⟨_, rfl⟩
 have bel : Below w.heap.size w W := by rw [hW]; exact (Below.refl _ _).alloc (Nat.le_refl _) _
 have zW := bel.size
 replace h := (h.below bel).more bel.size
 replace h' := (h'.below bel).more bel.size
 have HW := hid hW
 have HL := hid h'.1
 clear hW
 have L := hid (cursorAt A A' n c m c' sg t 0 W h h' hn hm)
 clear h h'
 go_enter Tryd.func42, Tryd.ntmps42
 go_wp2_with fail
 rw [← HW.out]
 refine L.out.mono ?_
 rintro e w1 ⟨bb, ⟨ht, p, rfl, hp, hc⟩ | ⟨ht, rfl⟩⟩
 ·replace bel := next_trans bel bb
  obtain ⟨hok, -, -⟩ := there_parts ht
  have HT := hid (show termT sg t = txt sg t m 0 by unfold termT; rw [if_pos hok, HL.out])
  have h60 : m ≤ 60 := by rw [← HL.out]; exact (term_len hok).2
  have hsc : scan sg 1 (t.drop 0) = some m := by rw [← HL.out]; exact (termOk_parts hok).2.2
  have LT := hid (implTxt p A n c A' m c' sg t (small_of hok) m 0 m w1 hc hsc (Nat.le_refl _) (by omega))
  clear ht bb L hok hsc hc
  go_wp2_with fail
  refine LT.out.mono ?_
  rintro e w2 ⟨rfl, hg, -⟩
  have F := hid (bel.grown hg bel.size (fun k hk => by injection hk; omega))
  clear hg bel LT
  go_wp2
  go_ret
  exact ⟨by rw [HT.out]; rfl, F.out⟩
 ·have hnok : termOkB sg t = false := by
   cases e : termOkB sg t with
   | false => rfl
   | true =>
    have h1 := (term_len e).1
    have h2 : thereB sg t 0 = true := there_yes e (by omega) (by omega)
    rw [h2] at ht
    cases ht
  have F := hid (show termT sg t = [] ∧ Below w.heap.size w w1 from ⟨by unfold termT; rw [if_neg (by rw [hnok]; simp)], next_trans bel bb⟩)
  clear bb bel ht L hnok
  go_wp2
  go_ret
  exact ⟨by rw [F.out.1]; rfl, F.out.2⟩
end termText
end
section
namespace varsMath
open term termOk
end varsMath
end
section
namespace sub
open Go.RowKit base ints marks app sym
set_option maxHeartbeats 400000 in
theorem copyInts (S : Option Addr) (m c : Nat) (ys : List Int) (w : World) (h : Seg w w.heap.size S m ys) (hnone : S = none → c = 0) (hm : m ≤ 1048576) :
  Calls Tryd.prog 100 #[.slice S m c] w (AnsList w ys) := by
 have ho := own_empty w w.heap.size (Nat.le_refl _)
 have bb : Below w.heap.size w (w.alloc (.cells #[] 2)) := (Below.refl _ _).alloc (Nat.le_refl _) _
 have hs := h.alloc (Nat.le_refl _) (.cells #[] 2)
 have HN := Lib.hid hnone
 clear hnone h
 go_enter Tryd.func100, Tryd.ntmps100
 go_wp2_with (at_builtin; refine appAll rfl _ _ rfl w.heap.size (some ⟨w.heap.size, 0, none⟩) 0 0 [] rfl ho S m c w.heap.size ys rfl hs HN.out (by omega) (by omega) (by simp) ?_; intro A' c' w' ho' b')
 simp only [Nat.zero_add, List.nil_append] at ho'
 have F : AnsList w ys (.returned (.slice A' m c')) w' := ⟨A', m, c', rfl, ho', bb.trans b'⟩
 have HF := Lib.hid F
 clear F ho' b' bb hs ho
 go_wp2
 go_ret
 exact HF.out
set_option maxHeartbeats 400000 in
theorem cloneInts (b off m c : Nat) (ys : List Int) (w : World) (h : Seg w w.heap.size (some ⟨b, off, none⟩) m ys) (hm : m ≤ 1048576) :
  Calls Tryd.prog 104 #[.slice (some ⟨b, off, none⟩) m c] w (AnsList w ys) := by
 have ho := own_empty w w.heap.size (Nat.le_refl _)
 have bb : Below w.heap.size w (w.alloc (.cells #[] 2)) := (Below.refl _ _).alloc (Nat.le_refl _) _
 have hs := h.alloc (Nat.le_refl _) (.cells #[] 2)
 clear h
 have hnil : ∀ (w : World) (a : Option Addr) (n c n' c' : Nat), (binOp .eql 22 (.slice a n c) (.slice none n' c')).run Tryd.prog w = .ok (.bool a.isNone) w := fun w a n c n' c' => Lib.run_eql_slice_nil w _ _ a n c n' c' Tryd.underlying22
 go_enter Tryd.func104, Tryd.ntmps104
 go_wp2_with (at_builtin; refine appAll rfl _ _ rfl w.heap.size (some ⟨w.heap.size, 0, none⟩) 0 0 [] rfl ho (some ⟨b, off, none⟩) m c w.heap.size ys rfl hs (fun e => by cases e) (by omega) (by omega) (by simp) ?_; intro A' c' w' ho' b')
 simp only [Nat.zero_add, List.nil_append] at ho'
 have F : AnsList w ys (.returned (.slice A' m c')) w' := ⟨A', m, c', rfl, ho', bb.trans b'⟩
 have HF := Lib.hid F
 clear F ho' b' bb hs ho hnil
 go_wp2
 go_ret
 exact HF.out
end sub
end
section
namespace varsOf
open Go.RowKit base ints sig term termOk marks app sym sub segs varsMath termFacts
set_option maxRecDepth 100000
end varsOf
end
section
namespace varsOf
open Go.RowKit base ints sig term termOk marks app sym sub segs varsMath termFacts
set_option maxRecDepth 100000
end varsOf
end
section
namespace count
open Go.RowKit base ints sig term termOk
def cnt (t : List Int) (x : Int) (k : Nat) : Nat := (t.take k).count x
end count
end
section
namespace linear
open Go.RowKit base ints sig term termOk marks sym count varsMath termFacts varsOf
set_option maxRecDepth 100000
end linear
end
section
namespace fillMath
open sig term termOk termFacts varsMath
def vt (i : Nat) : List Int := [-1 - (i : Int)]
def rep (L : Nat → List Int) (n : Int) : List Int := if 0 ≤ n then [n] else L (-1 - n).toNat
def fillL (L : Nat → List Int) (t : List Int) : List Int := t.flatMap (rep L)
theorem var_term {sg : List Int} {i : Nat} (hs : sigOkB sg = true) (hi : i < 24) : termOkB sg (vt i) = true := by
 refine term_mk hs (by simp [vt]) ?_
 have h0 : ar sg (-1 - (i : Int)) = 0 := ar_var (by omega)
 show scan sg 1 [-1 - (i : Int)] = some 1
 rw [scan_step (by omega), h0]
 rfl
end fillMath
end
section
namespace renMath
open sig term termOk termFacts varsMath fillMath
end renMath
end
section
namespace ruleMath
open sig term termOk termFacts varsMath count linear renMath
abbrev Rl := List Int × List Int
def hd (t : List Int) : Int := t.getD 0 0
def newB (l : List Int) (x : Int) : Bool := decide (x < 0 ∧ x ∉ l)
def ruleOkB (sg : List Int) (r : Rl) : Bool := termOkB sg r.1 && (termOkB sg r.2 && (!decide (hd r.1 < 0) && !r.2.any (newB r.1)))
def sysOkB (sg : List Int) (rs : List Rl) : Bool := sigOkB sg && (decide (rs.length ≤ 12) && rs.all (ruleOkB sg))
theorem lists_eq {rs rs' : List Rl} (hl : rs.length = rs'.length) (h : ∀ j, j < rs.length → rs.getD j ([], []) = rs'.getD j ([], [])) : rs = rs' :=
 List.ext_getElem hl fun j h1 h2 => by
  have := h j h1
  simpa [List.getD, h1, h2] using this
end ruleMath
end
section
namespace rename
open Go.RowKit base ints sig term termOk marks app sym segs termFacts varsMath varsOf renMath
set_option maxRecDepth 100000
end rename
end
section
namespace same
open Go.RowKit base ints
set_option maxHeartbeats 400000 in
theorem libEqual (A A' : Option Addr) (n m c c' : Nat) (xs ys : List Int) (w : World) (h : Seg w w.heap.size A n xs) (h' : Seg w w.heap.size A' m ys) (hn : n ≤ 1048576) (hm : m ≤ 1048576) :
  Calls Tryd.prog 126 #[.slice A n c, .slice A' m c'] w (AnsSame w xs ys) := by
 by_cases hnm : n = m
 ·subst hnm
  go_enter Tryd.func126, Tryd.ntmps126
  go_wp2
  go_loopw [13] (fun i wr => HeadSame w n xs ys i wr) (fun i _ => n - (intOf i).toNat)
  case atStart => exact ⟨0, 0, Nat.zero_le _, rfl, rfl, fun j h => absurd h (Nat.not_lt_zero _)⟩
  case round =>
   obtain ⟨k, d, hk, rfl, rfl, hc⟩ := hrel
   by_cases hlt : k < n
   ·obtain ⟨b, off, x, rfl, -, hx, ex⟩ := h.spot hlt
    obtain ⟨b', off', y, rfl, -, hx', ey⟩ := h'.spot hlt
    by_cases he : x = y
    ·subst he
     have S := Lib.hid (alike_step (w := w) hlt hc ex ey)
     clear hc h h' ex ey
     go_wp2
     go_quiet (fail)
     go_wp2
     go_roundw
     case rel => exact S.out _
     case measure => simp [intOf]; omega
    ·have S := Lib.hid (same_not (w := w) ex ey he)
     have hne : (x != y) = true := by simp [he]
     clear hc h h' ex ey he
     go_wp2
     go_quiet (fail)
     go_wp2
     go_ret
     rw [World.drewN_drewN]
     exact S.out _
   ·have S := Lib.hid (same_yes (w := w) h.1 h'.1 hlt hc)
    clear hc h h'
    go_wp2
    go_ret
    exact S.out _
 ·have S := Lib.hid (same_len (w := w) h.1 h'.1 hnm)
  have hne : ((n : Int) != (m : Int)) = true := by simp; omega
  clear h h'
  go_enter Tryd.func126, Tryd.ntmps126
  go_wp2
  go_ret
  exact S.out
theorem implSame (A A' : Option Addr) (n m c c' : Nat) (xs ys : List Int) (w : World) (h : Seg w w.heap.size A n xs) (h' : Seg w w.heap.size A' m ys) (hn : n ≤ 1048576) (hm : m ≤ 1048576) :
  Calls Tryd.prog 103 #[.slice A n c, .slice A' m c'] w (AnsSame w xs ys) := by
 have L := Lib.hid (libEqual A A' n m c c' xs ys w h h' hn hm)
 clear h h'
 go_enter Tryd.func103, Tryd.ntmps103
 go_wp2_with fail
 refine L.out.mono ?_
 rintro e w' ⟨rfl, d, rfl⟩
 go_wp2
 go_ret
 exact ⟨rfl, d, rfl⟩
end same
end
section
namespace ruleSpec
open Go.RowKit renMath base ints sig term termOk marks app sym segs termFacts varsMath varsOf rename same count linear shape kindsR ruleMath
set_option maxRecDepth 100000
end ruleSpec
end
section
namespace anyR
open Go.RowKit base ints sig segs varsOf shape kindsR ruleMath
set_option maxRecDepth 100000
end anyR
end
section
namespace ruleImpl
open Go.RowKit base ints sig term termOk marks app sym segs termFacts varsMath varsOf rename same count linear shape kindsR ruleMath ruleSpec anyR
set_option maxRecDepth 100000
end ruleImpl
end
section
namespace ruleText
open Go.RowKit base ints sig term endOf termOk endAt marks app sym kinds termFacts shape kindsR varsOf text textL termText ruleMath ruleSpec ruleImpl
set_option maxRecDepth 100000
theorem termT_len (sg t : List Int) : (termT sg t).length ≤ 420 := by
 unfold termT
 split
 ·rename_i h
  have h1 := (term_len h).2
  have h2 := txt_len (sig_arities (termOk_parts h).1).1 (small_of h) t.length 0 t.length (termOk_parts h).2.2 (Nat.le_refl _)
  omega
 ·simp
end ruleText
end
section
namespace plainMath
open fillMath
def strip : List (List Int) → List (List Int)
 | [] => []
 | x :: r => if strip r = [] then (if x = [] then [] else [x]) else x :: strip r
theorem strip_snoc : ∀ (l : List (List Int)) (x : List Int), strip (l ++ [x]) = if x = [] then strip l else l ++ [x]
 | [], x => by
  show strip [x] = _
  by_cases h : x = [] <;> simp [strip, h]
 | y :: r, x => by
  rw [List.cons_append, strip, strip_snoc r x]
  by_cases h : x = []
  ·simp [h, strip]
  ·simp [h]
theorem strip_len : ∀ l : List (List Int), (strip l).length ≤ l.length
 | [] => by simp [strip]
 | x :: r => by
  have h := strip_len r
  rw [strip]
  split
  ·split <;> simp
  ·simp; omega
theorem strip_pad : ∀ l : List (List Int), strip l ++ List.replicate (l.length - (strip l).length) [] = l
 | [] => by simp [strip]
 | x :: r => by
  have h := strip_pad r
  rw [strip]
  by_cases h1 : strip r = []
  ·rw [h1] at h
   rw [if_pos h1]
   have h2 : List.replicate r.length ([] : List Int) = r := by simpa using h
   by_cases h3 : x = []
   ·rw [if_pos h3]
    subst h3
    simp only [List.length_cons, List.length_nil, Nat.sub_zero, List.nil_append]
    rw [List.replicate_succ, h2]
   ·rw [if_neg h3]
    simp only [List.length_cons, List.length_nil]
    rw [show r.length + 1 - (0 + 1) = r.length by omega, h2]
    rfl
  ·rw [if_neg h1]
   simp only [List.length_cons, List.cons_append]
   rw [show r.length + 1 - ((strip r).length + 1) = r.length - (strip r).length by omega, h]
theorem strip_last {l : List (List Int)} {q : Nat} (hq : q < l.length) (h : l.getD q [] ≠ []) : strip (l.take (q + 1)) = l.take (q + 1) := by
 have e : l.take (q + 1) = l.take q ++ [l.getD q []] := by
  rw [List.take_succ_eq_append_getElem hq]
  simp [List.getD, hq]
 rw [e, strip_snoc, if_neg h]
theorem strip_drop {l : List (List Int)} {q : Nat} (hq : q < l.length) (h : l.getD q [] = []) : strip (l.take (q + 1)) = strip (l.take q) := by
 have e : l.take (q + 1) = l.take q ++ [l.getD q []] := by
  rw [List.take_succ_eq_append_getElem hq]
  simp [List.getD, hq]
 rw [e, strip_snoc, if_pos h]
def bare (L : Nat → List Int) (i : Nat) : List Int := if L i = vt i then [] else L i
def rowsL (L : Nat → List Int) (m : Nat) : List (List Int) := (List.range m).map (bare L)
def plainL (L : Nat → List Int) (m : Nat) : List (List Int) := strip (rowsL L m)
theorem rows_len (L : Nat → List Int) (m : Nat) : (rowsL L m).length = m := by simp [rowsL]
theorem rows_get {L : Nat → List Int} {m i : Nat} (h : i < m) : (rowsL L m).getD i [] = bare L i := by simp [rowsL, List.getD, h]
theorem rows_succ (L : Nat → List Int) (m : Nat) : rowsL L (m + 1) = rowsL L m ++ [bare L m] := by simp [rowsL, List.range_succ]
theorem plain_same {L : Nat → List Int} {m : Nat} (h : L m = vt m) : plainL L (m + 1) = plainL L m := by
 unfold plainL
 rw [rows_succ, strip_snoc, if_pos (by unfold bare; rw [if_pos h])]
theorem plain_new {L : Nat → List Int} {m : Nat} (h : L m ≠ vt m) (hne : 1 ≤ (L m).length) : plainL L (m + 1) = rowsL L m ++ [L m] := by
 unfold plainL
 have hb : bare L m = L m := by unfold bare; rw [if_neg h]
 rw [rows_succ, strip_snoc, hb, if_neg (fun e => by rw [e] at hne; simp at hne)]
theorem plain_len (L : Nat → List Int) (m : Nat) : (plainL L m).length ≤ m := by have := strip_len (rowsL L m); rw [rows_len] at this; exact this
theorem plain_pad (L : Nat → List Int) (m : Nat) : plainL L m ++ List.replicate (m - (plainL L m).length) [] = rowsL L m := by
 have := strip_pad (rowsL L m)
 rw [rows_len] at this
 exact this
theorem plain_more {L : Nat → List Int} {m : Nat} : ∀ {k : Nat}, (∀ i, m ≤ i → L i = vt i) → plainL L (m + k) = plainL L m
 | 0, _ => rfl
 | k + 1, h => by rw [← Nat.add_assoc, plain_same (h _ (by omega)), plain_more h]
theorem plain_24 {L : Nat → List Int} {m : Nat} (hm : m ≤ 24) (h : ∀ i, m ≤ i → L i = vt i) : plainL L 24 = plainL L m := by
 have := plain_more (k := 24 - m) h
 rwa [show m + (24 - m) = 24 by omega] at this
theorem plain_get (L : Nat → List Int) (m i : Nat) : (plainL L m).getD i [] = (rowsL L m).getD i [] := by
 have h := plain_pad L m
 rw [← h]
 by_cases hi : i < (plainL L m).length
 ·simp [List.getD, List.getElem?_append_left hi]
 ·have e1 : (plainL L m)[i]? = none := List.getElem?_eq_none (by omega)
  simp only [List.getD, e1, Option.getD_none]
  rw [List.getElem?_append_right (by omega)]
  by_cases h2 : i - (plainL L m).length < m - (plainL L m).length
  ·simp [List.getElem?_replicate, h2]
  ·simp [List.getElem?_replicate, h2]
theorem rows_each {L : Nat → List Int} {m M : Nat} (hM : ∀ i, (L i).length ≤ M) (i : Nat) : ((rowsL L m).getD i []).length ≤ M := by
 by_cases h : i < m
 ·rw [rows_get h]
  unfold bare
  split
  ·simp
  ·exact hM i
 ·rw [show (rowsL L m).getD i [] = [] by simp [List.getD, rows_len, h]]
  simp
theorem plain_each {L : Nat → List Int} {m M : Nat} (hM : ∀ i, (L i).length ≤ M) (i : Nat) : ((plainL L m).getD i []).length ≤ M := by rw [plain_get]; exact rows_each hM i
end plainMath
end
section
namespace look
open Go.RowKit base ints marks app sym segs fillMath
set_option maxRecDepth 100000
theorem varTerm (i : Int) (w : World) (h0 : 0 ≤ i) (h1 : i ≤ 1000) :
  Calls Tryd.prog 102 #[.int .i64 i] w (AnsList w [-1 - i]) := by
 have F : AnsList w [-1 - i] (.returned (.slice (some ⟨w.heap.size, 0, none⟩) 1 1)) (w.alloc (.cells #[.int .i64 (-1 - i)] 2)) :=
  ⟨_, 1, 1, rfl, Own.of_row (Row.new _ _ _) rfl rfl (Nat.le_refl _) (by omega) (Nat.le_refl _) (fun j hj => by
   have e : j = 0 := by omega
   subst e
   rfl), (Below.refl _ _).alloc (Nat.le_refl _) _⟩
 have HF := Lib.hid F
 clear F
 go_enter Tryd.func102, Tryd.ntmps102
 go_wp2
 go_ret
 exact HF.out
def AnsLook (B : Nat) (w : World) (ys : List Int) (e : Ending) (w' : World) : Prop := ∃ A n c, e = .returned (.slice A n c) ∧ Seg w' w'.heap.size A n ys ∧ Cap A n c ∧ (∀ k, blk A = some k → k < B ∨ w.heap.size ≤ k) ∧ Below w.heap.size w w'
def Looks (g : Nat) (lb : Array Value) (w : World) (L : Nat → List Int) (N : Nat) : Prop :=
 ∀ (W : World) (i : Nat), Below w.heap.size w W → i < N → Calls Tryd.prog g (#[.int .i64 (i : Int)] ++ lb) W (AnsLook w.heap.size W (L i))
theorem Looks.next {g : Nat} {lb : Array Value} {w w' : World} {L : Nat → List Int} {N : Nat} (h : Looks g lb w L N) (hb : Below w.heap.size w w') : Looks g lb w' L N :=
 fun W i hW hi => (h W i (next_trans hb hW) hi).mono fun _ _ ⟨A, n, c, he, h1, h2, h3, h4⟩ => ⟨A, n, c, he, h1, h2, fun k hk => by have := h3 k hk; have := hb.size; omega, h4⟩
theorem own_cap {w : World} {base : Nat} {A : Option Addr} {n c : Nat} {xs : List Int} (h : Own w base (.slice A n c) xs) : Cap A n c := by
 have hl := Own.len h
 rcases own_form (n := n) (vs := xs.map (Value.int .i64)) (by rw [hl]; rw [hl] at h; exact h) with ⟨rfl, h1, rfl, _⟩ | ⟨g, cur, rfl, _, _, h1, h2, h3, _⟩
 ·exact ⟨by omega, by omega, fun _ => rfl⟩
 ·exact ⟨h1, h3, fun e => by cases e⟩
theorem look_new {w w' : World} {B : Nat} {ys : List Int} {A : Option Addr} {n c : Nat} (ho : Own w' w.heap.size (.slice A n c) ys) (hb : Below w.heap.size w w') : AnsLook B w ys (.returned (.slice A n c)) w' :=
 ⟨A, n, c, rfl, Own.seg ho, own_cap ho, fun k hk => .inr (World.ownsRow.lt ho k (by cases A with | none => cases hk | some a => exact hk)).1, hb⟩
end look
end
section
open Go.Lib (hid)
namespace plain
open Go.RowKit base ints cursor same marks app appAt sym sub segs segsHelp kinds fillMath Go.Proofs.YtlaloakegajheabDoor.look plainMath
set_option maxRecDepth 100000
theorem Inn.none_ (w : World) (lo hi : Nat) : Inn w lo hi (.slice none 0 0) [] := ⟨none, 0, rfl, Own.nil _ _, fun k hk => by cases hk⟩
theorem inn_own {w : World} {lo : Nat} {A : Option Addr} {n c : Nat} {xs : List Int} (h : Own w lo (.slice A n c) xs) : Inn w lo w.heap.size (.slice A n c) xs := by
 have hl := Own.len h
 subst hl
 exact ⟨A, c, rfl, h, fun k hk => (World.ownsRow.lt h k (by rw [blk_own]; exact hk)).2⟩
set_option maxHeartbeats 1000000 in
theorem appS1 {w : World} {ops : Array Oper} {rest : List Oper} {o : Oper} {a : Act} {Q : Exit → Act → World → Prop} (hgd : o.guard = none) (s x : Operand)
  (ho : o.op = .call { callee := .builtin .append, args := #[s, x], argTypes := #[48, 48] })
  (lo mid : Nat) (A : Option Addr) (n c : Nat) (xss : List (List Int)) (hs : a.eval s = .slice A n c) (hown : Owns w lo mid A n c xss)
  (g c2 : Nat) (v : Value) (ys : List Int) (hx : a.eval x = .slice (some ⟨g, 0, none⟩) 1 c2) (hy : w.cell? ⟨g, 0, none⟩ = some v) (hv : Inn w mid w.heap.size v ys) (hn : n ≤ 1048576) (hlo : lo ≤ mid) (hmid : mid ≤ w.heap.size)
  (h : ∀ A' c' w', Owns w' lo w'.heap.size A' (n + 1) c' (xss ++ [ys]) → w.grownBy w' (blk A) → (blk A' = blk A ∨ blk A' = some w.heap.size) → Below lo w w' → wpList Tryd.prog ops Q rest (a.put o.dst (.slice A' (n + 1) c')) w') : wpList Tryd.prog ops Q (o :: rest) a w := by
 obtain ⟨i0, hi, hz0, hz1, hz2⟩ := info_parts info_list
 obtain ⟨hlen, ⟨vs, hr, hin, hap⟩, htop⟩ := hown
 have hvl : vs.length = n := by have := hr.1; omega
 have hvc : v.oneCell' = true := by obtain ⟨A1, c1, rfl, _⟩ := hv; rfl
 refine wpList_append_own_at w hgd s x 48 ho lo 22 i0 (.slice none 0 0) 1 24 Tryd.underlying48 hi hz0 hz1 hz2 rfl (by decide) (.slice A n c) n vs hs hr
  ⟨g, 0, none⟩ 1 c2 [v] hx rfl (fun j u hj => ?_) (fun u hu => ?_) (by unfold maxLen; omega) (by omega) (by omega) ?_
 ·match j, hj with
  | 0, hj => simp at hj; subst hj; simpa [Addr.add] using hy
 ·simp at hu; subst hu; exact hvc
 ·intro v' w' hown' hg _ hat
  have hform : ∃ A' c', v' = .slice A' (n + 1) c' := by
   rcases hown'.2 with ⟨_, h0⟩ | ⟨g', cap, cur, e, _⟩
   ·omega
   ·exact ⟨_, _, e⟩
  obtain ⟨A', c', rfl⟩ := hform
  rw [blk_own] at hg
  rw [blk_own, blk_own] at hat
  have hsz := hg.size
  have hne : ∀ {u : Value} {zs : List Int} {l2 h2 : Nat}, Inn w l2 h2 u zs → u.ownBlock = none ∨ u.ownBlock ≠ blk A := fun {u zs l2 h2} hu => by
   rcases own_form hr with ⟨rfl, _⟩ | ⟨g', cur, rfl, _, hrow, _⟩
   ·cases e : u.ownBlock with
    | none => exact .inl rfl
    | some z => exact .inr (fun e2 => by cases e2)
   ·exact .inr (hu.ne hrow)
  have hget : ∀ j, j < n → (vs ++ [v]).getD j undef = vs.getD j undef := fun j hj => by simp [List.getD, List.getElem?_append_left (show j < vs.length by omega)]
  have hget2 : ∀ j, j < n → (xss ++ [ys]).getD j [] = xss.getD j [] := fun j hj => by simp [List.getD, List.getElem?_append_left (show j < xss.length by omega)]
  have hnew : (vs ++ [v]).getD n undef = v := by simp [List.getD, ← hvl]
  have hnew2 : (xss ++ [ys]).getD n [] = ys := by simp [List.getD, ← hlen]
  refine h A' c' w' ⟨by simp [hlen], ⟨vs ++ [v], hown', fun j hj => ?_, fun i j k hij hj e1 e2 => ?_⟩, fun k hk => (World.ownsRow.lt hown' k (by rw [blk_own]; exact hk)).2⟩ hg hat ?_
  ·by_cases e : j = n
   ·subst e
    rw [hnew, hnew2]
    exact (hv.kept hg (hne hv)).wider (by omega) (by omega)
   ·rw [hget j (by omega), hget2 j (by omega)]
    exact ((hin j (by omega)).kept hg (hne (hin j (by omega)))).wider (Nat.le_refl _) (by omega)
  ·by_cases e : j = n
   ·subst e
    rw [hget i hij] at e1
    rw [hnew] at e2
    have h1 := ((hin i hij).blk k e1).2.1
    have h2 := (hv.blk k e2).1
    omega
   ·rw [hget i (by omega)] at e1
    rw [hget j (by omega)] at e2
    exact hap i j k hij (by omega) e1 e2
  ·refine (Below.refl lo w).grown hg (by omega) (fun k hk => ?_)
   exact (World.ownsRow.lt hr k (by rw [blk_own]; exact hk)).1
def AnsSubst (w : World) (xss : List (List Int)) (e : Ending) (w' : World) : Prop := ∃ A n c, e = .returned (.agg #[.slice A n c]) ∧ Owns w' w.heap.size w'.heap.size A n c xss ∧ Below w.heap.size w w'
def HeadP (w : World) (L : Nat → List Int) (terms i : Value) (wr : World) : Prop :=
 ∃ (k : Nat) (A : Option Addr) (n c : Nat), k ≤ 24 ∧ i = .int .i64 k ∧ terms = .slice A n c ∧ n ≤ k ∧ Owns wr (w.heap.size + 1) wr.heap.size A n c (plainL L k) ∧ Row wr w.heap.size 53 #[.slice none 0 0] ∧ Below w.heap.size w wr
theorem Seg.away {w w' : World} {A : Option Addr} {n : Nat} {xs : List Int} {r : Option Nat} (h : Seg w w.heap.size A n xs) (hg : w.grownBy w' r) (hne : ∀ k, blk A = some k → r ≠ some k) : Seg w' w'.heap.size A n xs :=
 ⟨h.1, fun hn => by
  obtain ⟨b, off, e, hb, hc⟩ := h.2 hn
  refine ⟨b, off, e, Nat.lt_of_lt_of_le hb hg.size, fun j hj => ?_⟩
  exact (World.cell?_of_block (hg.block b hb (fun e2 => hne b (by rw [e]; rfl) e2.symm))).trans (hc j hj)⟩
def HeadQ (w : World) (mid top : Nat) (L : Nat → List Int) (k : Nat) (A1 : Option Addr) (n1 : Nat) (ys : List Int) (terms : Value) (wr : World) : Prop :=
 ∃ (A : Option Addr) (n c : Nat), terms = .slice A n c ∧ n ≤ k ∧ (plainL L k).length ≤ n ∧ Owns wr (w.heap.size + 1) wr.heap.size A n c (plainL L k ++ List.replicate (n - (plainL L k).length) []) ∧ (∀ q, blk A = some q → q < mid ∨ top ≤ q) ∧
  Seg wr wr.heap.size A1 n1 ys ∧ Row wr w.heap.size 53 #[.slice none 0 0] ∧ Below w.heap.size w wr ∧ top ≤ wr.heap.size
def lenOf (v : Value) : Nat := match v with
 | .slice _ n _ => n
 | _ => 0
set_option maxHeartbeats 16000000 in
theorem plain (g : Nat) (lb : Array Value) (eg : ∀ args w, (callFunc g args).run Tryd.prog w = .ok (.enter g args) w) (L : Nat → List Int) (w : World)
  (hL : Looks g lb w L 24) (h1 : ∀ i, 1 ≤ (L i).length) (hM : ∀ i, (L i).length ≤ 4096) :
  Calls Tryd.prog 84 #[.func (.func g) #[] lb] w (AnsSubst w (plainL L 24)) := by
 have H1 := hid h1
 have HM := hid hM
 have HK := hid hL
 have S0 : HeadP w L (.slice none 0 0) (.int .i64 0) (w.alloc (.cells #[.slice none 0 0] 53)) :=
  ⟨0, none, 0, 0, by omega, rfl, rfl, Nat.le_refl _, by simpa [plainL, rowsL, strip] using Owns.nil (w.alloc (.cells #[.slice none 0 0] 53)) (w.heap.size + 1) (w.alloc (.cells #[.slice none 0 0] 53)).heap.size, Row.new _ _ _, (Below.refl _ _).alloc (Nat.le_refl _) _⟩
 have HS0 := hid S0
 clear S0 h1 hM hL
 go_enter Tryd.func84, Tryd.ntmps84
 go_wp2
 go_loopw [3, 6] (fun terms i wr => HeadP w L terms i wr) (fun _ i _ => 24 - (intOf i).toNat)
 case atStart => exact HS0.out
 case round =>
  obtain ⟨k, A, n, c, hk, rfl, rfl, hnk, ho, hr, hb⟩ := hrel
  clear HS0
  obtain ⟨wo, rfl⟩ : ∃ wo : World, wo = wr := ⟨_, rfl⟩
  by_cases hlt : k < 24
  ·have hcall := HK.out wo k hb hlt
   have hLk : (L k).length ≤ 4096 := HM.out k
   have hL1 : 1 ≤ (L k).length := H1.out k
   obtain ⟨ys, hys⟩ : ∃ ys, L k = ys := ⟨_, rfl⟩
   rw [hys] at hcall hLk hL1
   have HY := hid hys
   have HC := hid hcall
   clear hys hcall
   have hsz := hb.size
   have hrlt := hr.lt
   by_cases hsame : ys = [-1 - (k : Int)]
   ·have DS := hid (decide_eq_true hsame)
    go_wp2_with (first
     | (go_at_fn g; refine HC.out.mono ?_; rintro e w1 ⟨A1, n1, c1, rfl, s1, cap1, far1, bb1⟩; have hn1 : n1 ≤ 4096 := (by rw [← s1.1]; exact hLk))
     | (go_at_call 102; refine (varTerm (k : Int) _ (by omega) (by omega)).mono ?_; rintro e w2 ⟨A2, n2, c2, rfl, o2, bb2⟩; have hn2 : n2 ≤ 1048576 := (by rw [Own.len o2]; simp))
     | (go_at_call 103; refine (implSame A1 A2 n1 n2 c1 c2 ys [-1 - (k : Int)] w2 (s1.next bb2) (Own.seg o2) (by omega) hn2).mono ?_; rintro e w3 ⟨he, d, rfl⟩; rw [DS.out] at he; subst he))
    have bb3 : Below wo.heap.size wo (w2.drewN d) := below_drewN (next_trans bb1 bb2) d
    have hs3 := bb3.size
    have S : HeadP w L (.slice A n c) (.int .i64 ((k : Int) + 1)) (w2.drewN d) := ⟨k + 1, A, n, c, hlt, by simp, rfl, by omega, by rw [plain_same (HY.out.trans hsame)]; exact (ho.next bb3).wider (Nat.le_refl _) hs3, hr.next bb3, hb.trans (bb3.mono hsz)⟩
    have HS := hid S
    clear S bb3 hs3 s1 cap1 far1 bb1 o2 bb2 ho hr hb HC HY hsame DS
    go_wp2
    go_roundw
    case rel => exact HS.out
    case measure => simp [intOf]; omega
   ·have DS := hid (decide_eq_false hsame)
    have HNE := hid hsame
    clear hsame
    go_wp2_with (first
     | (go_at_fn g; refine HC.out.mono ?_; rintro e w1 ⟨A1, n1, c1, rfl, s1, cap1, far1, bb1⟩; have hn1 : n1 ≤ 4096 := (by rw [← s1.1]; exact hLk))
     | (go_at_call 102; refine (varTerm (k : Int) _ (by omega) (by omega)).mono ?_; rintro e w2 ⟨A2, n2, c2, rfl, o2, bb2⟩; have hn2 : n2 ≤ 1048576 := (by rw [Own.len o2]; simp))
     | (go_at_call 103; refine (implSame A1 A2 n1 n2 c1 c2 ys [-1 - (k : Int)] w2 (s1.next bb2) (Own.seg o2) (by omega) hn2).mono ?_; rintro e w3 ⟨he, hd⟩; rw [DS.out] at he; subst he; have bb3 : Below w2.heap.size w2 w3 := (by obtain ⟨d, rfl⟩ := hd; exact drewN_below _ _)))
    have bbo := next_trans (next_trans bb1 bb2) bb3
    have s3 := (s1.next bb2).next bb3
    have hs3 := bbo.size
    have h12 := bb2.size
    have h23 := bb3.size
    have hn1' : 1 ≤ n1 := by rw [← s1.1]; exact hL1
    have hA1 : ∀ q, blk A1 = some q → q < w.heap.size ∨ (wo.heap.size ≤ q ∧ q < w3.heap.size) := fun q hq => by
     rcases far1 q hq with h | h
     ·exact .inl h
     ·refine .inr ⟨h, ?_⟩
      obtain ⟨b, off, e, hb', _⟩ := s1.2 (by omega)
      rw [e] at hq
      have : b = q := Option.some.inj hq
      omega
    have Q0 : HeadQ w wo.heap.size w3.heap.size L k A1 n1 ys (.slice A n c) w3 := by
     have hl := ho.len
     refine ⟨A, n, c, rfl, hnk, by omega, ?_, fun q hq => .inl (ho.top q hq), s3, hr.next bbo, hb.trans (bbo.mono hsz), Nat.le_refl _⟩
     rw [show n - (plainL L k).length = 0 by omega, List.replicate_zero, List.append_nil]
     exact (ho.next bbo).wider (Nat.le_refl _) hs3
    have HQ0 := hid Q0
    have HA1 := hid hA1
    clear Q0 hA1 bbo s3 s1 cap1 far1 bb1 o2 bb2 bb3 ho hr hb HC DS hd
    go_loopw [3] (fun terms wr => HeadQ w wo.heap.size w3.heap.size L k A1 n1 ys terms wr) (fun terms _ => k - lenOf terms)
    case atStart => exact HQ0.out
    case round =>
     obtain ⟨A, n, c, rfl, hnk, hpn, ho, hloc, s1, hr, hb, htop⟩ := hrel
     clear HQ0
     have hrl := hr.lt
     have hne : ∀ q, blk A1 = some q → blk A ≠ some q := fun q hq e => by
      have h1 := HA1.out q hq
      have h2 := hloc q e
      obtain ⟨vs, hown, _⟩ := ho.row
      have h3 := (World.ownsRow.lt hown q (by rw [blk_own]; exact e)).1
      omega
     have hneB : blk A ≠ some w.heap.size := fun e => by
      obtain ⟨vs, hown, _⟩ := ho.row
      have h3 := (World.ownsRow.lt hown _ (by rw [blk_own]; exact e)).1
      omega
     by_cases hlt2 : n < k
     ·have ho1 := ho.next (w' := wr.alloc (.cells #[.slice none 0 0] 22)) ((Below.refl _ _).alloc (Nat.le_refl _) _)
      have hr1 := hr.alloc (.cells #[.slice none 0 0] 22)
      have s1a := s1.next (w' := wr.alloc (.cells #[.slice none 0 0] 22)) ((Below.refl _ _).alloc (Nat.le_refl _) _)
      go_wp2_with (at_builtin; refine appS1 rfl _ _ rfl (w.heap.size + 1) wr.heap.size A n c _ rfl ho1 wr.heap.size 1 (.slice none 0 0) [] rfl ((Row.new _ _ _).cell 0) (Inn.none_ _ _ _) (by omega) (by omega) (by simp) ?_; intro A' c' w5 ho5 hg5 hat5 b5)
      have S : HeadQ w wo.heap.size w3.heap.size L k A1 n1 ys (.slice A' (n + 1) c') w5 := by
       refine ⟨A', n + 1, c', rfl, hlt2, by omega, ?_, fun q hq => ?_, Seg.away s1a hg5 hne, Row.away hr1 hg5 hneB, (hb.alloc (by omega) _).trans (b5.mono (by omega)), ?_⟩
       ·rw [show n + 1 - (plainL L k).length = (n - (plainL L k).length) + 1 by omega, List.replicate_succ', ← List.append_assoc]
        exact ho5
       ·rcases hat5 with h | h
        ·exact hloc q (by rw [← h]; exact hq)
        ·rw [h] at hq
         injection hq with hq
         simp at hq
         omega
       ·have := hg5.size; simp at this; omega
      have HS := hid S
      clear S ho5 hg5 hat5 b5 ho1 hr1 s1a ho hloc s1 hr hb hne hneB
      go_wp2
      go_roundw
      case rel => exact HS.out
      case measure => simp [lenOf]; omega
     ·have hkn : n = k := by omega
      subst hkn
      obtain ⟨b1, off1, e1, _, _⟩ := s1.2 (by omega)
      subst e1
      rw [plain_pad] at ho
      have LC := hid (cloneInts b1 off1 n1 c1 ys wr s1 (by omega))
      go_wp2_with (first
       | (go_at_call 104; refine LC.out.mono ?_; rintro e w5 ⟨A5, n5, c5, rfl, o5, bb5⟩; have z5 := bb5.size; have ho5 := (ho.next bb5).next (w' := w5.alloc (.cells #[.slice A5 n5 c5] 22)) ((Below.refl _ _).alloc (Nat.le_refl _) _); have i5 := (inn_own o5).next (w' := w5.alloc (.cells #[.slice A5 n5 c5] 22)) ((Below.refl _ _).alloc (Nat.le_refl _) _); have i6 := Inn.wider i5 (Nat.le_refl _) (show w5.heap.size ≤ (w5.alloc (.cells #[.slice A5 n5 c5] 22)).heap.size by simp); have r5 := (hr.next bb5).alloc (.cells #[.slice A5 n5 c5] 22))
       | (at_builtin; refine appS1 rfl _ _ rfl (w.heap.size + 1) wr.heap.size A n c _ rfl ho5 w5.heap.size 1 (.slice A5 n5 c5) ys rfl ((Row.new _ _ _).cell 0) i6 (by omega) (by omega) (by simp; omega) ?_; intro A' c' w6 ho6 hg6 hat6 b6))
      have S : HeadP w L (.slice A' (n + 1) c') (.int .i64 ((n : Int) + 1)) w6 := by
       refine ⟨n + 1, A', n + 1, c', hlt, by simp, rfl, Nat.le_refl _, ?_, Row.away r5 hg6 hneB, ((hb.trans (bb5.mono (by omega))).alloc (by omega) _).trans (b6.mono (by omega))⟩
       rw [plain_new (by rw [HY.out]; exact HNE.out) (by rw [HY.out]; exact hL1), HY.out]
       exact ho6
      have HS := hid S
      clear S ho6 hg6 hat6 b6 ho5 i5 i6 r5 o5 bb5 ho hloc s1 hr hb hne hneB LC
      go_wp2
      go_roundw
      case rel => exact HS.out
      case measure => simp [intOf]; omega
  ·have hk24 : k = 24 := by omega
   subst hk24
   have hcell : wo.cell? ⟨w.heap.size, 0, none⟩ = some (.slice none 0 0) := hr.cell 0
   have hfr : wo.frozen? ⟨w.heap.size, 0, none⟩ = false := hr.free 0
   have F : AnsSubst w (plainL L 24) (.returned (.agg #[.slice A n c])) (wo.setCell ⟨w.heap.size, 0, none⟩ (.slice A n c)) :=
    ⟨A, n, c, rfl, (owns_put ho hr (Nat.lt_succ_self _) 0 _).wider (by omega) (by simp), hb.setCell (Nat.le_refl _) _⟩
   have HF := hid F
   clear F ho hr hb
   go_wp2
   exact bodyPost_ret (v := .agg #[.slice A n c]) (by simp [results, Tryd.results84, go_sem, hcell]) rfl HF.out
end plain
end
section
open Go.Lib (hid)
namespace substOk
open Go.RowKit base ints sig term termOk marks app sym sub segs segsHelp termFacts varsMath varsOf fillMath Go.Proofs.YtlaloakegajheabDoor.look
set_option maxRecDepth 100000
def goodB (sg t : List Int) : Bool := decide (t.length = 0) || termOkB sg t
def substOkB (sg : List Int) (ss : List (List Int)) : Bool := sigOkB sg && (decide (ss.length ≤ 24) && ss.all (goodB sg))
theorem substOk_parts {sg : List Int} {ss : List (List Int)} (h : substOkB sg ss = true) : sigOkB sg = true ∧ ss.length ≤ 24 ∧ ∀ j, j < ss.length → goodB sg (ss.getD j []) = true := by
 unfold substOkB at h
 simp only [Bool.and_eq_true, decide_eq_true_eq, List.all_eq_true] at h
 refine ⟨h.1, h.2.1, fun j hj => ?_⟩
 have := h.2.2 (ss[j]) (List.getElem_mem hj)
 simpa [List.getD, hj] using this
theorem subst_sig {sg : List Int} {ss : List (List Int)} (h : sigOkB sg = false) : substOkB sg ss = false := by unfold substOkB; rw [h, Bool.false_and]
theorem subst_long {sg : List Int} {ss : List (List Int)} (h : ¬ ss.length ≤ 24) : substOkB sg ss = false := by unfold substOkB; rw [decide_eq_false h, Bool.false_and, Bool.and_false]
theorem subst_bad {sg : List Int} {ss : List (List Int)} {k : Nat} (hk : k < ss.length) (h : goodB sg (ss.getD k []) = false) : substOkB sg ss = false := by
 have : ss.all (goodB sg) = false := by
  rw [List.all_eq_false]
  refine ⟨ss[k], List.getElem_mem hk, ?_⟩
  have e : ss.getD k [] = ss[k] := by simp [List.getD, hk]
  rw [e] at h
  simp [h]
 unfold substOkB
 rw [this, Bool.and_false, Bool.and_false]
theorem subst_good {sg : List Int} {ss : List (List Int)} (h : sigOkB sg = true) (hl : ss.length ≤ 24) (hg : ∀ j, j < ss.length → goodB sg (ss.getD j []) = true) : substOkB sg ss = true := by
 have : ss.all (goodB sg) = true := by
  rw [List.all_eq_true]
  intro x hx
  obtain ⟨j, hj, rfl⟩ := List.getElem_of_mem hx
  have := hg j hj
  simpa [List.getD, hj] using this
 unfold substOkB
 rw [this, h, decide_eq_true hl]
 rfl
def HeadSO (w : World) (A : Option Addr) (n c : Nat) (S : Option Addr) (m c' : Nat) (sg : List Int) (ss : List (List Int)) (i : Value) (wr : World) : Prop :=
 ∃ k : Nat, k ≤ m ∧ i = .int .i64 k ∧ (∀ j, j < k → goodB sg (ss.getD j []) = true) ∧ Row wr w.heap.size 28 #[.slice A n c] ∧ Row wr (w.heap.size + 1) 53 #[.slice S m c'] ∧ Below w.heap.size w wr
theorem headSO_step {w wr : World} {A : Option Addr} {n c : Nat} {S : Option Addr} {m c' : Nat} {sg : List Int} {ss : List (List Int)} {k : Nat} (hk : k < m) (hlow : ∀ j, j < k → goodB sg (ss.getD j []) = true) (hg : goodB sg (ss.getD k []) = true)
  (r1 : Row wr w.heap.size 28 #[.slice A n c]) (r2 : Row wr (w.heap.size + 1) 53 #[.slice S m c']) (hb : Below w.heap.size w wr) : HeadSO w A n c S m c' sg ss (.int .i64 ((k : Int) + 1)) wr :=
 ⟨k + 1, hk, by simp, fun j hj => by
  by_cases e : j = k
  ·subst e; exact hg
  ·exact hlow j (by omega), r1, r2, hb⟩
theorem boxes2 (w : World) (A : Option Addr) (n c : Nat) (S : Option Addr) (m c' : Nat) : ∃ W, W = (w.alloc (.cells #[.slice A n c] 28)).alloc (.cells #[.slice S m c'] 53) ∧
  Row W w.heap.size 28 #[.slice A n c] ∧ Row W (w.heap.size + 1) 53 #[.slice S m c'] ∧ Below w.heap.size w W := by
 refine ⟨_, rfl, ?_, ?_, ?_⟩
 ·have := (Row.new w 28 #[.slice A n c]).alloc (.cells #[.slice S m c'] 53)
  simpa using this
 ·have := Row.new (w.alloc (.cells #[.slice A n c] 28)) 53 #[.slice S m c']
  simpa using this
 ·exact ((Below.refl _ _).alloc (Nat.le_refl _) _).alloc (by simp) _
set_option maxHeartbeats 4000000 in
theorem specSubstOk (A S : Option Addr) (n c m c' : Nat) (sg : List Int) (ss : List (List Int)) (w : World) (h : Seg w w.heap.size A n sg) (h' : Segs w w.heap.size S m ss) (hn : n ≤ 1048576) (ht : tot ss ≤ 1048576) :
  Calls Tryd.prog 55 #[.agg #[.slice A n c], .agg #[.slice S m c']] w (AnsB w (substOkB sg ss)) := by
 obtain ⟨W, hW, rA, rS, bel⟩ := boxes2 w A n c S m c'
 have HW := hid hW
 have HL := hid h'.1
 have hm : m ≤ 1048576 := tot_len h'.1 ht
 have HT := hid (tot_each ht)
 have L := hid (specSigOk A n c sg W (h.next bel) hn)
 have cS : W.cell? ⟨w.heap.size + 1, 0, none⟩ = some (.slice S m c') := rS.cell 0
 clear hW ht
 cases hsig : sigOkB sg with
 | false =>
  have HS := hid hsig
  clear hsig h h'
  go_enter Tryd.func55, Tryd.ntmps55
  go_wp2_with fail
  rw [← HW.out]
  refine L.out.mono ?_
  rintro e w1 ⟨he, bb⟩
  rw [HS.out] at he
  subst he
  have F := hid (ansB (b := substOkB sg ss) (a := false) (by rw [subst_sig HS.out]) (next_trans bel bb))
  clear bb bel rA rS cS
  go_wp2
  go_ret
  exact F.out
 | true =>
  have HS := hid hsig
  clear hsig
  by_cases h24 : m ≤ 24
  ·go_enter Tryd.func55, Tryd.ntmps55
   go_wp2_with fail
   rw [← HW.out]
   refine L.out.mono ?_
   rintro e w1 ⟨he, bb⟩
   rw [HS.out] at he
   subst he
   have H0 : HeadSO w A n c S m c' sg ss (.int .i64 0) w1 := ⟨0, Nat.zero_le _, rfl, fun j hj => absurd hj (Nat.not_lt_zero _), rA.next bb, rS.next bb, next_trans bel bb⟩
   have HH := hid H0
   have cS1 : w1.cell? ⟨w.heap.size + 1, 0, none⟩ = some (.slice S m c') := (rS.next bb).cell 0
   clear H0 bb bel rA rS cS L
   go_wp2_with fail
   go_loopw [5] (fun i wr => HeadSO w A n c S m c' sg ss i wr) (fun i _ => m - (intOf i).toNat)
   case atStart => exact HH.out
   case round =>
    obtain ⟨k, hk, rfl, hlow, r1, r2, hb⟩ := hrel
    have HLOW := hid hlow
    clear hlow HH cS1
    have cS : wr.cell? ⟨w.heap.size + 1, 0, none⟩ = some (.slice S m c') := r2.cell 0
    have cA : wr.cell? ⟨w.heap.size, 0, none⟩ = some (.slice A n c) := r1.cell 0
    by_cases hlt : k < m
    ·obtain ⟨b, off, A', n', cc, rfl, hbB, hx, hseg, hcap⟩ := h'.spot hlt
     have hx1 : wr.cell? ⟨b, off + k, none⟩ = some (.slice A' n' cc) := (hb.cell (p := ⟨b, off + k, none⟩) hbB).trans hx
     have hn' : n' ≤ 1048576 := by rw [← hseg.1]; exact HT.out k
     have HG := hid hseg.1
     have i0 : (0 : Int) ≤ (k : Int) := by omega
     have i1 : (k : Int) < (m : Int) := by omega
     have hbr : b < wr.heap.size := Nat.lt_of_lt_of_le hbB hb.size
     have r1d := r1.drew
     have r2d := r2.drew
     have hbd := hb.drew
     by_cases hz : n' = 0
     ·subst hz
      have S1 : ∀ d : Nat, HeadSO w A n c (some ⟨b, off, none⟩) m c' sg ss (.int .i64 ((k : Int) + 1)) (wr.drewN d) := fun d => headSO_step hlt HLOW.out (by unfold goodB; rw [HG.out]; rfl) (r1.drewN d) (r2.drewN d) (below_drewN hb d)
      have HS1 := hid S1
      clear S1 r1 r2 hb hx hseg hcap r1d r2d hbd h h'
      go_wp2_with fail
      go_quiet (fail)
      go_wp2
      go_roundw
      case rel => exact HS1.out _
      case measure => simp [intOf]; omega
     ·have hpos : 0 < n' := by omega
      have i2 : (0 : Int) < (n' : Int) := by omega
      have LT := hid (specTermOk A A' n c n' cc sg (ss.getD k []) wr.drew ((h.next hb).drew) (((hseg.below hb).more hb.size).drew) hn hn')
      have hne1 := World.new_ne wr _ cS
      cases hok : termOkB sg (ss.getD k []) with
      | false =>
       have HO := hid hok
       clear hok hx hseg hcap h h' r1 r2 hb
       go_wp2_with fail
       go_region_held3 (fun w' => w'.cell? ⟨w.heap.size + 1, 0, none⟩ = some (.slice (some ⟨b, off, none⟩) m c') ∧ w'.cell? ⟨w.heap.size, 0, none⟩ = some (.slice A n c) ∧ w'.cell? ⟨b, off + k, none⟩ = some (.slice A' n' cc))
        (go_keep)
        (first
         | (go_at_call 34; refine LT.out.mono ?_; rintro e w2 ⟨he, bb⟩; rw [HO.out] at he; subst he; have cA2 : w2.cell? ⟨w.heap.size, 0, none⟩ = some (.slice A n c) := (r1d.next bb).cell 0; have cS2 : w2.cell? ⟨w.heap.size + 1, 0, none⟩ = some (.slice (some ⟨b, off, none⟩) m c') := (r2d.next bb).cell 0; have cX2 : w2.cell? ⟨b, off + k, none⟩ = some (.slice A' n' cc) := (bb.cell (p := ⟨b, off + k, none⟩) hbr).trans hx1; have F := hid (ansB (b := substOkB sg ss) (a := false) (by rw [subst_bad (k := k) (by rw [HL.out]; exact hlt) (by unfold goodB; rw [HO.out, HG.out]; simp; omega)]) (next_trans hbd bb))))
       clear r1d r2d hbd LT cA2 cS2 cX2 hx1 cA cS
       go_wp2
       go_ret
       exact F.out
      | true =>
       have HO := hid hok
       clear hok hx hseg hcap h h' r1 r2 hb
       go_wp2_with fail
       go_region_held3 (fun w' => w'.cell? ⟨w.heap.size + 1, 0, none⟩ = some (.slice (some ⟨b, off, none⟩) m c') ∧ w'.cell? ⟨w.heap.size, 0, none⟩ = some (.slice A n c) ∧ w'.cell? ⟨b, off + k, none⟩ = some (.slice A' n' cc))
        (go_keep)
        (first
         | (go_at_call 34; refine LT.out.mono ?_; rintro e w2 ⟨he, bb⟩; rw [HO.out] at he; subst he; have cA2 : w2.cell? ⟨w.heap.size, 0, none⟩ = some (.slice A n c) := (r1d.next bb).cell 0; have cS2 : w2.cell? ⟨w.heap.size + 1, 0, none⟩ = some (.slice (some ⟨b, off, none⟩) m c') := (r2d.next bb).cell 0; have cX2 : w2.cell? ⟨b, off + k, none⟩ = some (.slice A' n' cc) := (bb.cell (p := ⟨b, off + k, none⟩) hbr).trans hx1; have F := hid (headSO_step (sg := sg) (ss := ss) hlt HLOW.out (by unfold goodB; rw [HO.out, Bool.or_true]) (r1d.next bb) (r2d.next bb) (next_trans hbd bb))))
       clear r1d r2d hbd LT cA2 cS2 cX2 hx1 cA cS
       go_wp2
       go_roundw
       case rel => exact F.out
       case measure => simp [intOf]; omega
    ·have F := hid (ansB (b := substOkB sg ss) (a := true) (by rw [subst_good HS.out (by rw [HL.out]; exact h24) (fun j hj => HLOW.out j (by rw [HL.out] at hj; omega))]) hb)
     clear r1 r2 hb h h'
     go_wp2
     go_ret
     exact F.out
  ·have i1 : (24 : Int) < (m : Int) := by omega
   go_enter Tryd.func55, Tryd.ntmps55
   go_wp2_with fail
   rw [← HW.out]
   refine L.out.mono ?_
   rintro e w1 ⟨he, bb⟩
   rw [HS.out] at he
   subst he
   have cS1 : w1.cell? ⟨w.heap.size + 1, 0, none⟩ = some (.slice S m c') := (rS.next bb).cell 0
   have F := hid (ansB (b := substOkB sg ss) (a := false) (by rw [subst_long (by rw [HL.out]; exact h24)]) (next_trans bel bb))
   clear bb bel rA rS cS h h' L
   go_wp2
   go_ret
   exact F.out
end substOk
end
end Go.Proofs.YtlaloakegajheabDoor
