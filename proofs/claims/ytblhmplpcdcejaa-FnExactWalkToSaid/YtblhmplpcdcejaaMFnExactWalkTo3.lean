/-
  MERGED: my texts Shape2, Shape3, Dice, DrawSig, DrawTerm, DrawAny, DrawX, OwnL, HeldT, HeldU, KindsW, FindW, one behind the other, as they are. By an AI agent.
-/
import Derived.Test.YtblhmplpcdcejaaMFnExactWalkTo2
import Derived.Deep.AppendLies
import Derived.Deep.RegionLaw
import Derived.Deep.RegionHeld3
import Derived.OrdersHeld
import Derived.Deep.RegionHeld
namespace Go.Proofs.Ytblhmplpcdcejaa
section
namespace shape
open Go.RowKit base ints sig cursor marks app sym appAt segs segsHelp segsMark kinds
structure Only (F : List Nat) (w w' : World) : Prop where
 os : w'.os = w.os
 tape : w'.tape = w.tape
 output : w'.output = w.output
 size : w.heap.size ≤ w'.heap.size
 block : ∀ k, k < w.heap.size → k ∉ F → w'.heap[k]? = w.heap[k]?
section
variable {w w' w2 : World} {B : Nat} {s : Sh} {e : TypeId} {v : Value} {F G : List Nat}
theorem Only.refl (F : List Nat) (w : World) : Only F w w := ⟨rfl, rfl, rfl, Nat.le_refl _, fun _ _ _ => rfl⟩
theorem Only.of_below (h : Below w.heap.size w w') : Only F w w' := ⟨h.os, h.tape, h.output, h.size, fun k hk _ => h.block k hk⟩
theorem Only.trans (h : Only F w w') (k : Only F w' w2) : Only F w w2 :=
 ⟨k.os.trans h.os, k.tape.trans h.tape, k.output.trans h.output, Nat.le_trans h.size k.size, fun i hi ho => (k.block i (Nat.lt_of_lt_of_le hi h.size) ho).trans (h.block i hi ho)⟩
theorem Only.wider (h : Only F w w') (hF : ∀ k ∈ F, k ∈ G) : Only G w w' := ⟨h.os, h.tape, h.output, h.size, fun k hk ho => h.block k hk fun hk2 => ho (hF k hk2)⟩
theorem Only.btw {lo hi : Nat} (h : Only F w w') (hF : ∀ k ∈ F, lo ≤ k ∧ k < hi) : Btw lo hi w w' := ⟨h.os, h.tape, h.output, h.size, fun k hk ho => h.block k hk fun hk2 => by have := hF k hk2; omega⟩
theorem Only.put {g i : Nat} {u : Value} (hg : g ∈ F) : Only F w (w.setCell ⟨g, i, none⟩ u) :=
 ⟨rfl, rfl, rfl, by simp, fun k _ hk => Below.heap_setCell w _ u k (fun e => by
  have e : k = g := e
  rw [e] at hk
  exact hk hg)⟩
theorem Ow.only {cs : List Value} {d : Dat s} (h : Ow w s cs d F) (ho : Only G w w') (hd : ∀ k ∈ F, k ∉ G) : Ow w' s cs d F := h.keep fun k hk => ho.block k (h.lt k hk) (hd k hk)
theorem Rd.elem {D : List (Dat s)} {j : Nat} (h : Rd w B (.row e s) [v] D) (hj : j < D.length) : ∃ b off n c es, v = .slice (some ⟨b, off, none⟩) n c ∧ D.length = n ∧ n ≤ c ∧ b < B ∧ es.length = nc s ∧ Piece w b (off + j * nc s) es ∧ Rd w B s es (D.getD j (dft s)) := by
 obtain ⟨A, n, c, e1, hc, hl, h1⟩ := h
 injection e1 with e1
 subst hl
 obtain ⟨b, off, e2, hb, h2⟩ := h1 (by omega)
 obtain ⟨es, he, hp, hr⟩ := h2 j hj
 exact ⟨b, off, _, c, es, by rw [e1, e2], rfl, hc.1, hb, he, hp, hr⟩
theorem Rd.slice {D : List (Dat s)} (h : Rd w B (.row e s) [v] D) : ∃ A c, v = .slice A D.length c ∧ Cap A D.length c := by
 obtain ⟨A, n, c, e1, hc, hl, h1⟩ := h
 injection e1 with e1
 subst hl
 exact ⟨A, c, e1, hc⟩
theorem nodup_flat {G : Nat → List Nat} {n : Nat} (h : ((List.range n).flatMap G).Nodup) {i j : Nat} (hi : i < n) (hj : j < n) (hne : i ≠ j) {k : Nat} (hk : k ∈ G i) : k ∉ G j := by
 induction n with
 | zero => omega
 | succ n ih =>
  rw [List.range_succ, List.flatMap_append, List.nodup_append] at h
  obtain ⟨h1, _, h3⟩ := h
  intro hk2
  by_cases e1 : i = n
  ·subst e1
   exact h3 k (List.mem_flatMap.2 ⟨j, List.mem_range.2 (by omega), hk2⟩) k (by simpa using hk) rfl
  ·by_cases e2 : j = n
   ·subst e2
    exact h3 k (List.mem_flatMap.2 ⟨i, List.mem_range.2 (by omega), hk⟩) k (by simpa using hk2) rfl
   ·exact ih h1 (by omega) (by omega) hk2
theorem nodup_part {G : Nat → List Nat} {n : Nat} (h : ((List.range n).flatMap G).Nodup) {j : Nat} (hj : j < n) : (G j).Nodup := by
 induction n with
 | zero => omega
 | succ n ih =>
  rw [List.range_succ, List.flatMap_append, List.nodup_append] at h
  obtain ⟨h1, h2, h3⟩ := h
  by_cases e : j = n
  ·subst e; simpa using h2
  ·exact ih h1 (by omega)
theorem Ow.elem {D : List (Dat s)} {j : Nat} (h : Ow w (.row e s) [v] D F) (hF : F.Nodup) (hj : j < D.length) :
  ∃ g n c es Gj, v = .slice (some ⟨g, 0, none⟩) n c ∧ D.length = n ∧ es.length = nc s ∧ Piece w g (j * nc s) es ∧ (∀ i, w.frozen? ⟨g, i, none⟩ = false) ∧ Ow w s es (D.getD j (dft s)) Gj ∧ g ∈ F ∧ Gj.Nodup ∧ g ∉ Gj ∧ (∀ k ∈ Gj, k ∈ F) ∧
   ∀ (w2 : World) (es2 : List Value) (d2 : Dat s), es2.length = nc s → Piece w2 g (j * nc s) es2 → Ow w2 s es2 d2 Gj → Only (g :: Gj) w w2 →
    (∀ cur, Row w g e cur → ∃ cur2, Row w2 g e cur2 ∧ cur2.size = cur.size ∧ ∀ q, (q < j * nc s ∨ j * nc s + nc s ≤ q) → cur2[q]? = cur[q]?) → Ow w2 (.row e s) [v] (D.set j d2) F := by
 obtain ⟨A, n, c, e1, hl, h1⟩ := h
 injection e1 with e1
 rcases h1 with ⟨_, e2, _⟩ | ⟨g, cur, E, G, e2, hr, h2, h3, h4, h5, h6⟩
 ·omega
 subst e1 e2 h5
 rw [List.nodup_cons] at hF
 obtain ⟨q1, q2, q3⟩ := h6 j (by omega)
 refine ⟨g, n, c, E j, G j, rfl, hl, q1, fun i hi => by rw [hr.cell]; exact q2 i (by omega), fun i => hr.free i, q3, List.mem_cons_self .., nodup_part hF.2 (by omega), fun hg => hF.1 (List.mem_flatMap.2 ⟨j, List.mem_range.2 (by omega), hg⟩),
  fun k hk => List.mem_cons_of_mem _ (List.mem_flatMap.2 ⟨j, List.mem_range.2 (by omega), hk⟩), fun w2 es2 d2 hl2 hp2 ho2 hon hcur => ?_⟩
 obtain ⟨cur2, hr2, hs2, hc2⟩ := hcur cur hr
 refine ⟨_, n, c, rfl, by simpa using hl, .inr ⟨g, cur2, fun i => if i = j then es2 else E i, G, rfl, hr2, h2, h3, by rw [hs2]; exact h4, rfl, fun i hi => ?_⟩⟩
 by_cases ei : i = j
 ·subst ei
  dsimp only
  rw [if_pos rfl]
  refine ⟨hl2, fun q hq => by rw [← hr2.cell, hp2 q (by omega)], ?_⟩
  have : (D.set i d2).getD i (dft s) = d2 := by simp [List.getD, hj]
  rw [this]; exact ho2
 ·dsimp only
  rw [if_neg ei]
  obtain ⟨p1, p2, p3⟩ := h6 i hi
  refine ⟨p1, fun q hq => ?_, ?_⟩
  ·have : i * nc s + q < j * nc s ∨ j * nc s + nc s ≤ i * nc s + q := by
    rcases Nat.lt_or_ge i j with h | h
    ·left
     have := Nat.mul_le_mul_right (nc s) (show i + 1 ≤ j by omega)
     rw [Nat.add_mul] at this
     omega
    ·right
     have := Nat.mul_le_mul_right (nc s) (show j + 1 ≤ i by omega)
     rw [Nat.add_mul] at this
     omega
   rw [hc2 _ this]
   exact p2 q hq
  ·have : (D.set j d2).getD i (dft s) = D.getD i (dft s) := by simp [List.getD, List.getElem?_set_ne (show j ≠ i by omega)]
   rw [this]
   refine p3.only hon fun k hk hk2 => ?_
   rcases List.mem_cons.1 hk2 with hk2 | hk2
   ·subst hk2
    exact hF.1 (List.mem_flatMap.2 ⟨i, List.mem_range.2 hi, hk⟩)
   ·exact nodup_flat hF.2 hi (by omega) ei hk hk2
theorem Ow.elem' {D : List (Dat s)} {j : Nat} (h : Ow w (.row e s) [v] D F) (hF : F.Nodup) (hj : j < D.length) :
  ∃ g n c es Gj, v = .slice (some ⟨g, 0, none⟩) n c ∧ D.length = n ∧ es.length = nc s ∧ Piece w g (j * nc s) es ∧ g < w.heap.size ∧ Ow w s es (D.getD j (dft s)) Gj ∧ Gj.Nodup ∧ g ∉ Gj ∧ (∀ k ∈ Gj, k ∈ F) ∧
   ∀ (w2 : World) (d2 : Dat s), Ow w2 s es d2 Gj → Only Gj w w2 → Ow w2 (.row e s) [v] (D.set j d2) F := by
 obtain ⟨g, n, c, es, Gj, h1, h2, h3, h4, h5, h6, h7, h8, h9, h10, h11⟩ := h.elem hF hj
 have hg := h.lt g h7
 refine ⟨g, n, c, es, Gj, h1, h2, h3, h4, hg, h6, h8, h9, h10, fun w2 d2 ho hon => h11 w2 es d2 h3 (h4.keep fun p hp => ?_) ho (hon.wider fun k hk => List.mem_cons_of_mem _ hk) fun cur hr => ⟨cur, (hon.block g hg h9).trans hr, rfl, fun _ _ => rfl⟩⟩
 exact World.cell?_of_block (by rw [hp]; exact hon.block g hg h9)
def Copy1 (w : World) (s : Sh) (d : Dat s) (e : Ending) (w' : World) : Prop := ∃ A n c, e = .returned (.slice A n c) ∧ Owned w' w.heap.size w'.heap.size s [.slice A n c] d ∧ Below w.heap.size w w'
def AnsSzK (w : World) (left : Int) (t : Nat) (e : Ending) (w' : World) : Prop := e = .returned (.int .i64 (if left - t < 0 then -1 else left - t)) ∧ Below w.heap.size w w'
def Yes (w : World) (e : Ending) (w' : World) : Prop := e = .returned (.bool true) ∧ Below w.heap.size w w'
def AnsMarkF (w : World) (s : Sh) (cs : List Value) (d : Dat s) (k : Int) (F : List Nat) (e : Ending) (w' : World) : Prop := e = .returned (.int .i64 (k + (cntv s d : Int))) ∧ Ow w' s cs (mkv s k d) F ∧ Only F w w'
def AnsHeld (w : World) (z : Int) (e : Ending) (w' : World) : Prop := e = .returned (.int .i64 z) ∧ Below w.heap.size w w'
theorem szK_ints (v : Value) (xs : List Int) (left : Int) (w : World) (h : Rd w w.heap.size sI [v] xs) (h0 : 0 ≤ left) (h1 : left ≤ 1048576) :
  Calls Try.prog 59 #[v, .int .i64 left] w (AnsSzK w left (sz sI xs)) := by
 obtain ⟨A, n, c, rfl, hs, hc⟩ := rd_ints.1 h
 rw [sz_ints, hs.1]
 exact (szInts A n c left w (Nat.le_trans hc.1 hc.2.1) h0 h1).mono fun _ _ ⟨e1, e2⟩ => ⟨e2, e1 ▸ Below.refl _ _⟩
theorem toK_ints (v : Value) (xs : List Int) (w : World) (h : Rd w w.heap.size sI [v] xs) (hz : sz sI xs ≤ 1048576) :
  Calls Try.prog 12 #[v] w (Copy1 w sI xs) := by
 obtain ⟨A, n, c, rfl, hs, hc⟩ := rd_ints.1 h
 rw [sz_ints, hs.1] at hz
 exact (intsTo A n c xs w hs hz).mono fun _ _ ⟨g, e, ho, _, hb⟩ => ⟨_, _, _, e, ow_ints.2 ho, hb⟩
theorem eqK_ints (v v' : Value) (xs : List Int) (w : World) (h : Rd w w.heap.size sI [v] xs) (h' : Rd w w.heap.size sI [v'] xs) (hz : sz sI xs ≤ 1048576) :
  Calls Try.prog 15 #[v, v'] w (Yes w) := by
 obtain ⟨A, n, c, rfl, hs, hc⟩ := rd_ints.1 h
 obtain ⟨A', n', c', rfl, hs', hc'⟩ := rd_ints.1 h'
 rw [sz_ints, hs.1] at hz
 exact intsEq A A' n n' c c' xs w hs hs' hz
theorem ow_ints' {w : World} {A : Option Addr} {n c : Nat} {xs : List Int} {F : List Nat} (h : Ow w sI [.slice A n c] xs F) : Own w 0 (.slice A n c) xs ∧ ((blk A = none ∧ F = []) ∨ ∃ g, blk A = some g ∧ F = [g]) := by
 have h0 := h
 obtain ⟨A', n', c', e, hl, h⟩ := h
 injection e with e
 injection e with e1 e2 e3
 subst e1 e2 e3
 rcases h with ⟨rfl, rfl, rfl, rfl⟩ | ⟨g, cur, E, G, rfl, hr, h2, h3, h4, rfl, h6⟩
 ·have hx : xs = [] := List.eq_nil_of_length_eq_zero hl
  subst hx
  exact ⟨Own.nil _ _, .inl ⟨rfl, rfl⟩⟩
 ·have hG : (List.range n).flatMap G = [] := List.eq_nil_iff_forall_not_mem.2 fun k hk => by
   obtain ⟨j, hj, hk⟩ := List.mem_flatMap.1 hk
   have q3 := (h6 j (List.mem_range.1 hj)).2.2
   have q3 : _ ∧ G j = [] := q3
   rw [q3.2] at hk
   cases hk
  rw [hG] at h0 ⊢
  exact ⟨(ow_ints.1 ⟨[g], h0, by simp, fun k hk => ⟨Nat.zero_le _, h0.lt k hk⟩⟩ : Ownd w 0 w.heap.size _ _ _ _).1, .inr ⟨g, rfl, rfl⟩⟩
theorem ow_of {w : World} {A : Option Addr} {n c : Nat} {xs : List Int} {F : List Nat} (h : Own w 0 (.slice A n c) xs) (hF : (blk A = none ∧ F = []) ∨ ∃ g, blk A = some g ∧ F = [g]) : Ow w sI [.slice A n c] xs F := by
 obtain ⟨F', h1, _, _⟩ := (ow_ints (w := w) (lo := 0) (hi := w.heap.size)).2 (Ownd.of_own h)
 have h2 := (ow_ints' h1).2
 rcases hF with ⟨e1, rfl⟩ | ⟨g, e1, rfl⟩
 ·rcases h2 with ⟨_, rfl⟩ | ⟨g, e2, _⟩
  ·exact h1
  ·rw [e1] at e2; cases e2
 ·rcases h2 with ⟨e2, _⟩ | ⟨g', e2, rfl⟩
  ·rw [e1] at e2; cases e2
  ·rw [e1] at e2; injection e2 with e2; subst e2; exact h1
theorem markK_ints (v : Value) (xs : List Int) (k : Int) (F : List Nat) (w : World) (h : Ow w sI [v] xs F) (hz : sz sI xs ≤ 1048576) (hk0 : 0 ≤ k) (hk : k ≤ 1099511627776) :
  Calls Try.prog 19 #[v, .int .i64 k] w (AnsMarkF w sI [v] xs k F) := by
 obtain ⟨A, n, c, rfl, hs, hc⟩ := rd_ints.1 h.rd
 rw [sz_ints, hs.1] at hz
 obtain ⟨ho, hF⟩ := ow_ints' h
 refine (markOwn 0 A n c xs k w ho hz hk0 hk).mono fun _ _ ⟨e, hg, ho2⟩ => ⟨?_, ?_, ?_⟩
 ·rw [e]
  have : cntv sI xs = n := by rw [← hs.1]; exact cnt_ints xs
  rw [this]
 ·rw [mk_ints, hs.1]
  exact ow_of ho2 hF
 ·rcases hF with ⟨e1, rfl⟩ | ⟨g, e1, rfl⟩
  ·rw [e1] at hg
   exact ⟨hg.os, hg.tape, hg.output, hg.size, fun k hk _ => hg.block k hk (by simp)⟩
  ·rw [e1] at hg
   exact ⟨hg.os, hg.tape, hg.output, hg.size, fun k hk hn => hg.block k hk (fun e => hn (by injection e with e; rw [e]; simp))⟩
theorem heldK_ints (v : Value) (xs : List Int) (k : Int) (w : World) (h : Rd w w.heap.size sI [v] (mkv sI k xs)) (hz : sz sI xs ≤ 1048576) (hk0 : 0 ≤ k) (hk : k ≤ 1099511627776) :
  Calls Try.prog 20 #[v, .int .i64 k] w (AnsHeld w (k + (cntv sI xs : Int))) := by
 rw [mk_ints] at h
 obtain ⟨A, n, c, rfl, hs, hc⟩ := rd_ints.1 h
 have hl : n = xs.length := by rw [← hs.1, marks_len]
 subst hl
 rw [sz_ints] at hz
 have : cntv sI xs = xs.length := cnt_ints xs
 rw [this]
 exact (heldInts A _ c k w hs hz hk0 (by omega)).mono fun _ _ ⟨e1, e2⟩ => ⟨e2, e1 ▸ Below.refl _ _⟩
end
section
variable {s : Sh} {e : TypeId}
def HeadCp (w : World) (e : TypeId) (s : Sh) (n : Nat) (D : List (Dat s)) (i : Value) (wr : World) : Prop :=
 ∃ (k : Nat) (cs : Array Value) (E : Nat → List Value) (G : Nat → List Nat), k ≤ n ∧ i = .int .i64 k ∧ Row wr w.heap.size e cs ∧ cs.size = n * nc s ∧ ((List.range k).flatMap G).Nodup ∧
  (∀ j, j < k → (E j).length = nc s ∧ (∀ i, i < nc s → cs[j * nc s + i]? = (E j)[i]?) ∧ Ow wr s (E j) (D.getD j (dft s)) (G j) ∧ ∀ q ∈ G j, w.heap.size < q) ∧ Below w.heap.size w wr
theorem headCp_zero {w : World} {n : Nat} {D : List (Dat s)} {cs : Array Value} (hs : cs.size = n * nc s) : HeadCp w e s n D (.int .i64 0) (w.alloc (.cells cs e)) :=
 ⟨0, cs, fun _ => [], fun _ => [], Nat.zero_le _, rfl, Row.new _ _ _, hs, by simp, fun j hj => absurd hj (Nat.not_lt_zero _), (Below.refl _ _).alloc (Nat.le_refl _) _⟩
def putAll (w : World) (g : Nat) : Nat → List Value → World
 | _, [] => w
 | off, u :: r => putAll (w.setCell ⟨g, off, none⟩ u) g (off + 1) r
def rowPut (cs : Array Value) : Nat → List Value → Array Value
 | _, [] => cs
 | off, u :: r => rowPut (cs.setIfInBounds off u) (off + 1) r
theorem rowPut_size : ∀ {es : List Value} {cs : Array Value} {off : Nat}, (rowPut cs off es).size = cs.size
 | [], _, _ => rfl
 | u :: r, cs, off => by rw [rowPut, rowPut_size]; simp
theorem rowPut_get : ∀ {es : List Value} {cs : Array Value} {off q : Nat}, off + es.length ≤ cs.size → (rowPut cs off es)[q]? = if off ≤ q ∧ q < off + es.length then es[q - off]? else cs[q]?
 | [], cs, off, q, _ => by rw [rowPut, if_neg (by simp only [List.length_nil]; omega)]
 | u :: r, cs, off, q, h => by
  simp only [List.length_cons] at h
  rw [rowPut, rowPut_get (by simp; omega)]
  simp only [List.length_cons]
  by_cases e1 : q = off
  ·subst e1
   rw [if_neg (by omega), if_pos (by omega), Array.getElem?_setIfInBounds, if_pos rfl, if_pos (by omega)]
   simp
  ·by_cases e2 : off ≤ q ∧ q < off + (r.length + 1)
   ·rw [if_pos (by omega), if_pos e2]
    obtain ⟨m, rfl⟩ : ∃ m, q = off + 1 + m := ⟨q - off - 1, by omega⟩
    rw [show off + 1 + m - (off + 1) = m by omega, show off + 1 + m - off = m + 1 by omega, List.getElem?_cons_succ]
   ·rw [if_neg (by omega), if_neg e2, Array.getElem?_setIfInBounds, if_neg (by omega)]
theorem putAll_row {g : Nat} {t : TypeId} : ∀ {es : List Value} {w : World} {cs : Array Value} {off : Nat}, Row w g t cs → Row (putAll w g off es) g t (rowPut cs off es)
 | [], _, _, _, h => h
 | u :: r, w, cs, off, h => by rw [putAll, rowPut]; exact putAll_row (h.put off u)
theorem putAll_keep {g : Nat} : ∀ {es : List Value} {w : World} {off : Nat} {k : Nat}, k ≠ g → (putAll w g off es).heap[k]? = w.heap[k]?
 | [], _, _, _, _ => rfl
 | u :: r, w, off, k, h => by rw [putAll, putAll_keep h]; exact Below.heap_setCell w _ u k h
theorem putAll_below {g B : Nat} {a : World} : ∀ {es : List Value} {w : World} {off : Nat}, Below B a w → B ≤ g → Below B a (putAll w g off es)
 | [], _, _, h, _ => h
 | u :: r, w, off, h, hg => by rw [putAll]; exact putAll_below (h.setCell hg u) hg
theorem headCp_step {w wr w1 : World} {n k : Nat} {D : List (Dat s)} {cs : Array Value} {E : Nat → List Value} {G : Nat → List Nat} (hk : k < n) (hr : Row wr w.heap.size e cs) (hs : cs.size = n * nc s) (hn : ((List.range k).flatMap G).Nodup)
  (hi : ∀ j, j < k → (E j).length = nc s ∧ (∀ i, i < nc s → cs[j * nc s + i]? = (E j)[i]?) ∧ Ow wr s (E j) (D.getD j (dft s)) (G j) ∧ ∀ q ∈ G j, w.heap.size < q) (hb : Below w.heap.size w wr)
  {es : List Value} (ho : Owned w1 wr.heap.size w1.heap.size s es (D.getD k (dft s))) (bb : Below wr.heap.size wr w1) : HeadCp w e s n D (.int .i64 ((k : Int) + 1)) (putAll w1 w.heap.size (k * nc s) es) := by
 obtain ⟨F, ho, hnF, hF⟩ := ho
 have hz := hr.lt
 have hle : k * nc s + nc s ≤ cs.size := by
  have := Nat.mul_le_mul_right (nc s) (show k + 1 ≤ n by omega)
  rw [Nat.add_mul] at this
  omega
 have hel := ho.len
 have hfr : ∀ j, j < k → ∀ q ∈ G j, q < wr.heap.size := fun j hj => (hi j hj).2.2.1.lt
 refine ⟨k + 1, _, fun j => if j = k then es else E j, fun j => if j = k then F else G j, hk, by simp, putAll_row (hr.next bb), by rw [rowPut_size]; exact hs, ?_, fun j hj => ?_, putAll_below (hb.trans (bb.mono hb.size)) (Nat.le_refl _)⟩
 ·rw [List.range_succ, List.flatMap_append]
  have e1 : (List.range k).flatMap (fun j => if j = k then F else G j) = (List.range k).flatMap G := by
   rw [List.flatMap_def, List.flatMap_def]
   congr 1
   exact List.map_congr_left fun j hj => if_neg (by have := List.mem_range.1 hj; omega)
  rw [e1]
  refine List.nodup_append.2 ⟨hn, by simpa using hnF, fun x hx y hy e => ?_⟩
  obtain ⟨j, hj, hx⟩ := List.mem_flatMap.1 hx
  have h1 := hfr j (List.mem_range.1 hj) x hx
  have h2 := hF y (by simpa using hy)
  omega
 ·by_cases ej : j = k
  ·subst ej
   simp only [if_pos]
   refine ⟨hel, fun i hi2 => ?_, ho.keep fun q hq => putAll_keep (by have := hF q hq; omega), fun q hq => by have := hF q hq; omega⟩
   rw [rowPut_get (by omega), if_pos (by omega)]
   congr 1
   omega
  ·simp only [if_neg ej]
   obtain ⟨q1, q2, q3, q4⟩ := hi j (by omega)
   refine ⟨q1, fun i hi2 => ?_, (q3.next bb).keep fun q hq => putAll_keep (by have := q4 q hq; omega), q4⟩
   rw [rowPut_get (by omega), if_neg ?_]
   ·exact q2 i hi2
   ·have := Nat.mul_le_mul_right (nc s) (show j + 1 ≤ k by omega)
    rw [Nat.add_mul] at this
    omega
theorem headCp_end {w wr : World} {n : Nat} {D : List (Dat s)} {cs : Array Value} {E : Nat → List Value} {G : Nat → List Nat} (hl : D.length = n) (hm : n ≤ 1048576) (hr : Row wr w.heap.size e cs) (hs : cs.size = n * nc s) (hn : ((List.range n).flatMap G).Nodup)
  (hi : ∀ j, j < n → (E j).length = nc s ∧ (∀ i, i < nc s → cs[j * nc s + i]? = (E j)[i]?) ∧ Ow wr s (E j) (D.getD j (dft s)) (G j) ∧ ∀ q ∈ G j, w.heap.size < q) (hb : Below w.heap.size w wr) :
  Copy1 w (.row e s) D (.returned (.slice (some ⟨w.heap.size, 0, none⟩) n n)) wr := by
 refine ⟨_, _, _, rfl, ⟨w.heap.size :: (List.range n).flatMap G, ⟨_, n, n, rfl, hl, .inr ⟨w.heap.size, cs, E, G, rfl, hr, Nat.le_refl _, by omega, hs, rfl, fun j hj => ⟨(hi j hj).1, (hi j hj).2.1, (hi j hj).2.2.1⟩⟩⟩, List.nodup_cons.2 ⟨fun h => ?_, hn⟩, fun k hk => ?_⟩, hb⟩
 ·obtain ⟨j, hj, h⟩ := List.mem_flatMap.1 h
  have := (hi j (List.mem_range.1 hj)).2.2.2 _ h
  omega
 ·rcases List.mem_cons.1 hk with hk | hk
  ·rw [hk]; exact ⟨Nat.le_refl _, hr.lt⟩
  ·obtain ⟨j, hj, h⟩ := List.mem_flatMap.1 hk
   have h1 := (hi j (List.mem_range.1 hj)).2.2.2 _ h
   have h2 := (hi j (List.mem_range.1 hj)).2.2.1.lt _ h
   omega
def mixed (s : Sh) (k : Int) (D : List (Dat s)) (j : Nat) : List (Dat s) := (List.range D.length).map fun q => if q < j then mkc s (k + (cnts s D q : Int)) (D.getD q (dft s)) else D.getD q (dft s)
theorem mixed_len {k : Int} {D : List (Dat s)} {j : Nat} : (mixed s k D j).length = D.length := by simp [mixed]
theorem mixed_get {k : Int} {D : List (Dat s)} {j : Nat} (h : j < D.length) : (mixed s k D j).getD j (dft s) = D.getD j (dft s) := by simp [mixed, List.getD, h]
theorem mixed_zero {k : Int} {D : List (Dat s)} : mixed s k D 0 = D := by
 refine List.ext_getElem (by rw [mixed_len]) fun j h1 h2 => ?_
 simp [mixed, List.getD, h2]
theorem mixed_succ {k : Int} {D : List (Dat s)} {j : Nat} (h : j < D.length) : (mixed s k D j).set j (mkc s (k + (cnts s D j : Int)) (D.getD j (dft s))) = mixed s k D (j + 1) := by
 refine List.ext_getElem (by rw [List.length_set, mixed_len, mixed_len]) fun q h1 h2 => ?_
 rw [mixed_len] at h2
 rw [List.getElem_set]
 by_cases e : j = q
 ·subst e; simp [mixed]
 ·rw [if_neg e]
  simp only [mixed, List.getElem_map, List.getElem_range]
  by_cases h3 : q < j
  ·rw [if_pos h3, if_pos (by omega)]
  ·rw [if_neg h3, if_neg (by omega)]
theorem mixed_all {k : Int} {D : List (Dat s)} {e : TypeId} : mixed s k D D.length = (mkv (.row e s) k D : List (Dat s)) := by
 show (List.range D.length).map _ = (List.range D.length).map _
 exact List.map_congr_left fun q hq => if_pos (List.mem_range.1 hq)
theorem headMk_cnt {e : TypeId} {s : Sh} {D : List (Dat s)} {j : Nat} (hj : j < D.length) : cnts s D j + cnt s (D.getD j (dft s)) ≤ cntv (.row e s) D := by
 rw [← cnts_succ hj]
 have := cnts_mono (d := D) (show j + 1 ≤ D.length by omega) (Nat.le_refl _)
 rw [cnts_all rfl] at this
 exact this
def HeadMk (w : World) (e : TypeId) (s : Sh) (v : Value) (D : List (Dat s)) (k : Int) (F : List Nat) (kk i : Value) (wr : World) : Prop :=
 ∃ j : Nat, j ≤ D.length ∧ i = .int .i64 j ∧ kk = .int .i64 (k + (cnts s D j : Int)) ∧ Ow wr (.row e s) [v] (mixed s k D j) F ∧ Only F w wr
theorem headMk_zero {w : World} {v : Value} {D : List (Dat s)} {k : Int} {F : List Nat} (h : Ow w (.row e s) [v] D F) : HeadMk w e s v D k F (.int .i64 k) (.int .i64 0) w :=
 ⟨0, Nat.zero_le _, rfl, by simp [cnts], by rw [mixed_zero]; exact h, Only.refl _ _⟩
theorem headMk_step {w wr w2 : World} {v : Value} {D : List (Dat s)} {k : Int} {F : List Nat} {j z : Nat} (hj : j < D.length) (hb : Only F w wr) (ho : Only F wr w2) (hz : cnt s (D.getD j (dft s)) = z) {d2 : Dat s} (hd : d2 = mkc s (k + (cnts s D j : Int)) (D.getD j (dft s)))
  (h : Ow w2 (.row e s) [v] ((mixed s k D j).set j d2) F) : HeadMk w e s v D k F (.int .i64 (k + (cnts s D j : Int) + z)) (.int .i64 ((j : Int) + 1)) w2 := by
 subst hd
 rw [mixed_succ hj] at h
 exact ⟨j + 1, hj, by simp, by rw [cnts_succ hj, hz]; exact congrArg (Value.int .i64) (by omega), h, hb.trans ho⟩
theorem headMk_end {w wr : World} {v : Value} {D : List (Dat s)} {k : Int} {F : List Nat} {j : Nat} (hj : ¬ j < D.length) (hj' : j ≤ D.length) (h : Ow wr (.row e s) [v] (mixed s k D j) F) (ho : Only F w wr) : AnsMarkF w (.row e s) [v] D k F (.returned (.int .i64 (k + (cnts s D j : Int)))) wr := by
 have e1 : j = D.length := by omega
 subst e1
 rw [mixed_all (e := e)] at h
 exact ⟨by rw [cnts_all rfl]; rfl, h, ho⟩
end
theorem Rd.split {w : World} {B : Nat} {a b : Sh} {ca cb : List Value} {d : Dat (.cat a b)} (h : Rd w B (.cat a b) (ca ++ cb) d) (hl : ca.length = nc a) : Rd w B a ca d.1 ∧ Rd w B b cb d.2 := by
 obtain ⟨ca', cb', e, h1, h2⟩ := h
 obtain ⟨rfl, rfl⟩ := List.append_inj e (by rw [hl, h1.len])
 exact ⟨h1, h2⟩
theorem Ow.split {w : World} {a b : Sh} {ca cb : List Value} {d : Dat (.cat a b)} {F : List Nat} (h : Ow w (.cat a b) (ca ++ cb) d F) (hl : ca.length = nc a) : ∃ Fa Fb, F = Fa ++ Fb ∧ Ow w a ca d.1 Fa ∧ Ow w b cb d.2 Fb := by
 obtain ⟨ca', cb', Fa, Fb, e, e2, h1, h2⟩ := h
 obtain ⟨rfl, rfl⟩ := List.append_inj e (by rw [hl, h1.len])
 exact ⟨Fa, Fb, e2, h1, h2⟩
theorem Row.only {w w' : World} {g : Nat} {t : TypeId} {cs : Array Value} {F : List Nat} (h : Row w g t cs) (ho : Only F w w') (hg : g ∉ F) : Row w' g t cs := (ho.block g h.lt hg).trans h
theorem Ow.join {w : World} {a b : Sh} {ca cb : List Value} {x : Dat a} {y : Dat b} {Fa Fb : List Nat} (h1 : Ow w a ca x Fa) (h2 : Ow w b cb y Fb) : Ow w (.cat a b) (ca ++ cb) (x, y) (Fa ++ Fb) := ⟨ca, cb, Fa, Fb, rfl, rfl, h1, h2⟩
theorem dis_app {F G : List Nat} (h : (F ++ G).Nodup) : F.Nodup ∧ G.Nodup ∧ (∀ k ∈ F, k ∉ G) ∧ ∀ k ∈ G, k ∉ F := by
 obtain ⟨h1, h2, h3⟩ := List.nodup_append.1 h
 exact ⟨h1, h2, fun k hk hk2 => h3 k hk k hk2 rfl, fun k hk hk2 => h3 k hk2 k hk rfl⟩
theorem dis_l {F A B : List Nat} (h : ∀ k ∈ F, k ∉ A ++ B) : (∀ k ∈ F, k ∉ A) ∧ ∀ k ∈ F, k ∉ B := ⟨fun k hk h2 => h k hk (List.mem_append_left _ h2), fun k hk h2 => h k hk (List.mem_append_right _ h2)⟩
theorem dis_r {F A B : List Nat} (h : ∀ k ∈ A ++ B, k ∉ F) : (∀ k ∈ A, k ∉ F) ∧ ∀ k ∈ B, k ∉ F := ⟨fun k hk => h k (List.mem_append_left _ hk), fun k hk => h k (List.mem_append_right _ hk)⟩
section
variable {s : Sh} {e : TypeId}
def HeadSzK (w : World) (n : Nat) (s : Sh) (D : List (Dat s)) (left : Int) (l i : Value) (wr : World) : Prop := ∃ k : Nat, k ≤ n ∧ i = .int .i64 k ∧ l = .int .i64 (left - n - szs s D k) ∧ 0 ≤ left - n - szs s D k ∧ Below w.heap.size w wr
theorem headSzK_zero {w : World} {n : Nat} {D : List (Dat s)} {left : Int} (h : 0 ≤ left - n) : HeadSzK w n s D left (.int .i64 (left - n)) (.int .i64 0) w := ⟨0, Nat.zero_le _, rfl, by simp [szs], by simp [szs]; omega, Below.refl _ _⟩
theorem headSzK_bad {n k t : Nat} {D : List (Dat s)} {left : Int} (hn : D.length = n) (hk : k < n) (hs : szs s D (k + 1) = szs s D k + t) (q : left - n - szs s D k - t < 0) : Ending.returned (.int .i64 (-1)) = .returned (.int .i64 (if left - (sz (.row e s) D : Nat) < 0 then -1 else left - (sz (.row e s) D : Nat))) := by
 have h2 := szs_mono (d := D) (show k + 1 ≤ D.length by omega) (Nat.le_refl _)
 rw [if_pos (by rw [sz_row]; omega)]
theorem headSzK_step {w w1 : World} {n k t : Nat} {D : List (Dat s)} {left l : Int} (hk : k < n) (hs : szs s D (k + 1) = szs s D k + t) (hl : left - n - szs s D k = l) (q : ¬ l - t < 0) (hb : Below w.heap.size w w1) : HeadSzK w n s D left (.int .i64 (l - t)) (.int .i64 ((k : Int) + 1)) w1 :=
 ⟨k + 1, hk, by simp, by rw [hs, ← hl]; exact congrArg (Value.int .i64) (by omega), by rw [hs]; omega, hb⟩
theorem headSzK_end {w wr : World} {n k : Nat} {D : List (Dat s)} {left : Int} (hn : D.length = n) (hk : ¬ k < n) (hk' : k ≤ n) (h : 0 ≤ left - n - szs s D k) (hb : Below w.heap.size w wr) : AnsSzK w left (sz (.row e s) D) (.returned (.int .i64 (left - n - szs s D k))) wr := by
 have e1 : k = n := by omega
 subst e1
 have e2 : (left - (sz (.row e s) D : Nat) : Int) = left - k - szs s D k := by rw [sz_row, hn]; omega
 exact ⟨by rw [e2, if_neg (by omega)], hb⟩
end
structure CpS (w : World) (tL tI : TypeId) (cs zs part : Array Value) (wr : World) : Prop where
 box : Row wr w.heap.size tL cs
 res : Row wr (w.heap.size + 1) tI zs
 cur : Row wr (w.heap.size + 1 + 1) tI part
 bel : Below w.heap.size w wr
 size : w.heap.size + 1 + 1 + 1 ≤ wr.heap.size
section
variable {w wr w1 : World} {tL tI : TypeId} {cs zs part : Array Value}
theorem CpS.zero (w : World) (tL tI : TypeId) (cs zs : Array Value) : CpS w tL tI cs zs zs (((w.alloc (.cells cs tL)).alloc (.cells zs tI)).alloc (.cells zs tI)) where
 box := by have := ((Row.new w tL cs).alloc (.cells zs tI)).alloc (.cells zs tI); simpa using this
 res := by have := (Row.new (w.alloc (.cells cs tL)) tI zs).alloc (.cells zs tI); simpa using this
 cur := by have := Row.new ((w.alloc (.cells cs tL)).alloc (.cells zs tI)) tI zs; simpa using this
 bel := (((Below.refl _ _).alloc (Nat.le_refl _) _).alloc (by simp) _).alloc (by simp; omega) _
 size := by simp
theorem CpS.next (h : CpS w tL tI cs zs part wr) (bb : Below wr.heap.size wr w1) : CpS w tL tI cs zs part w1 :=
 ⟨h.box.next bb, h.res.next bb, h.cur.next bb, h.bel.trans (bb.mono h.bel.size), Nat.le_trans h.size bb.size⟩
theorem CpS.put (h : CpS w tL tI cs zs part wr) (i : Nat) (u : Value) : CpS w tL tI cs zs (part.setIfInBounds i u) (wr.setCell ⟨w.heap.size + 1 + 1, i, none⟩ u) :=
 ⟨h.box.far (by show _ ≠ w.heap.size + 1 + 1; omega) _, h.res.far (by show _ ≠ w.heap.size + 1 + 1; omega) _, h.cur.put i u, h.bel.setCell (by show _ ≤ w.heap.size + 1 + 1; omega) _, by simpa using h.size⟩
theorem CpS.fin (h : CpS w tL tI cs zs part wr) (i : Nat) (u : Value) : CpS w tL tI cs (zs.setIfInBounds i u) part (wr.setCell ⟨w.heap.size + 1, i, none⟩ u) :=
 ⟨h.box.far (by show _ ≠ w.heap.size + 1; omega) _, h.res.put i u, h.cur.far (by show _ ≠ w.heap.size + 1; omega) _, h.bel.setCell (by show _ ≤ w.heap.size + 1; omega) _, by simpa using h.size⟩
end
end shape
end
section
namespace shape
open Go.RowKit base ints sig cursor marks app sym appAt segs segsHelp segsMark kinds
theorem Owned.num (w : World) (lo hi : Nat) (x : Int) : Owned w lo hi .num [.int .i64 x] x := ⟨[], ⟨rfl, rfl⟩, List.nodup_nil, fun k hk => by cases hk⟩
theorem Ow.num {w w' : World} {cs : List Value} {x : Int} {F : List Nat} (h : Ow w .num cs x F) (y : Int) : Ow w' .num [.int .i64 y] y F := ⟨rfl, h.2⟩
theorem Only.setCell {F : List Nat} {w w' : World} {g i : Nat} (h : Only F w w') (hg : g ∈ F) (u : Value) : Only F w (w'.setCell ⟨g, i, none⟩ u) := h.trans (Only.put hg)
theorem Ow.elemR {w : World} {s : Sh} {e : TypeId} {v : Value} {F : List Nat} {D : List (Dat s)} {j : Nat} (h : Ow w (.row e s) [v] D F) (hF : F.Nodup) (hj : j < D.length) :
  ∃ g n c cur es Gj, v = .slice (some ⟨g, 0, none⟩) n c ∧ D.length = n ∧ Row w g e cur ∧ j * nc s + nc s ≤ cur.size ∧ es.length = nc s ∧ (∀ i, i < nc s → cur[j * nc s + i]? = es[i]?) ∧ Ow w s es (D.getD j (dft s)) Gj ∧ Gj.Nodup ∧ g ∉ Gj ∧ (∀ k ∈ g :: Gj, k ∈ F) ∧
   ∀ (w2 : World) (es2 : List Value) (d2 : Dat s) (cur2 : Array Value), es2.length = nc s → Row w2 g e cur2 → cur2.size = cur.size → (∀ i, i < nc s → cur2[j * nc s + i]? = es2[i]?) → (∀ q, (q < j * nc s ∨ j * nc s + nc s ≤ q) → cur2[q]? = cur[q]?) → Ow w2 s es2 d2 Gj → Only (g :: Gj) w w2 →
    Ow w2 (.row e s) [v] (D.set j d2) F := by
 obtain ⟨A, n, c, e1, hl, h1⟩ := h
 injection e1 with e1
 rcases h1 with ⟨_, e2, _⟩ | ⟨g, cur, E, G, e2, hr, h2, h3, h4, h5, h6⟩
 ·omega
 subst e1 e2 h5
 rw [List.nodup_cons] at hF
 obtain ⟨q1, q2, q3⟩ := h6 j (by omega)
 have hsz : j * nc s + nc s ≤ cur.size := by
  have := Nat.mul_le_mul_right (nc s) (show j + 1 ≤ c by omega)
  rw [Nat.add_mul] at this
  omega
 refine ⟨g, n, c, cur, E j, G j, rfl, hl, hr, hsz, q1, q2, q3, nodup_part hF.2 (by omega), fun hg => hF.1 (List.mem_flatMap.2 ⟨j, List.mem_range.2 (by omega), hg⟩),
  fun k hk => ?_, fun w2 es2 d2 cur2 hl2 hr2 hs2 hp2 hc2 ho2 hon => ?_⟩
 ·rcases List.mem_cons.1 hk with hk | hk
  ·rw [hk]; exact List.mem_cons_self ..
  ·exact List.mem_cons_of_mem _ (List.mem_flatMap.2 ⟨j, List.mem_range.2 (by omega), hk⟩)
 refine ⟨_, n, c, rfl, by simpa using hl, .inr ⟨g, cur2, fun i => if i = j then es2 else E i, G, rfl, hr2, h2, h3, by rw [hs2]; exact h4, rfl, fun i hi => ?_⟩⟩
 by_cases ei : i = j
 ·subst ei
  dsimp only
  rw [if_pos rfl]
  refine ⟨hl2, hp2, ?_⟩
  have : (D.set i d2).getD i (dft s) = d2 := by simp [List.getD, hj]
  rw [this]; exact ho2
 ·dsimp only
  rw [if_neg ei]
  obtain ⟨p1, p2, p3⟩ := h6 i hi
  refine ⟨p1, fun q hq => ?_, ?_⟩
  ·have : i * nc s + q < j * nc s ∨ j * nc s + nc s ≤ i * nc s + q := by
    rcases Nat.lt_or_ge i j with h | h
    ·left
     have := Nat.mul_le_mul_right (nc s) (show i + 1 ≤ j by omega)
     rw [Nat.add_mul] at this
     omega
    ·right
     have := Nat.mul_le_mul_right (nc s) (show j + 1 ≤ i by omega)
     rw [Nat.add_mul] at this
     omega
   rw [hc2 _ this]
   exact p2 q hq
  ·have : (D.set j d2).getD i (dft s) = D.getD i (dft s) := by simp [List.getD, List.getElem?_set_ne (show j ≠ i by omega)]
   rw [this]
   refine p3.only hon fun k hk hk2 => ?_
   rcases List.mem_cons.1 hk2 with hk2 | hk2
   ·subst hk2
    exact hF.1 (List.mem_flatMap.2 ⟨i, List.mem_range.2 hi, hk⟩)
   ·exact nodup_flat hF.2 hi (by omega) ei hk hk2
def HeadHd (w : World) (s : Sh) (D : List (Dat s)) (k : Int) (kk i : Value) (wr : World) : Prop := ∃ j : Nat, j ≤ D.length ∧ i = .int .i64 j ∧ kk = .int .i64 (k + (cnts s D j : Int)) ∧ Below w.heap.size w wr
theorem headHd_zero {w : World} {s : Sh} {D : List (Dat s)} {k : Int} : HeadHd w s D k (.int .i64 k) (.int .i64 0) w := ⟨0, Nat.zero_le _, rfl, by simp [cnts], Below.refl _ _⟩
theorem headHd_step {w w2 : World} {s : Sh} {D : List (Dat s)} {k kc : Int} {j : Nat} (hj : j < D.length) (hb : Below w.heap.size w w2) (hk : k + (cnts s D j : Int) + (cnt s (D.getD j (dft s)) : Int) = kc) : HeadHd w s D k (.int .i64 kc) (.int .i64 ((j : Int) + 1)) w2 :=
 ⟨j + 1, hj, by simp, by rw [cnts_succ hj]; exact congrArg (Value.int .i64) (by omega), hb⟩
theorem headHd_end {w wr : World} {s : Sh} {e : TypeId} {D : List (Dat s)} {k : Int} {j : Nat} (hj : ¬ j < D.length) (hj' : j ≤ D.length) (hb : Below w.heap.size w wr) : AnsHeld w (k + (cntv (.row e s) D : Int)) (.returned (.int .i64 (k + (cnts s D j : Int)))) wr := by
 have e1 : j = D.length := by omega
 subst e1
 exact ⟨by rw [cnts_all rfl]; rfl, hb⟩
end shape
end
section
namespace dice
open Go.RowKit base ints cursor
def SegB (w : World) (B : Nat) (A : Option Addr) (n : Nat) : Prop :=
 0 < n → ∃ b off, A = some ⟨b, off, none⟩ ∧ b < B ∧ ∀ j, j < n → ∃ x : Int, 0 ≤ x ∧ x ≤ 255 ∧ w.cell? ⟨b, off + j, none⟩ = some (.int .u8 x)
theorem SegB.keep {w w' : World} {B : Nat} {A : Option Addr} {n : Nat} (h : SegB w B A n) (hk : ∀ p : Addr, p.block < B → w'.cell? p = w.cell? p) : SegB w' B A n := fun hn => by
 obtain ⟨b, off, e, hb, hc⟩ := h hn
 refine ⟨b, off, e, hb, fun j hj => ?_⟩
 obtain ⟨x, h0, h1, h2⟩ := hc j hj
 exact ⟨x, h0, h1, (hk ⟨b, off + j, none⟩ hb).trans h2⟩
section
variable {w w' : World} {p : Nat} {A : Option Addr} {n c i : Nat} {h : Int}
end
end dice
end
section
namespace drawSig
open Go.RowKit base ints sig cursor marks app sym dice
set_option maxRecDepth 100000
section
variable {w : World} {p : Nat} {A : Option Addr} {n c v : Nat} {wr : World} {O : Option Addr} {on oc : Nat} {xs : List Int}
end
end drawSig
end
section
namespace drawTerm
open Go.RowKit base ints sig term cursor marks app sym dice drawSig
set_option maxRecDepth 100000
def Rd (w : World) (p B : Nat) (A : Option Addr) (n : Nat) (xs : List Int) : Prop :=
 xs.length = n ∧ (0 < n → ∃ b off, A = some ⟨b, off, none⟩ ∧ b < B ∧ b ≠ p ∧ ∀ j, j < n → w.cell? ⟨b, off + j, none⟩ = some (.int .i64 (xs.getD j 0)))
theorem Rd.more {w : World} {p B B' : Nat} {A : Option Addr} {n : Nat} {xs : List Int} (h : Rd w p B A n xs) (hB : B ≤ B') : Rd w p B' A n xs :=
 ⟨h.1, fun hn => by obtain ⟨b, off, e, hb, hne, hc⟩ := h.2 hn; exact ⟨b, off, e, by omega, hne, hc⟩⟩
theorem Rd.keep {w w' : World} {p B : Nat} {A : Option Addr} {n : Nat} {xs : List Int} (h : Rd w p B A n xs) (hk : ∀ q : Addr, q.block < B → q.block ≠ p → w'.cell? q = w.cell? q) : Rd w' p B A n xs :=
 ⟨h.1, fun hn => by obtain ⟨b, off, e, hb, hne, hc⟩ := h.2 hn; exact ⟨b, off, e, hb, hne, fun j hj => (hk ⟨b, off + j, none⟩ hb hne).trans (hc j hj)⟩⟩
theorem Rd.below {w w' : World} {p B B' : Nat} {A : Option Addr} {n : Nat} {xs : List Int} (h : Rd w p B A n xs) (hb : Below B' w w') (hB : B ≤ B') : Rd w' p B A n xs :=
 h.keep fun q hq _ => hb.cell (by omega)
theorem Rd.seg {w : World} {p B : Nat} {A : Option Addr} {n : Nat} {xs : List Int} (h : Rd w p B A n xs) : Seg w B A n xs :=
 ⟨h.1, fun hn => by obtain ⟨b, off, e, hb, _, hc⟩ := h.2 hn; exact ⟨b, off, e, hb, hc⟩⟩
section
variable {w : World} {p : Nat} {A : Option Addr} {n c : Nat} {S : Option Addr} {sn sc : Nat} {sg : List Int} {wr w' : World}
end
end drawTerm
end
section
namespace drawAny
open Go.RowKit base ints sig term cursor termOk marks app sym dice drawSig drawTerm
set_option maxRecDepth 100000
theorem Own.cap {w : World} {base : Nat} {O : Option Addr} {on oc : Nat} {xs : List Int} (h : Own w base (.slice O on oc) xs) : on ≤ oc ∧ oc ≤ 9223372036854775807 := by
 rcases h.2 with ⟨e, _⟩ | ⟨g, cap, cur, e, _, _, h1, h2, _⟩
 ·injection e with _ e1 e2; omega
 ·injection e with _ e1 e2
  have := Own.len h
  unfold maxLen at h2
  omega
end drawAny
end
section
namespace drawX
open Go.RowKit base ints sig cursor marks app appAt sym segs shape dice
def RdQ (w : World) (Q : Nat → Prop) : (s : Sh) → List Value → Dat s → Prop
 | .num, cs, (x : Int) => cs = [.int .i64 x]
 | .bit, cs, (x : Bool) => cs = [.bool x]
 | .row _ s, cs, (d : List (Dat s)) => ∃ A n c, cs = [.slice A n c] ∧ Cap A n c ∧ d.length = n ∧
   (0 < n → ∃ b off, A = some ⟨b, off, none⟩ ∧ Q b ∧ ∀ j, j < n → ∃ es, es.length = nc s ∧ Piece w b (off + j * nc s) es ∧ RdQ w Q s es (d.getD j (dft s)))
 | .cat a b, cs, d => ∃ ca cb, cs = ca ++ cb ∧ RdQ w Q a ca d.1 ∧ RdQ w Q b cb d.2
section
variable {w w' : World} {Q Q' : Nat → Prop} {B : Nat}
theorem RdQ.keep (hk : ∀ b, Q b → w'.heap[b]? = w.heap[b]?) : ∀ {s : Sh} {cs : List Value} {d : Dat s}, RdQ w Q s cs d → RdQ w' Q s cs d
 | .num, _, _, h => h
 | .bit, _, _, h => h
 | .row _ s, _, _, h => by
  obtain ⟨A, n, c, e, hc, hl, h1⟩ := h
  refine ⟨A, n, c, e, hc, hl, fun hn => ?_⟩
  obtain ⟨b, off, e2, hb, h2⟩ := h1 hn
  refine ⟨b, off, e2, hb, fun j hj => ?_⟩
  obtain ⟨es, he, hp, hr⟩ := h2 j hj
  exact ⟨es, he, hp.keep (fun p hp => World.cell?_of_block (by rw [hp]; exact hk b hb)), hr.keep hk⟩
 | .cat a b, _, _, h => by
  obtain ⟨ca, cb, e, h1, h2⟩ := h
  exact ⟨ca, cb, e, h1.keep hk, h2.keep hk⟩
theorem RdQ.mono (hk : ∀ b, Q b → Q' b) : ∀ {s : Sh} {cs : List Value} {d : Dat s}, RdQ w Q s cs d → RdQ w Q' s cs d
 | .num, _, _, h => h
 | .bit, _, _, h => h
 | .row _ s, _, _, h => by
  obtain ⟨A, n, c, e, hc, hl, h1⟩ := h
  refine ⟨A, n, c, e, hc, hl, fun hn => ?_⟩
  obtain ⟨b, off, e2, hb, h2⟩ := h1 hn
  refine ⟨b, off, e2, hk b hb, fun j hj => ?_⟩
  obtain ⟨es, he, hp, hr⟩ := h2 j hj
  exact ⟨es, he, hp, hr.mono hk⟩
 | .cat a b, _, _, h => by
  obtain ⟨ca, cb, e, h1, h2⟩ := h
  exact ⟨ca, cb, e, h1.mono hk, h2.mono hk⟩
theorem RdQ.rd (hk : ∀ b, Q b → b < B) : ∀ {s : Sh} {cs : List Value} {d : Dat s}, RdQ w Q s cs d → Rd w B s cs d
 | .num, _, _, h => h
 | .bit, _, _, h => h
 | .row _ s, _, _, h => by
  obtain ⟨A, n, c, e, hc, hl, h1⟩ := h
  refine ⟨A, n, c, e, hc, hl, fun hn => ?_⟩
  obtain ⟨b, off, e2, hb, h2⟩ := h1 hn
  refine ⟨b, off, e2, hk b hb, fun j hj => ?_⟩
  obtain ⟨es, he, hp, hr⟩ := h2 j hj
  exact ⟨es, he, hp, hr.rd hk⟩
 | .cat a b, _, _, h => by
  obtain ⟨ca, cb, e, h1, h2⟩ := h
  exact ⟨ca, cb, e, h1.rd hk, h2.rd hk⟩
theorem RdQ.len : ∀ {s : Sh} {cs : List Value} {d : Dat s}, RdQ w Q s cs d → cs.length = nc s
 | .num, _, _, h => by have h : _ = _ := h; rw [h]; rfl
 | .bit, _, _, h => by have h : _ = _ := h; rw [h]; rfl
 | .row _ _, _, _, h => by obtain ⟨A, n, c, e, _⟩ := h; rw [e]; rfl
 | .cat a b, _, _, h => by
  obtain ⟨ca, cb, e, h1, h2⟩ := h
  rw [e, List.length_append, h1.len, h2.len]; rfl
theorem RdQ.cat {a b : Sh} {ca cb : List Value} {x : Dat a} {y : Dat b} (h1 : RdQ w Q a ca x) (h2 : RdQ w Q b cb y) : RdQ w Q (.cat a b) (ca ++ cb) (x, y) := ⟨ca, cb, rfl, h1, h2⟩
theorem RdQ.one : ∀ {s : Sh} {cs : List Value} {d : Dat s}, RdQ w Q s cs d → ∀ u ∈ cs, u.oneCell' = true
 | .num, _, _, h, u, hu => by have h : _ = _ := h; rw [h] at hu; rw [List.mem_singleton.1 hu]; rfl
 | .bit, _, _, h, u, hu => by have h : _ = _ := h; rw [h] at hu; rw [List.mem_singleton.1 hu]; rfl
 | .row _ _, _, _, h, u, hu => by obtain ⟨A, n, c, e, _⟩ := h; rw [e] at hu; rw [List.mem_singleton.1 hu]; rfl
 | .cat a b, _, _, h, u, hu => by
  obtain ⟨ca, cb, e, h1, h2⟩ := h
  rw [e] at hu
  rcases List.mem_append.1 hu with hu | hu
  ·exact h1.one u hu
  ·exact h2.one u hu
theorem rdq_seg {A : Option Addr} {n c : Nat} {xs : List Int} (hl : xs.length = n) (hc : Cap A n c) (h : 0 < n → ∃ b off, A = some ⟨b, off, none⟩ ∧ Q b ∧ ∀ j, j < n → w.cell? ⟨b, off + j, none⟩ = some (.int .i64 (xs.getD j 0))) : RdQ w Q sI [.slice A n c] xs := by
 refine ⟨A, n, c, rfl, hc, hl, fun hn => ?_⟩
 obtain ⟨b, off, e2, hb, h2⟩ := h hn
 refine ⟨b, off, e2, hb, fun j hj => ⟨[.int .i64 (xs.getD j 0)], rfl, fun i hi => ?_, rfl⟩⟩
 have hi : i = 0 := by simpa using hi
 subst hi
 show w.cell? ⟨b, off + j * 1 + 0, none⟩ = some (.int .i64 (xs.getD j 0))
 rw [Nat.mul_one, Nat.add_zero]
 exact h2 j hj
theorem rdq_own {lo : Nat} {A : Option Addr} {n c : Nat} {xs : List Int} (h : Own w lo (.slice A n c) xs) (hQ : ∀ b, lo ≤ b → b < w.heap.size → blk A = some b → Q b) : RdQ w Q sI [.slice A n c] xs := by
 have hl := Own.len h
 refine rdq_seg hl.symm (Go.Proofs.Ytblhmplpcdcejaa.kinds.Ownd.cap (Go.Proofs.Ytblhmplpcdcejaa.kinds.Ownd.of_own h)) fun hn => ?_
 obtain ⟨b, off, e, hb, hc⟩ := (Own.seg h).2 hn
 have hk : blk A = some b := by rw [e]; rfl
 exact ⟨b, off, e, hQ b (World.ownsRow.lt h b (by rw [blk_own]; exact hk)).1 hb hk, hc⟩
end
def Out (w : World) (p : Nat) (b : Nat) : Prop := b < w.heap.size ∧ b ≠ p
def OutR (w : World) (p : Nat) (r : Option Nat) (b : Nat) : Prop := b < w.heap.size ∧ b ≠ p ∧ some b ≠ r
section
variable {w w' : World} {p : Nat} {r : Option Nat} {s : Sh} {cs : List Value} {d : Dat s}
end
def cellsOf (k : Nat) (vs : List Value) (j : Nat) : List Value := (vs.drop (j * k)).take k
def OwnQ (w : World) (p lo : Nat) (e : TypeId) (s : Sh) (A : Option Addr) (n c : Nat) (D : List (Dat s)) : Prop :=
 D.length = n ∧ ∃ vs : List Value, w.ownsRow lo e (nc s) (.slice A n c) n vs ∧ ∀ j, j < n → RdQ w (OutR w p (blk A)) s (cellsOf (nc s) vs j) (D.getD j (dft s))
section
variable {w w' : World} {p lo n c : Nat} {e : TypeId} {s : Sh} {A : Option Addr} {D : List (Dat s)}
theorem OwnQ.nil (w : World) (p lo : Nat) (e : TypeId) (s : Sh) : OwnQ w p lo e s none 0 0 [] := ⟨rfl, [], ⟨by simp, .inl ⟨rfl, rfl⟩⟩, fun j hj => absurd hj (Nat.not_lt_zero _)⟩
end
end drawX
end
section
namespace ownL
open Go.RowKit base ints sig cursor marks app appAt sym segs shape drawX
set_option maxRecDepth 100000
theorem Ow.one {w : World} : ∀ {s : Sh} {cs : List Value} {d : Dat s} {F : List Nat}, Ow w s cs d F → ∀ u ∈ cs, u.oneCell' = true
 | .num, _, _, _, h, u, hu => by have h : _ = _ ∧ _ := h; rw [h.1] at hu; rw [List.mem_singleton.1 hu]; rfl
 | .bit, _, _, _, h, u, hu => by have h : _ = _ ∧ _ := h; rw [h.1] at hu; rw [List.mem_singleton.1 hu]; rfl
 | .row _ _, _, _, _, h, u, hu => by obtain ⟨A, n, c, e, _⟩ := h; rw [e] at hu; rw [List.mem_singleton.1 hu]; rfl
 | .cat a b, _, _, _, h, u, hu => by
  obtain ⟨ca, cb, Fa, Fb, e, _, h1, h2⟩ := h
  rw [e] at hu
  rcases List.mem_append.1 hu with hu | hu
  ·exact Ow.one h1 u hu
  ·exact Ow.one h2 u hu
def OwnL (w : World) (lo hi : Nat) (e : TypeId) (s : Sh) (A : Option Addr) (n c : Nat) (D : List (Dat s)) : Prop :=
 D.length = n ∧ (∀ k, blk A = some k → k < hi) ∧ ∃ (vs : List Value) (G : Nat → List Nat), w.ownsRow lo e (nc s) (.slice A n c) n vs ∧ (A = none → c = 0) ∧ ((List.range n).flatMap G).Nodup ∧
  ∀ j, j < n → Ow w s (cellsOf (nc s) vs j) (D.getD j (dft s)) (G j) ∧ ∀ q ∈ G j, lo ≤ q ∧ q < hi ∧ some q ≠ blk A
section
variable {w w' : World} {lo hi n c : Nat} {e : TypeId} {s : Sh} {A : Option Addr} {D : List (Dat s)}
theorem OwnL.nil (w : World) (lo hi : Nat) (e : TypeId) (s : Sh) : OwnL w lo hi e s none 0 0 [] := ⟨rfl, (fun k hk => by cases hk), [], fun _ => [], ⟨by simp, .inl ⟨rfl, rfl⟩⟩, fun _ => rfl, by simp, fun j hj => absurd hj (Nat.not_lt_zero _)⟩
theorem OwnL.empty (w : World) {lo hi : Nat} (e : TypeId) (s : Sh) (h : lo ≤ w.heap.size) (h2 : w.heap.size < hi) : OwnL (w.alloc (.cells #[] e)) lo hi e s (some ⟨w.heap.size, 0, none⟩) 0 0 [] :=
 ⟨rfl, (fun k hk => by injection hk with hk; rw [← hk]; exact h2), [], fun _ => [], ⟨by simp, .inr ⟨w.heap.size, 0, #[], rfl, h, heap_alloc_new w _, Nat.le_refl _, by decide, by simp, by simp⟩⟩, (fun e => by cases e), by simp, fun j hj => absurd hj (Nat.not_lt_zero _)⟩
theorem OwnL.keep (h : OwnL w lo hi e s A n c D) (hk : ∀ k, lo ≤ k → k < hi → k < w.heap.size → w'.heap[k]? = w.heap[k]?) (hs : w.heap.size ≤ w'.heap.size) : OwnL w' lo hi e s A n c D := by
 obtain ⟨h1, h2, vs, G, h3, h4, h5, h6⟩ := h
 refine ⟨h1, h2, vs, G, ?_, h4, h5, fun j hj => ⟨(h6 j hj).1.keep fun q hq => ?_, (h6 j hj).2⟩⟩
 ·refine ⟨h3.1, ?_⟩
  rcases h3.2 with q | ⟨g, cap, cur, e1, hg, hr, q⟩
  ·exact .inl q
  ·have hlt := (Array.getElem?_eq_some_iff.1 hr).1
   injection e1 with e2 e3 e4
   exact .inr ⟨g, cap, cur, by rw [e2, e4], hg, (hk g hg (h2 g (by rw [e2]; rfl)) hlt).trans hr, q⟩
 ·have := (h6 j hj).2 q hq
  exact hk q this.1 this.2.1 ((h6 j hj).1.lt q hq)
theorem OwnL.next (h : OwnL w lo hi e s A n c D) (hb : Below w.heap.size w w') : OwnL w' lo hi e s A n c D := h.keep (fun k _ _ hk => hb.block k hk) hb.size
theorem OwnL.btw {lo' hi' : Nat} (h : OwnL w lo hi e s A n c D) (hb : Btw lo' hi' w w') (ho : hi ≤ lo' ∨ hi' ≤ lo) : OwnL w' lo hi e s A n c D := h.keep (fun k h1 h2 hk => hb.block k hk (by omega)) hb.size
theorem OwnL.wider {lo' hi' : Nat} (h : OwnL w lo hi e s A n c D) (h1 : lo' ≤ lo) (h2 : hi ≤ hi') : OwnL w lo' hi' e s A n c D := by
 obtain ⟨q1, q2, vs, G, q3, q4, q5, q6⟩ := h
 refine ⟨q1, fun k hk => Nat.lt_of_lt_of_le (q2 k hk) h2, vs, G, ⟨q3.1, ?_⟩, q4, q5, fun j hj => ⟨(q6 j hj).1, fun q hq => ?_⟩⟩
 ·rcases q3.2 with q | ⟨g, cap, cur, e1, hg, q⟩
  ·exact .inl q
  ·exact .inr ⟨g, cap, cur, e1, by omega, q⟩
 ·have := (q6 j hj).2 q hq
  exact ⟨by omega, by omega, this.2.2⟩
theorem OwnL.ge (h : OwnL w lo hi e s A n c D) : ∀ k, blk A = some k → lo ≤ k ∧ k < w.heap.size := fun k hk => by
 obtain ⟨_, _, vs, G, ho, _⟩ := h
 exact World.ownsRow.lt ho k (by rw [blk_own]; exact hk)
theorem OwnL.owned (h : OwnL w lo hi e s A n c D) : Owned w lo hi (.row e s) [.slice A n c] D := by
 obtain ⟨h1, h2, vs, G, h3, h4, h5, h6⟩ := h
 rcases h3.2 with ⟨e1, h0⟩ | ⟨g, cap, cur, e1, hg, hrow, hn, hm, hs, ht⟩
 ·injection e1 with a1 a2 a3
  subst a1 a2 a3
  exact ⟨[], ⟨none, 0, 0, rfl, h1, .inl ⟨rfl, rfl, rfl, rfl⟩⟩, by simp, fun k hk => by cases hk⟩
 ·injection e1 with a1 a2 a3
  subst a1 a3
  have hl : vs.length = n * nc s := h3.1
  refine ⟨g :: (List.range n).flatMap G, ⟨_, n, c, rfl, h1, .inr ⟨g, cur, cellsOf (nc s) vs, G, rfl, hrow, hn, by unfold maxLen at hm; omega, hs, rfl, fun j hj => ?_⟩⟩, List.nodup_cons.2 ⟨fun hb => ?_, h5⟩, fun k hk => ?_⟩
  ·have hjn : j * nc s + nc s ≤ n * nc s := by
    have := Nat.mul_le_mul_right (nc s) (show j + 1 ≤ n by omega)
    rw [Nat.add_mul] at this
    omega
   refine ⟨(h6 j hj).1.len, fun i hi => ?_, (h6 j hj).1⟩
   have h7 : cur.toList[j * nc s + i]? = vs[j * nc s + i]? := by rw [← ht, List.getElem?_take, if_pos (by omega)]
   rw [← Array.getElem?_toList, h7]
   unfold cellsOf
   rw [List.getElem?_take, if_pos hi, List.getElem?_drop]
  ·obtain ⟨j, hj, hb⟩ := List.mem_flatMap.1 hb
   exact ((h6 j (List.mem_range.1 hj)).2 g hb).2.2 rfl
  ·rcases List.mem_cons.1 hk with hk | hk
   ·rw [hk]; exact ⟨hg, h2 g rfl⟩
   ·obtain ⟨j, hj, hb⟩ := List.mem_flatMap.1 hk
    have := (h6 j (List.mem_range.1 hj)).2 k hb
    exact ⟨this.1, this.2.1⟩
theorem OwnL.rd (h : OwnL w lo hi e s A n c D) : Rd w w.heap.size (.row e s) [.slice A n c] D := h.owned.rd
theorem cells_left {k n j : Nat} {vs es : List Value} (hl : vs.length = n * k) (hj : j < n) : cellsOf k (vs ++ es) j = cellsOf k vs j := by
 have hjn : j * k + k ≤ n * k := by
  have := Nat.mul_le_mul_right k (show j + 1 ≤ n by omega)
  rw [Nat.add_mul] at this
  omega
 unfold cellsOf
 rw [List.drop_append_of_le_length (by omega), List.take_append_of_le_length (by rw [List.length_drop]; omega)]
theorem cells_right {k n j : Nat} {vs es : List Value} (hl : vs.length = n * k) : cellsOf k (vs ++ es) (n + j) = cellsOf k es j := by
 unfold cellsOf
 rw [show (n + j) * k = vs.length + j * k by rw [hl, Nat.add_mul], ← List.drop_drop, List.drop_left]
theorem flat_range {G H : Nat → List Nat} : ∀ {n m : Nat}, (List.range (n + m)).flatMap (fun j => if j < n then G j else H (j - n)) = (List.range n).flatMap G ++ (List.range m).flatMap H
 | n, 0 => by
  simp only [Nat.add_zero, List.range_zero, List.flatMap_nil, List.append_nil]
  rw [List.flatMap_def, List.flatMap_def]
  congr 1
  exact List.map_congr_left fun j hj => if_pos (List.mem_range.1 hj)
 | n, m + 1 => by
  rw [← Nat.add_assoc, List.range_succ, List.flatMap_append, flat_range, List.range_succ, List.flatMap_append]
  simp
  intro h; omega
theorem ownL_app {mid hi2 m : Nat} {vs es : List Value} {G : Nat → List Nat} {E : List (Dat s)} {H : Nat → List Nat} {A' : Option Addr} {c' : Nat} (h1 : D.length = n) (h2 : ∀ k, blk A = some k → k < hi) (h3 : w.ownsRow lo e (nc s) (.slice A n c) n vs) (h5 : ((List.range n).flatMap G).Nodup)
  (h6 : ∀ j, j < n → Ow w s (cellsOf (nc s) vs j) (D.getD j (dft s)) (G j) ∧ ∀ q ∈ G j, lo ≤ q ∧ q < hi ∧ some q ≠ blk A) (hmid : hi ≤ mid) (hlo : lo ≤ mid)
  (hE : E.length = m) (hn : ((List.range m).flatMap H).Nodup) (hin : ∀ j, j < m → Ow w s (cellsOf (nc s) es j) (E.getD j (dft s)) (H j) ∧ ∀ q ∈ H j, mid ≤ q ∧ q < hi2)
  (hown : w'.ownsRow lo e (nc s) (.slice A' (n + m) c') (n + m) (vs ++ es)) (hg : w.grownBy w' (blk A)) (hat : blk A' = blk A ∨ blk A' = some w.heap.size) (hc' : A' = none → c' = 0) : OwnL w' lo w'.heap.size e s A' (n + m) c' (D ++ E) := by
 have hvl : vs.length = n * nc s := h3.1
 have hA' : ∀ k, blk A' = some k → k < w'.heap.size := fun k hk => (World.ownsRow.lt hown k (by rw [blk_own]; exact hk)).2
 refine ⟨by simp [h1, hE], hA', vs ++ es, fun j => if j < n then G j else H (j - n), hown, hc', ?_, fun j hj => ?_⟩
 ·rw [flat_range]
  refine List.nodup_append.2 ⟨h5, hn, fun x hx y hy e => ?_⟩
  obtain ⟨i, hi', hx⟩ := List.mem_flatMap.1 hx
  obtain ⟨j, hj', hy⟩ := List.mem_flatMap.1 hy
  have q1 := (h6 i (List.mem_range.1 hi')).2 x hx
  have q2 := (hin j (List.mem_range.1 hj')).2 y hy
  omega
 ·dsimp only
  by_cases ej : j < n
  ·rw [if_pos ej, cells_left hvl ej, show (D ++ E).getD j (dft s) = D.getD j (dft s) by simp [List.getD, List.getElem?_append_left (show j < D.length by omega)]]
   obtain ⟨o1, o2⟩ := h6 j ej
   refine ⟨o1.keep fun q hq => hg.block q (o1.lt q hq) (fun e => (o2 q hq).2.2 e), fun q hq => ?_⟩
   have q3 := o2 q hq
   refine ⟨q3.1, Nat.lt_of_lt_of_le (o1.lt q hq) hg.size, ?_⟩
   rcases hat with e2 | e2
   ·rw [e2]; exact q3.2.2
   ·rw [e2]; intro e3; injection e3 with e3; have := o1.lt q hq; omega
  ·obtain ⟨i, rfl⟩ : ∃ i, j = n + i := ⟨j - n, by omega⟩
   have hi' : i < m := by omega
   rw [if_neg ej, cells_right hvl, show n + i - n = i by omega, show (D ++ E).getD (n + i) (dft s) = E.getD i (dft s) by simp [List.getD, List.getElem?_append_right (show D.length ≤ n + i by omega), h1]]
   obtain ⟨o1, o2⟩ := hin i hi'
   have hne : ∀ q ∈ H i, some q ≠ blk A := fun q hq e => by
    have := h2 q e.symm
    have := o2 q hq
    omega
   refine ⟨o1.keep fun q hq => hg.block q (o1.lt q hq) (fun e => hne q hq e), fun q hq => ?_⟩
   have q3 := o2 q hq
   refine ⟨by omega, Nat.lt_of_lt_of_le (o1.lt q hq) hg.size, ?_⟩
   rcases hat with e2 | e2
   ·rw [e2]; exact hne q hq
   ·rw [e2]; intro e3; injection e3 with e3; have := o1.lt q hq; omega
end
theorem OwnL.single {w : World} {lo hi g : Nat} {e : TypeId} {s : Sh} {es : List Value} {y : Dat s} (hr : Row w g e es.toArray) (ho : Owned w lo hi s es y) (hg : hi ≤ g) (hlo : lo ≤ g) : OwnL w lo (g + 1) e s (some ⟨g, 0, none⟩) 1 1 [y] := by
 obtain ⟨F, hF, hFn, hFb⟩ := ho
 have hel := hF.len
 refine ⟨rfl, fun k hk => by injection hk with hk; have hk : g = k := hk; omega, es, fun _ => F, ⟨by rw [hel]; simp, .inr ⟨g, 1, es.toArray, rfl, hlo, hr, Nat.le_refl _, by unfold maxLen; omega, by simp [hel], by simp [← hel]⟩⟩, (fun e => by cases e), by simpa using hFn, fun j hj => ?_⟩
 obtain rfl : j = 0 := by omega
 refine ⟨?_, fun q hq => ?_⟩
 ·have : cellsOf (nc s) es 0 = es := by unfold cellsOf; rw [Nat.zero_mul, List.drop_zero, List.take_of_length_le (by omega)]
  rw [this]; exact hF
 ·have := hFb q hq
  refine ⟨this.1, by omega, fun e => ?_⟩
  injection e with e
  have e : q = g := e
  omega
theorem run_appL {w : World} (ty T e : TypeId) (s : Sh) (z : Value) (bytes : Nat) (hT : Try.prog.underlying T = some (.slice e))
  (hI : (Try.prog.info? e).map (fun i => (i.zero, i.size, i.bytes)) = some (some z, nc s, bytes)) (hzc : z.cells.size = nc s) (hby : bytes ≤ 4096)
  (lo hi mid hi2 : Nat) (A : Option Addr) (n c g m c2 : Nat) (D E : List (Dat s)) (hown : OwnL w lo hi e s A n c D) (hx : OwnL w mid hi2 e s (some ⟨g, 0, none⟩) m c2 E) (hmid : hi ≤ mid) (hlm : lo ≤ mid) (hn : n ≤ 1048576) (hm : m ≤ 1048576) (hlo : lo ≤ w.heap.size) :
  ∃ A' c' w', (Builtin.append_ #[T, T] ty #[.slice A n c, .slice (some ⟨g, 0, none⟩) m c2]).run Try.prog w = .ok (.slice A' (n + m) c') w' ∧ OwnL w' lo w'.heap.size e s A' (n + m) c' (D ++ E) ∧ w.grownBy w' (blk A) ∧ (blk A' = blk A ∨ blk A' = some w.heap.size) ∧ Below lo w w' ∧ (A ≠ none ∨ 0 < m → ∃ g', A' = some ⟨g', 0, none⟩) := by
 obtain ⟨i0, hi', hz0, hz1, hz2⟩ := info_parts hI
 obtain ⟨h1, h2, vs, G, hr, h4, h5, h6⟩ := hown
 obtain ⟨k1, k2, us, H, kr, k4, k5, k6⟩ := hx
 have hul : us.length = m * nc s := kr.1
 have hone : ∀ u ∈ us, u.oneCell' = true := fun u hu => by
  obtain ⟨i, hi2, rfl⟩ := List.getElem_of_mem hu
  have hnp := nc_pos s
  have hj : i / nc s < m := by rw [Nat.div_lt_iff_lt_mul hnp]; omega
  refine Ow.one (k6 (i / nc s) hj).1 _ ?_
  unfold cellsOf
  have hdm : i / nc s * nc s + i % nc s = i := by rw [Nat.mul_comm]; exact Nat.div_add_mod i (nc s)
  have hmod := Nat.mod_lt i hnp
  refine List.mem_of_getElem? (i := i % nc s) ?_
  rw [List.getElem?_take, if_pos hmod, List.getElem?_drop, hdm]
  exact List.getElem?_eq_getElem hi2
 have hcells : ∀ j u, us[j]? = some u → w.cell? ((⟨g, 0, none⟩ : Addr).add j) = some u := fun j u hj => by
  have e2 : (⟨g, 0, none⟩ : Addr).add j = ⟨g, j, none⟩ := by unfold Addr.add; split <;> simp_all
  rw [e2]
  rcases kr.2 with ⟨e1, _⟩ | ⟨g', cap, cur, e1, _, hrow, _, _, _, ht⟩
  ·cases e1
  ·injection e1 with a1 a2 a3
   injection a1 with a1
   injection a1 with a1
   subst a1
   rw [Row.cell (t := e) (cs := cur) hrow, ← Array.getElem?_toList]
   have hjl := (List.getElem?_eq_some_iff.1 hj).1
   rw [← ht, List.getElem?_take, if_pos (by omega)] at hj
   exact hj
 obtain ⟨v', w', hrun, hown', hg, hnn, hat⟩ := run_append_own_at (P := Try.prog) w lo T ty e i0 z (nc s) bytes hT hi' hz0 hz1 hz2 hzc (nc_pos s) (.slice A n c) n vs hr ⟨g, 0, none⟩ m c2 us hul hcells hone (by unfold maxLen; omega) (by have h1 : (n + m) * bytes ≤ 2097152 * 4096 := Nat.mul_le_mul (by omega) hby; omega) hlo
 rw [blk_own] at hg
 have hform : ∃ A' c', v' = .slice A' (n + m) c' ∧ (A' = none → c' = 0) ∧ (A ≠ none ∨ 0 < m → ∃ g', A' = some ⟨g', 0, none⟩) := by
  rcases hown'.2 with ⟨e1, h0⟩ | ⟨g', cap, cur, e1, _⟩
  ·refine ⟨none, 0, by rw [e1, h0], fun _ => rfl, fun hh => ?_⟩
   have := (hnn.1 e1)
   rcases hh with hh | hh
   ·exact absurd (by have := this.1; injection this) hh
   ·omega
  ·exact ⟨_, _, e1, (fun e => by cases e), fun _ => ⟨g', rfl⟩⟩
 obtain ⟨A', c', rfl, hc', hf⟩ := hform
 rw [blk_own, blk_own] at hat
 exact ⟨A', c', w', hrun, ownL_app (hi2 := hi2) (H := H) h1 h2 hr h5 h6 hmid hlm k1 k5 (fun j hj => ⟨(k6 j hj).1, fun q hq => ⟨((k6 j hj).2 q hq).1, ((k6 j hj).2 q hq).2.1⟩⟩) hown' hg hat hc', hg, hat, (Below.refl lo w).grown hg hlo (fun k hk => (World.ownsRow.lt hr k (by rw [blk_own]; exact hk)).1), hf⟩
theorem wp_appL {w : World} {o : Oper} {a : Act} {K : Act → World → Prop} {Q : Exit → Act → World → Prop} (sx x : Operand) (T e : TypeId) (s : Sh) (z : Value) (bytes : Nat) (hT : Try.prog.underlying T = some (.slice e))
  (hI : (Try.prog.info? e).map (fun i => (i.zero, i.size, i.bytes)) = some (some z, nc s, bytes)) (hzc : z.cells.size = nc s) (hby : bytes ≤ 4096)
  (ho : o.op = .call { callee := .builtin .append, args := #[sx, x], argTypes := #[T, T] })
  (lo hi mid hi2 : Nat) (A : Option Addr) (n c g m c2 : Nat) (D E : List (Dat s)) (hs : a.eval sx = .slice A n c) (hown : OwnL w lo hi e s A n c D) (hxv : a.eval x = .slice (some ⟨g, 0, none⟩) m c2) (hx : OwnL w mid hi2 e s (some ⟨g, 0, none⟩) m c2 E) (hmid : hi ≤ mid) (hlm : lo ≤ mid) (hn : n ≤ 1048576) (hm : m ≤ 1048576) (hlo : lo ≤ w.heap.size)
  (h : ∀ A' c' w', OwnL w' lo w'.heap.size e s A' (n + m) c' (D ++ E) → w.grownBy w' (blk A) → (blk A' = blk A ∨ blk A' = some w.heap.size) → Below lo w w' → (A ≠ none ∨ 0 < m → ∃ g', A' = some ⟨g', 0, none⟩) → K (a.put o.dst (.slice A' (n + m) c')) w') : o.wp Try.prog a w K Q := by
 obtain ⟨A', c', w', hr, h2, h3, h4, h5, h6⟩ := run_appL o.type T e s z bytes hT hI hzc hby lo hi mid hi2 A n c g m c2 D E hown hx hmid hlm hn hm hlo
 unfold Oper.wp execOp
 simp only [ho, resolve, invoke, builtin, Sem.run_bind, Sem.run_pure, Result.andThen_ok, List.map_toArray, List.map_cons, List.map_nil, hs, hxv, hr]
 exact h A' c' w' h2 h3 h4 h5 h6
theorem appLm {w : World} {ops : Array Oper} {rest : List Oper} {o : Oper} {a : Act} {Q : Exit → Act → World → Prop} (hgd : o.guard = none) (sx x : Operand) (T e : TypeId) (s : Sh) (z : Value) (bytes : Nat) (hT : Try.prog.underlying T = some (.slice e))
  (hI : (Try.prog.info? e).map (fun i => (i.zero, i.size, i.bytes)) = some (some z, nc s, bytes)) (hzc : z.cells.size = nc s) (hby : bytes ≤ 4096)
  (ho : o.op = .call { callee := .builtin .append, args := #[sx, x], argTypes := #[T, T] })
  (lo hi mid hi2 : Nat) (A : Option Addr) (n c g m c2 : Nat) (D E : List (Dat s)) (hs : a.eval sx = .slice A n c) (hown : OwnL w lo hi e s A n c D) (hxv : a.eval x = .slice (some ⟨g, 0, none⟩) m c2) (hx : OwnL w mid hi2 e s (some ⟨g, 0, none⟩) m c2 E) (hmid : hi ≤ mid) (hlm : lo ≤ mid) (hn : n ≤ 1048576) (hm : m ≤ 1048576) (hlo : lo ≤ w.heap.size)
  (h : ∀ A' c' w', OwnL w' lo w'.heap.size e s A' (n + m) c' (D ++ E) → w.grownBy w' (blk A) → (blk A' = blk A ∨ blk A' = some w.heap.size) → Below lo w w' → (A ≠ none ∨ 0 < m → ∃ g', A' = some ⟨g', 0, none⟩) → wpList Try.prog ops Q rest (a.put o.dst (.slice A' (n + m) c')) w') : wpList Try.prog ops Q (o :: rest) a w :=
 wpList_plain hgd fun _ hK => wp_appL sx x T e s z bytes hT hI hzc hby ho lo hi mid hi2 A n c g m c2 D E hs hown hxv hx hmid hlm hn hm hlo fun A' c' w' h1 h2 h3 h4 h5 => hK _ _ (h A' c' w' h1 h2 h3 h4 h5)
end ownL
end
section
namespace heldT
section
variable {P : Program} {md : Region.Mode} {ops : Array Oper} {Q : Exit → Act → World → Prop} {S : World → Prop} {late : Nat → Bool}
def AnyT (P : Program) (md : Region.Mode) (ops : Array Oper) (Q : Exit → Act → World → Prop) (S : World → Prop) (late : Nat → Bool) : Nat → Array Bool → Act → World → Prop
 | 0, listed, a, w => Region.ready md ops listed = [] ∧ Q .normal a w
 | fuel + 1, listed, a, w => (Region.ready md ops listed = [] → Q .normal a w) ∧
  ∀ i ∈ Region.ready md ops listed, wpOp P ops Q i (fun a' w' => (late i = false → S w → S w') ∧ AnyT P md ops Q S late fuel (listed.setIfInBounds i true) a' w') a w
theorem AnyT.any : ∀ (fuel : Nat) (listed : Array Bool) (a : Act) (w : World), AnyT P md ops Q S late fuel listed a w → wpAny P md ops Q fuel listed a w
 | 0, _, _, _, h => h
 | fuel + 1, _, _, _, h => ⟨h.1, fun i hi => wpOp_mono (fun a' w' h' => AnyT.any fuel _ a' w' h'.2) (h.2 i hi)⟩
def Waits (md : Region.Mode) (ops : Array Oper) (late : Nat → Bool) (listed : Array Bool) (i : Nat) : Prop :=
 ∀ j o, ops[j]? = some o → late j = true → listed.getD j true = false → ∃ e ∈ o.after, Region.binds md e = true ∧ e.on = i
def waitsB (md : Region.Mode) (ops : Array Oper) (late : Nat → Bool) (listed : Array Bool) (i : Nat) : Bool :=
 (List.range ops.size).all fun j => !late j || listed.getD j true || ((ops[j]?).map fun o => o.after.any fun e => Region.binds md e && e.on == i).getD false
theorem waits_of {listed : Array Bool} {i : Nat} (h : waitsB md ops late listed i = true) : Waits md ops late listed i := by
 intro j o ho hl hu
 have hj : j < ops.size := by
  rcases Nat.lt_or_ge j ops.size with h' | h'
  ·exact h'
  ·rw [Array.getElem?_eq_none h'] at ho; cases ho
 have := List.all_eq_true.1 h j (List.mem_range.2 hj)
 rw [hl, hu, ho] at this
 simp only [Bool.not_true, Bool.false_or, Option.map_some, Option.getD_some, Array.any_eq_true', Bool.and_eq_true, beq_iff_eq] at this
 exact this
theorem AnyT.first {i : Nat} {oi : Oper} {v : Value} (hi : ops[i]? = some oi) (hsel : ∀ (j : Nat) (o : Oper) cs b, ops[j]? = some o → o.op ≠ .select cs b) (hQ : ∀ c a w, Q (.panic c) (a.put oi.dst v) w → Q (.panic c) a w) :
  ∀ (fuel : Nat) (listed : Array Bool) (a : Act) (w : World),
   (∀ j oj, ops[j]? = some oj → j ≠ i → listed.getD j true = false → (∀ e ∈ oj.after, Region.binds md e = true → e.on ≠ i) → oi.apart ops oj = true) → Waits md ops late listed i →
   i ∈ Region.ready md ops listed → YieldsIf P ops S oi v a → S w → AnyT P md ops Q S late fuel (listed.setIfInBounds i true) (a.put oi.dst v) w → AnyT P md ops Q S late (fuel + 1) listed a w := by
 intro fuel
 induction fuel with
 | zero =>
  intro listed a w _ _ hr hy hS H
  refine ⟨fun h => (by rw [h] at hr; cases hr), fun j hj => ?_⟩
  rcases Classical.em (j = i) with e | e
  ·subst e; exact hy.wpOp hi hS ⟨fun _ h => h, H⟩
  ·have := ready_mono hj e
   rw [H.1] at this
   cases this
 | succ fuel ih =>
  intro listed a w hfree hwait hr hy hS H
  refine ⟨fun h => (by rw [h] at hr; cases hr), fun j hj => ?_⟩
  rcases Classical.em (j = i) with e | hji
  ·subst e; exact hy.wpOp hi hS ⟨fun _ h => h, H⟩
  have h1 := H.2 j (ready_mono hj hji)
  obtain ⟨hjun, oj, hoj, hall⟩ := mem_ready.1 hj
  have h0 := (mem_ready.1 hr).1
  have hnot : ∀ e ∈ oj.after, Region.binds md e = true → e.on ≠ i := fun e he hb heq => by
   have h1 := hall e he hb
   rw [heq] at h1
   rcases Nat.lt_or_ge i listed.size with h' | h'
   ·simp [h'] at h0 h1; rw [h0] at h1; cases h1
   ·simp [Array.getElem?_eq_none h'] at h1
  have hlj : late j = false := by
   cases e : late j with
   | false => rfl
   | true =>
    obtain ⟨x, hx, hb, ho⟩ := hwait j oj hoj e hjun
    exact absurd ho (hnot x hx hb)
  have far : ∀ {k : Nat}, j ≠ k → (listed.setIfInBounds j true).getD k true = false → listed.getD k true = false := fun hjk h => by rwa [getD_set_ne true hjk] at h
  have same : ∀ {k : Nat}, k = j → listed.getD k true = false := fun e => by rw [e]; exact hjun
  have un : ∀ (k : Nat), (listed.setIfInBounds j true).getD k true = false → listed.getD k true = false := fun k h => by
   rcases Classical.em (k = j) with e | e
   ·exact same e
   ·exact far (fun e' => e e'.symm) h
  have h2 := wpOp_putIf hoj (hfree j oj hoj hji hjun hnot) (fun cs b => hsel i oi cs b hi) (fun cs b => hsel j oj cs b hoj) hQ hy h1
  refine wpOp_mono (fun a' w' h3 => ⟨h3.2.1, ih (listed.setIfInBounds j true) a' w' (fun k ok hk hki hun hno => hfree k ok hk hki (un k hun) hno) (fun k o hk hl hu => hwait k o hk hl (un k hu)) (ready_mono hr (Ne.symm hji)) h3.1 (h3.2.1 hlj hS) ?_⟩) h2
  rw [Array.setIfInBounds_comm _ _ hji]
  exact h3.2.2
theorem AnyT.take {i : Nat} {oi : Oper} {v : Value} {fuel : Nat} {listed : Array Bool} {a : Act} {w : World} (hi : ops[i]? = some oi) (hs : Region.noSelect ops = true) (hf : Region.free md ops listed i = true) (hw : waitsB md ops late listed i = true) (hr : (Region.ready md ops listed).contains i = true)
  (hQ : ∀ c a w, Q (.panic c) (a.put oi.dst v) w → Q (.panic c) a w) (hy : YieldsIf P ops S oi v a) (hS : S w) (h : AnyT P md ops Q S late fuel (listed.setIfInBounds i true) (a.put oi.dst v) w) : AnyT P md ops Q S late (fuel + 1) listed a w :=
 AnyT.first hi (Region.noSelect_spec hs) hQ fuel listed a w (Region.free_spec hi hf) (waits_of hw) (by simpa using hr) hy hS h
theorem AnyT.firstA {i : Nat} {oi : Oper} {v : Value} (hi : ops[i]? = some oi) (hsel : ∀ (j : Nat) (o : Oper) cs b, ops[j]? = some o → o.op ≠ .select cs b) (hQ : ∀ c a w, Q (.panic c) (a.put oi.dst v) w → Q (.panic c) a w) :
  ∀ (fuel : Nat) (listed : Array Bool) (a : Act) (w : World),
   (∀ j oj, ops[j]? = some oj → j ≠ i → listed.getD j true = false → (∀ e ∈ oj.after, Region.binds md e = true → e.on ≠ i) → oi.apart ops oj = true) →
   i ∈ Region.ready md ops listed → YieldsIf P ops (fun _ => True) oi v a → AnyT P md ops Q S late fuel (listed.setIfInBounds i true) (a.put oi.dst v) w → AnyT P md ops Q S late (fuel + 1) listed a w := by
 intro fuel
 induction fuel with
 | zero =>
  intro listed a w _ hr hy H
  refine ⟨fun h => (by rw [h] at hr; cases hr), fun j hj => ?_⟩
  rcases Classical.em (j = i) with e | e
  ·subst e; exact hy.wpOp hi trivial ⟨fun _ h => h, H⟩
  ·have := ready_mono hj e
   rw [H.1] at this
   cases this
 | succ fuel ih =>
  intro listed a w hfree hr hy H
  refine ⟨fun h => (by rw [h] at hr; cases hr), fun j hj => ?_⟩
  rcases Classical.em (j = i) with e | hji
  ·subst e; exact hy.wpOp hi trivial ⟨fun _ h => h, H⟩
  have h1 := H.2 j (ready_mono hj hji)
  obtain ⟨hjun, oj, hoj, hall⟩ := mem_ready.1 hj
  have h0 := (mem_ready.1 hr).1
  have hnot : ∀ e ∈ oj.after, Region.binds md e = true → e.on ≠ i := fun e he hb heq => by
   have h1 := hall e he hb
   rw [heq] at h1
   rcases Nat.lt_or_ge i listed.size with h' | h'
   ·simp [h'] at h0 h1; rw [h0] at h1; cases h1
   ·simp [Array.getElem?_eq_none h'] at h1
  have un : ∀ (k : Nat), (listed.setIfInBounds j true).getD k true = false → listed.getD k true = false := fun k h => by
   rcases Classical.em (k = j) with e | e
   ·rw [e]; exact hjun
   ·rwa [getD_set_ne true (fun e' => e e'.symm)] at h
  have h2 := wpOp_putIf hoj (hfree j oj hoj hji hjun hnot) (fun cs b => hsel i oi cs b hi) (fun cs b => hsel j oj cs b hoj) hQ hy h1
  refine wpOp_mono (fun a' w' h3 => ⟨h3.2.1, ih (listed.setIfInBounds j true) a' w' (fun k ok hk hki hun hno => hfree k ok hk hki (un k hun) hno) (ready_mono hr (Ne.symm hji)) h3.1 ?_⟩) h2
  rw [Array.setIfInBounds_comm _ _ hji]
  exact h3.2.2
theorem AnyT.takeA {i : Nat} {oi : Oper} {v : Value} {fuel : Nat} {listed : Array Bool} {a : Act} {w : World} (hi : ops[i]? = some oi) (hs : Region.noSelect ops = true) (hf : Region.free md ops listed i = true) (hr : (Region.ready md ops listed).contains i = true)
  (hQ : ∀ c a w, Q (.panic c) (a.put oi.dst v) w → Q (.panic c) a w) (hy : YieldsIf P ops (fun _ => True) oi v a) (h : AnyT P md ops Q S late fuel (listed.setIfInBounds i true) (a.put oi.dst v) w) : AnyT P md ops Q S late (fuel + 1) listed a w :=
 AnyT.firstA hi (Region.noSelect_spec hs) hQ fuel listed a w (Region.free_spec hi hf) (by simpa using hr) hy h
theorem AnyT.call {i : Nat} {o : Oper} {fuel : Nat} {listed : Array Bool} {a : Act} {w : World} (hr : Region.ready md ops listed = [i]) (ho : ops[i]? = some o)
  (h : ∀ K' : Act → World → Prop, Shut (∀ a w', (late i = false → S w → S w') → ((late i = false → S w → S w') → AnyT P md ops Q S late fuel (listed.setIfInBounds i true) a w') → K' a w') → if Region.wanted o (yielded ops a.tmps) = true then Oper.wp P o a w K' Q else K' (a.put o.dst undef) w) : AnyT P md ops Q S late (fuel + 1) listed a w :=
 ⟨fun h0 => absurd (hr ▸ h0) (by simp), fun j hj => by
  rw [hr, List.mem_singleton] at hj
  subst hj
  exact wpOp_step ho (fun K' hK => h K' (fun a w' hS hW => hK a w' ⟨hS, hW hS⟩))⟩
theorem AnyT.done {listed : Array Bool} {a : Act} {w : World} (hr : Region.ready md ops listed = []) (h : Q .normal a w) : ∀ fuel, AnyT P md ops Q S late fuel listed a w
 | 0 => ⟨hr, h⟩
 | _ + 1 => ⟨fun _ => h, by rw [hr]; simp⟩
theorem AnyT.start {id : Nat} {a : Act} {w : World} (late : Nat → Bool) (hm : P.follows .mixedOrders = true) (hS : S w.drew) (h : S w.drew → AnyT P .any ops Q S late ops.size (Array.replicate ops.size false) a w.drew) : (Code.region id ops true).wp P Q a w :=
 wp_region_any hm (AnyT.any _ _ _ _ (h hS))
end
end heldT
end
section
namespace heldT
section
variable {P : Program} {md : Region.Mode} {ops : Array Oper} {Q : Exit → Act → World → Prop} {S : World → Prop} {late : Nat → Bool}
def reaches (md : Region.Mode) (ops : Array Oper) : Nat → Nat → Nat → Bool
 | 0, _, _ => false
 | k + 1, j, i => ((ops[j]?).map fun o => o.after.any fun e => Region.binds md e && (e.on == i || reaches md ops k e.on i)).getD false
def Closed (md : Region.Mode) (ops : Array Oper) (listed : Array Bool) : Prop := ∀ j o, ops[j]? = some o → listed.getD j false = true → ∀ e ∈ o.after, Region.binds md e = true → listed.getD e.on false = true
def closedB (md : Region.Mode) (ops : Array Oper) (listed : Array Bool) : Bool := (List.range ops.size).all fun j => !listed.getD j false || ((ops[j]?).map fun o => o.after.all fun e => !Region.binds md e || listed.getD e.on false).getD true
theorem lt_of_get {ops : Array Oper} {j : Nat} {o : Oper} (ho : ops[j]? = some o) : j < ops.size := (Array.getElem?_eq_some_iff.1 ho).1
theorem closed_of {listed : Array Bool} (h : closedB md ops listed = true) : Closed md ops listed := by
 intro j o ho hl e he hb
 have h1 := List.all_eq_true.1 h j (List.mem_range.2 (lt_of_get ho))
 rw [hl, ho] at h1
 simp only [Bool.not_true, Bool.false_or, Option.map_some, Option.getD_some, Array.all_eq_true', Bool.or_eq_true, Bool.not_eq_true'] at h1
 rcases h1 e he with h2 | h2
 ·rw [hb] at h2; cases h2
 ·exact h2
theorem reach_listed {listed : Array Bool} (hc : Closed md ops listed) : ∀ {k j i : Nat} {o : Oper}, ops[j]? = some o → (∀ e ∈ o.after, Region.binds md e = true → listed.getD e.on false = true) → reaches md ops k j i = true → listed.getD i false = true
 | 0, _, _, _, _, _, h => by cases h
 | k + 1, j, i, o, ho, hall, h => by
  rw [reaches, ho] at h
  simp only [Option.map_some, Option.getD_some, Array.any_eq_true', Bool.and_eq_true, Bool.or_eq_true, beq_iff_eq] at h
  obtain ⟨e, he, hb, h⟩ := h
  have hl := hall e he hb
  rcases h with h | h
  ·rw [← h]; exact hl
  ·cases hq : ops[e.on]? with
   | none =>
    cases k with
    | zero => cases h
    | succ k => rw [reaches, hq] at h; cases h
   | some o2 => exact reach_listed hc hq (hc _ _ hq hl) h
theorem getD_mono {listed : Array Bool} {j k : Nat} (h : listed.getD k false = true) : (listed.setIfInBounds j true).getD k false = true := by
 by_cases e : j = k
 ·subst e
  have hj : j < listed.size := by
   rcases Nat.lt_or_ge j listed.size with h' | h'
   ·exact h'
   ·simp [Array.getElem?_eq_none h'] at h
  simp [hj]
 ·rw [getD_set_ne false e]; exact h
theorem closed_set {listed : Array Bool} {j : Nat} {o : Oper} (hc : Closed md ops listed) (ho : ops[j]? = some o) (hall : ∀ e ∈ o.after, Region.binds md e = true → listed.getD e.on false = true) : Closed md ops (listed.setIfInBounds j true) := by
 intro k o' ho' hl e he hb
 by_cases ek : j = k
 ·subst ek
  rw [ho] at ho'
  injection ho' with ho'
  subst ho'
  exact getD_mono (hall e he hb)
 ·rw [getD_set_ne false ek] at hl
  exact getD_mono (hc k o' ho' hl e he hb)
theorem unlisted {listed : Array Bool} {i : Nat} (h0 : listed.getD i true = false) : listed.getD i false ≠ true := by
 intro h1
 rcases Nat.lt_or_ge i listed.size with h' | h'
 ·simp [h'] at h0 h1; rw [h0] at h1; cases h1
 ·simp [Array.getElem?_eq_none h'] at h1
theorem AnyT.firstU {i : Nat} {oi : Oper} {v : Value} (hi : ops[i]? = some oi) (hsel : ∀ (j : Nat) (o : Oper) cs b, ops[j]? = some o → o.op ≠ .select cs b) (hQ : ∀ c a w, Q (.panic c) (a.put oi.dst v) w → Q (.panic c) a w) :
  ∀ (fuel : Nat) (listed : Array Bool) (a : Act) (w : World),
   (∀ j oj, ops[j]? = some oj → j ≠ i → listed.getD j true = false → (∀ e ∈ oj.after, Region.binds md e = true → e.on ≠ i) → oi.apart ops oj = true) → (∀ j o, ops[j]? = some o → late j = true → listed.getD j true = false → reaches md ops ops.size j i = true) → Closed md ops listed →
   i ∈ Region.ready md ops listed → YieldsIf P ops S oi v a → S w → AnyT P md ops Q S late fuel (listed.setIfInBounds i true) (a.put oi.dst v) w → AnyT P md ops Q S late (fuel + 1) listed a w := by
 intro fuel
 induction fuel with
 | zero =>
  intro listed a w _ _ _ hr hy hS H
  refine ⟨fun h => (by rw [h] at hr; cases hr), fun j hj => ?_⟩
  rcases Classical.em (j = i) with e | e
  ·subst e; exact hy.wpOp hi hS ⟨fun _ h => h, H⟩
  ·have := ready_mono hj e
   rw [H.1] at this
   cases this
 | succ fuel ih =>
  intro listed a w hfree hwait hclosed hr hy hS H
  refine ⟨fun h => (by rw [h] at hr; cases hr), fun j hj => ?_⟩
  rcases Classical.em (j = i) with e | hji
  ·subst e; exact hy.wpOp hi hS ⟨fun _ h => h, H⟩
  have h1 := H.2 j (ready_mono hj hji)
  obtain ⟨hjun, oj, hoj, hall⟩ := mem_ready.1 hj
  have h0 := (mem_ready.1 hr).1
  have hnot : ∀ e ∈ oj.after, Region.binds md e = true → e.on ≠ i := fun e he hb heq => unlisted h0 (by rw [← heq]; exact hall e he hb)
  have hlj : late j = false := by
   cases e : late j with
   | false => rfl
   | true => exact absurd (reach_listed hclosed hoj hall (hwait j oj hoj e hjun)) (unlisted h0)
  have far : ∀ {k : Nat}, j ≠ k → (listed.setIfInBounds j true).getD k true = false → listed.getD k true = false := fun hjk h => by rwa [getD_set_ne true hjk] at h
  have un : ∀ (k : Nat), (listed.setIfInBounds j true).getD k true = false → listed.getD k true = false := fun k h => by
   rcases Classical.em (k = j) with e | e
   ·rw [e]; exact hjun
   ·exact far (fun e' => e e'.symm) h
  have h2 := wpOp_putIf hoj (hfree j oj hoj hji hjun hnot) (fun cs b => hsel i oi cs b hi) (fun cs b => hsel j oj cs b hoj) hQ hy h1
  refine wpOp_mono (fun a' w' h3 => ⟨h3.2.1, ih (listed.setIfInBounds j true) a' w' (fun k ok hk hki hun hno => hfree k ok hk hki (un k hun) hno) (fun k o hk hl hu => hwait k o hk hl (un k hu)) (closed_set hclosed hoj hall) (ready_mono hr (Ne.symm hji)) h3.1 (h3.2.1 hlj hS) ?_⟩) h2
  rw [Array.setIfInBounds_comm _ _ hji]
  exact h3.2.2
def waitsU (md : Region.Mode) (ops : Array Oper) (late : Nat → Bool) (listed : Array Bool) (i : Nat) : Bool := (List.range ops.size).all fun j => !late j || listed.getD j true || reaches md ops ops.size j i
theorem AnyT.takeU {i : Nat} {oi : Oper} {v : Value} {fuel : Nat} {listed : Array Bool} {a : Act} {w : World} (hi : ops[i]? = some oi) (hs : Region.noSelect ops = true) (hf : Region.free md ops listed i = true) (hw : waitsU md ops late listed i = true) (hc : closedB md ops listed = true) (hr : (Region.ready md ops listed).contains i = true)
  (hQ : ∀ c a w, Q (.panic c) (a.put oi.dst v) w → Q (.panic c) a w) (hy : YieldsIf P ops S oi v a) (hS : S w) (h : AnyT P md ops Q S late fuel (listed.setIfInBounds i true) (a.put oi.dst v) w) : AnyT P md ops Q S late (fuel + 1) listed a w :=
 AnyT.firstU hi (Region.noSelect_spec hs) hQ fuel listed a w (Region.free_spec hi hf) (fun j o ho hl hu => by
  have h1 := List.all_eq_true.1 hw j (List.mem_range.2 (lt_of_get ho))
  rw [hl, hu] at h1
  simpa using h1) (closed_of hc) (by simpa using hr) hy hS h
end
end heldT
end
section
open Go.Lib (hid)
namespace kindsW
open Go.RowKit base ints sig cursor marks app sym appAt segs segsHelp segsMark kinds shape
set_option maxRecDepth 100000
abbrev sStep : Sh := .cat .num (.cat .num sI)
theorem parts_Step {w : World} {B : Nat} {v0 : Value} {d : Dat sStep} (h : Rd w B sStep [.int .i64 d.1, .int .i64 d.2.1, v0] d) : Rd w B .num [.int .i64 d.1] d.1 ∧ Rd w B .num [.int .i64 d.2.1] d.2.1 ∧ Rd w B sI [v0] d.2.2 := by
 obtain ⟨p0, q0⟩ := Rd.split (ca := [.int .i64 d.1]) (cb := [.int .i64 d.2.1, v0]) h rfl
 obtain ⟨p1, q1⟩ := Rd.split (ca := [.int .i64 d.2.1]) (cb := [v0]) q0 rfl
 exact ⟨p0, p1, q1⟩
theorem cells_Step {w : World} {B : Nat} {es : List Value} {d : Dat sStep} (h : Rd w B sStep es d) : ∃ (v0 : Value), es = [.int .i64 d.1, .int .i64 d.2.1, v0] := by
 obtain ⟨ca0, cb0, e0, p0, q0⟩ := h
 obtain ⟨ca1, cb1, e1, p1, q1⟩ := q0
 obtain ⟨A2, n2, c2, z2, -⟩ := q1
 exact ⟨.slice A2 n2 c2, by rw [e0, (show _ = _ from p0), e1, (show _ = _ from p1), z2] <;> rfl⟩
set_option maxHeartbeats 2000000 in
theorem eqK_Step (v0 u0 : Value) (d : Dat sStep) (w : World) (h : Rd w w.heap.size sStep [.int .i64 d.1, .int .i64 d.2.1, v0] d) (h' : Rd w w.heap.size sStep [.int .i64 d.1, .int .i64 d.2.1, u0] d) (hz : sz sStep d ≤ 1048576) :
  Calls Try.prog 84 #[.agg #[.int .i64 d.1, .int .i64 d.2.1, v0], .agg #[.int .i64 d.1, .int .i64 d.2.1, u0]] w (Yes w) := by
 obtain ⟨g0, g1, g2⟩ := parts_Step h
 obtain ⟨g0', g1', g2'⟩ := parts_Step h'
 obtain ⟨W, hW⟩ : ∃ W, W = (w.alloc (.cells #[.int .i64 d.1, .int .i64 d.2.1, v0] 92)).alloc (.cells #[.int .i64 d.1, .int .i64 d.2.1, u0] 92) := ⟨_, rfl⟩
 have ra : Row W w.heap.size 92 #[.int .i64 d.1, .int .i64 d.2.1, v0] := by rw [hW]; exact (Row.new w 92 #[.int .i64 d.1, .int .i64 d.2.1, v0]).alloc _
 have rb : Row W (w.heap.size + 1) 92 #[.int .i64 d.1, .int .i64 d.2.1, u0] := by rw [hW]; have := Row.new (w.alloc (.cells #[.int .i64 d.1, .int .i64 d.2.1, v0] 92)) 92 #[.int .i64 d.1, .int .i64 d.2.1, u0]; simpa using this
 have bel : Below w.heap.size w W := by rw [hW]; exact ((Below.refl _ _).alloc (Nat.le_refl _) _).alloc (by simp) _
 have HW := hid hW
 have G2 := hid g2
 have G2' := hid g2'
 have Z2 : Hid (sz sI d.2.2 ≤ 1048576) := hid (by have := hz; simp only [sz] at this ⊢; omega)
 clear hW hz h h' g0 g0' g1 g1' g2 g2'
 go_enter Try.func84, Try.ntmps84
 go_wp2_with fail
 rw [← HW.out]
 refine (eqK_ints _ _ _ W (G2.out.next bel) (G2'.out.next bel) Z2.out).mono ?_
 rintro e w1 ⟨rfl, bb⟩
 replace ra := ra.next bb
 replace rb := rb.next bb
 replace bel := next_trans bel bb
 clear bb
 have F : Yes w (.returned (.bool true)) w1 := ⟨rfl, bel⟩
 have HF := hid F
 clear F ra rb bel
 go_wp2
 go_ret
 exact HF.out
abbrev sStepS : Sh := .row 92 sStep
theorem info_StepS : (Try.prog.info? 92).map (fun i => (i.zero, i.size, i.bytes)) = some (some (.agg #[.int .i64 0, .int .i64 0, .slice none 0 0]), 3, 40) := by kernel_rfl
set_option maxHeartbeats 2000000 in
theorem eqK_StepS (v u : Value) (D : List (Dat sStep)) (w : World) (h : Rd w w.heap.size sStepS [v] D) (h' : Rd w w.heap.size sStepS [u] D) (hz : sz sStepS D ≤ 1048576) :
  Calls Try.prog 56 #[v, u] w (Yes w) := by
 obtain ⟨A, c, rfl, hcap⟩ := h.slice
 obtain ⟨A', c', rfl, hcap'⟩ := h'.slice
 obtain ⟨n, hn⟩ : ∃ n, D.length = n := ⟨_, rfl⟩
 have hn1 : n ≤ 1048576 := by rw [← hn]; exact sz_len hz
 rw [hn] at h h' hcap hcap' ⊢
 have HN := hid hn
 have H := hid h
 have H' := hid h'
 have HZ := hid hz
 clear hcap hcap' hn h h' hz
 go_enter Try.func56, Try.ntmps56
 go_wp2
 go_loopw [5] (fun i wr => ∃ k : Nat, k ≤ n ∧ i = .int .i64 k ∧ Below w.heap.size w wr) (fun i _ => n - (intOf i).toNat)
 case atStart => exact ⟨0, Nat.zero_le _, rfl, Below.refl _ _⟩
 case round =>
  obtain ⟨k, hk, rfl, hb⟩ := hrel
  by_cases hlt : k < n
  ·have hkD : k < D.length := by rw [HN.out]; exact hlt
   obtain ⟨b, off, n2, c2, es, ev, -, -, hbB, hel, hp, hrd⟩ := H.out.elem hkD
   injection ev with e1 e2 e3
   subst e1 e2 e3
   obtain ⟨b', off', n2, c2, es', ev, -, -, hbB', hel', hp', hrd'⟩ := H'.out.elem hkD
   injection ev with e1 e2 e3
   subst e1 e2 e3
   obtain ⟨y, hy⟩ : ∃ y, D.getD k (dft sStep) = y := ⟨_, rfl⟩
   rw [hy] at hrd hrd'
   have HY := hid hy
   clear hy
   obtain ⟨v0, rfl⟩ := cells_Step hrd
   obtain ⟨u0, rfl⟩ := cells_Step hrd'
   replace hb := hb.drew
   have hpw := hp.keep (w' := wr.drew) (fun p hp => hb.cell (p := p) (by rw [hp]; exact hbB))
   have hpw' := hp'.keep (w' := wr.drew) (fun p hp => hb.cell (p := p) (by rw [hp]; exact hbB'))
   have c0 : wr.drew.cell? ⟨b, off + k * 3, none⟩ = some (.int .i64 y.1) := hpw 0 (by simp)
   have c0' : wr.drew.cell? ⟨b', off' + k * 3, none⟩ = some (.int .i64 y.1) := hpw' 0 (by simp)
   have c1 : wr.drew.cell? ⟨b, off + k * 3 + 1, none⟩ = some (.int .i64 y.2.1) := hpw 1 (by simp)
   have c1' : wr.drew.cell? ⟨b', off' + k * 3 + 1, none⟩ = some (.int .i64 y.2.1) := hpw' 1 (by simp)
   have c2 : wr.drew.cell? ⟨b, off + k * 3 + 2, none⟩ = some (v0) := hpw 2 (by simp)
   have c2' : wr.drew.cell? ⟨b', off' + k * 3 + 2, none⟩ = some (u0) := hpw' 2 (by simp)
   have L := hid (eqK_Step _ _ y wr.drew ((hrd.below hb).more hb.size) ((hrd'.below hb).more hb.size) (by rw [← HY.out]; exact sz_each HZ.out hkD))
   have HB := hid hb
   have hlb : b < wr.drew.heap.size := Nat.lt_of_lt_of_le hbB hb.size
   have hlb' : b' < wr.drew.heap.size := Nat.lt_of_lt_of_le hbB' hb.size
   clear hrd hrd' hel hel' hp hp' hpw hpw' hb
   go_wp2_with fail
   go_region_held3 (fun w' => w'.cell? ⟨b, off + k * 3, none⟩ = some (.int .i64 y.1) ∧ w'.cell? ⟨b', off' + k * 3, none⟩ = some (.int .i64 y.1) ∧ w'.cell? ⟨b, off + k * 3 + 1, none⟩ = some (.int .i64 y.2.1) ∧ w'.cell? ⟨b', off' + k * 3 + 1, none⟩ = some (.int .i64 y.2.1) ∧ w'.cell? ⟨b, off + k * 3 + 2, none⟩ = some (v0) ∧ w'.cell? ⟨b', off' + k * 3 + 2, none⟩ = some (u0))
    (go_keep)
    (first | (go_at_call 84; refine L.out.mono ?_; rintro e w1 ⟨rfl, bb⟩; have m0 := (bb.cell (p := ⟨b, off + k * 3, none⟩) hlb).trans c0; have m1 := (bb.cell (p := ⟨b', off' + k * 3, none⟩) hlb').trans c0'; have m2 := (bb.cell (p := ⟨b, off + k * 3 + 1, none⟩) hlb).trans c1; have m3 := (bb.cell (p := ⟨b', off' + k * 3 + 1, none⟩) hlb').trans c1'; have m4 := (bb.cell (p := ⟨b, off + k * 3 + 2, none⟩) hlb).trans c2; have m5 := (bb.cell (p := ⟨b', off' + k * 3 + 2, none⟩) hlb').trans c2'))
   have HB1 := hid (next_trans HB.out bb)
   clear bb L c0 c0' c1 c1' c2 c2' m0 m1 m2 m3 m4 m5
   go_wp2
   go_roundw
   case rel => exact ⟨k + 1, hlt, by simp, HB1.out⟩
   case measure => simp [intOf]; omega
  ·have HB := hid hb
   clear hb
   go_wp2
   go_ret
   exact ⟨rfl, HB.out⟩
set_option maxHeartbeats 2000000 in
theorem markK_StepS (v : Value) (D : List (Dat sStep)) (k : Int) (F : List Nat) (w : World) (h : Ow w sStepS [v] D F) (hF : F.Nodup) (hz : sz sStepS D ≤ 1048576) (hk0 : 0 ≤ k) (hk : k + (cntv sStepS D : Int) ≤ 1099511627776) :
  Calls Try.prog 57 #[v, .int .i64 k] w (AnsMarkF w sStepS [v] D k F) := by
 obtain ⟨A, c, rfl, hcap⟩ := h.rd.slice
 have hn1 := sz_len hz
 obtain ⟨n, hn⟩ : ∃ n, D.length = n := ⟨_, rfl⟩
 rw [hn] at h hcap hn1 ⊢
 have HN := hid hn
 have HZ := hid hz
 have S0 := hid (headMk_zero (k := k) h)
 clear h hcap hn hz
 go_enter Try.func57, Try.ntmps57
 go_wp2
 go_loopw [1, 5] (fun kk i wr => HeadMk w 92 sStep (.slice A n c) D k F kk i wr) (fun _ i _ => n - (intOf i).toNat)
 case atStart => exact S0.out
 case round =>
  obtain ⟨j, hj, rfl, rfl, ho, hb⟩ := hrel
  clear S0
  rw [HN.out] at hj
  by_cases hlt : j < n
  ·have hjD : j < D.length := by rw [HN.out]; exact hlt
   obtain ⟨g, n2, c2, cur, es, Gj, ev, -, hr, hsz, hel, hcur, oe, ng, gG, sub, R⟩ := ho.elemR hF (j := j) (by rw [mixed_len]; exact hjD)
   injection ev with e1 e2 e3
   subst e1 e2 e3
   obtain ⟨y, hy⟩ : ∃ y, D.getD j (dft sStep) = y := ⟨_, rfl⟩
   rw [mixed_get hjD, hy] at oe
   have HY := hid hy
   clear hy
   obtain ⟨v0, rfl⟩ := cells_Step oe.rd
   obtain ⟨F0, R0, eF0, o0, q0⟩ := Ow.split (ca := [.int .i64 y.1]) (cb := [.int .i64 y.2.1, v0]) oe rfl
   obtain ⟨F1, R1, eF1, o1, o2⟩ := Ow.split (ca := [.int .i64 y.2.1]) (cb := [v0]) q0 rfl
   rw [eF0] at ng
   obtain ⟨n0, nr0, x0, y0⟩ := dis_app ng
   rw [eF1] at nr0
   obtain ⟨n1, nr1, x1, y1⟩ := dis_app nr0
   rw [eF1] at x0 y0
   obtain ⟨x0_1, x0_1r⟩ := dis_l x0
   obtain ⟨y0_1, y0_1r⟩ := dis_r y0
   have g2 : g ∉ R1 := fun hb => gG (by rw [eF0, eF1]; exact (List.mem_append_right _ (List.mem_append_right _ hb)))
   have sub2 : ∀ x ∈ R1, x ∈ g :: Gj := fun x hb => List.mem_cons_of_mem _ (by rw [eF0, eF1]; exact (List.mem_append_right _ (List.mem_append_right _ hb)))
   have hgs : g ∈ g :: Gj := List.mem_cons_self ..
   obtain ⟨z0, hz0⟩ : ∃ z : Nat, 1 = z := ⟨_, rfl⟩
   obtain ⟨z1, hz1⟩ : ∃ z : Nat, 1 = z := ⟨_, rfl⟩
   obtain ⟨z2, hz2⟩ : ∃ z, cntv sI y.2.2 = z := ⟨_, rfl⟩
   have hzz : cnt sStep y = 1 + (1 + (z2)) := by rw [← hz2]; rfl
   have hcn := headMk_cnt (e := 92) hjD
   rw [HY.out, hzz] at hcn
   obtain ⟨q, hq⟩ : ∃ q, k + (cnts sStep D j : Int) = q := ⟨_, rfl⟩
   have q0 : 0 ≤ q := by omega
   have q1 : q + 2 + (z2 : Int) ≤ 1099511627776 := by have : (cntv sStepS D : Int) = (cntv (.row 92 sStep) D : Nat) := rfl; omega
   have Z2 : Hid (sz sI y.2.2 ≤ 1048576) := hid (by have := sz_each HZ.out hjD; rw [HY.out] at this; simp only [sz] at this ⊢; omega)
   have HZ2 := hid hz2
   rw [hq]
   have HEF : Hid (Gj = F0 ++ (F1 ++ R1)) := hid (by rw [eF0, eF1])
   have HR := hid R
   have HB := hid hb
   have HQ := hid hq
   have HZZ := hid hzz
   have SUB := hid sub
   have HCUR := hid hcur
   have HSZ := hid hsz
   have hs0 : j * 3 + 3 ≤ cur.size := HSZ.out
   have c0 : wr.cell? ⟨g, j * 3, none⟩ = some (.int .i64 y.1) := by rw [hr.cell]; simpa [nc] using hcur 0 (by simp [nc])
   have c1 : wr.cell? ⟨g, j * 3 + 1, none⟩ = some (.int .i64 y.2.1) := by rw [hr.cell]; simpa [nc] using hcur 1 (by simp [nc])
   have c2 : wr.cell? ⟨g, j * 3 + 2, none⟩ = some (v0) := by rw [hr.cell]; simpa [nc] using hcur 2 (by simp [nc])
   have fz : wr.frozen? ⟨g, j * 3, none⟩ = false := hr.free _
   have c1_s : ((wr.setCell ⟨g, j * 3, none⟩ (.int .i64 q))).cell? ⟨g, j * 3 + 1, none⟩ = some (.int .i64 y.2.1) := by rw [((Row.put hr (j * 3) (.int .i64 q))).cell]; simp only [Array.getElem?_setIfInBounds]; rw [if_neg (by omega)]; rw [← hr.cell]; exact c1
   have fz1 : ((wr.setCell ⟨g, j * 3, none⟩ (.int .i64 q))).frozen? ⟨g, j * 3 + 1, none⟩ = false := ((Row.put hr (j * 3) (.int .i64 q))).free _
   have c2_r : (((wr.setCell ⟨g, j * 3, none⟩ (.int .i64 q)).setCell ⟨g, j * 3 + 1, none⟩ (.int .i64 (q + 1)))).cell? ⟨g, j * 3 + 2, none⟩ = some (v0) := by rw [((Row.put (Row.put hr (j * 3) (.int .i64 q)) (j * 3 + 1) (.int .i64 (q + 1)))).cell]; simp only [Array.getElem?_setIfInBounds]; rw [if_neg (by omega), if_neg (by omega)]; rw [← hr.cell]; exact c2
   obtain ⟨ws, hws⟩ : ∃ x, x = ((wr.setCell ⟨g, j * 3, none⟩ (.int .i64 q)).setCell ⟨g, j * 3 + 1, none⟩ (.int .i64 (q + 1))) := ⟨_, rfl⟩
   have r : Row ws g 92 ((cur.setIfInBounds (j * 3) (.int .i64 q)).setIfInBounds (j * 3 + 1) (.int .i64 (q + 1))) := by rw [hws]; exact (Row.put (Row.put hr (j * 3) (.int .i64 q)) (j * 3 + 1) (.int .i64 (q + 1)))
   have on : Only (g :: Gj) wr ws := by rw [hws]; exact (Only.setCell (Only.setCell (Only.refl (g :: Gj) wr) hgs (.int .i64 q)) hgs (.int .i64 (q + 1)))
   replace o2 : Ow ws sI [v0] y.2.2 R1 := by rw [hws]; exact o2.keep fun y hy => by have hyg : y ≠ g := fun e => g2 (e ▸ hy); rw [Below.heap_setCell _ _ _ y hyg, Below.heap_setCell _ _ _ y hyg]
   have HWS := hid hws
   clear R hb hq hzz hcn ho oe sub hel gG hws hcur hsz hr hz0 hz1 hz2 eF0 eF1
   go_wp2_with fail
   rw [← HWS.out]
   clear c0 c1 c2 fz c1_s fz1 c2_r
   refine (markK_ints _ _ (q + 1 + 1) R1 _ o2 Z2.out (by omega) (by omega)).mono ?_
   rintro e w3 ⟨he, o2, on2⟩
   rw [HZ2.out] at he
   replace r := Row.only r on2 g2
   replace on := on.trans (on2.wider sub2)
   clear on2
   obtain ⟨k2, hk2⟩ : ∃ l, q + 1 + 1 + (z2 : Int) = l := ⟨_, rfl⟩
   rw [hk2] at he
   have l2 : 0 ≤ k2 := by omega
   have u2 : k2  ≤ 1099511627776 := by omega
   subst he
   have HK2 := hid hk2
   clear hk2
   have S : HeadMk w 92 sStep (.slice (some ⟨g, 0, none⟩) n c) D k F (.int .i64 k2) (.int .i64 ((j : Int) + 1)) w3 := by
    have h1 := HR.out w3 [.int .i64 q, .int .i64 (q + 1), v0] (mkc sStep q y) ((cur.setIfInBounds (j * 3) (.int .i64 q)).setIfInBounds (j * 3 + 1) (.int .i64 (q + 1))) rfl r (by simp) (fun i hi => ?_) (fun i hi => ?_) (by rw [HEF.out]; exact (Ow.join (o0.num (w' := w3) (q)) (Ow.join (o1.num (w' := w3) (q + 1)) o2))) on
    rotate_left
    ·have hi : i < 3 := hi
     have h0 := HCUR.out i hi
     have hn : nc sStep = 3 := rfl
     rw [hn] at h0 ⊢
     have hcases : i = 0 ∨ i = 1 ∨ i = 2 := by omega
     rcases hcases with rfl | rfl | rfl
     all_goals simp only [Array.getElem?_setIfInBounds, Array.size_setIfInBounds]
     ·rw [if_neg (show ¬ (j * 3 + 1 = j * 3 + 0) by omega), if_pos (show j * 3 = j * 3 + 0 by omega), if_pos (show j * 3 < cur.size by omega)]; rfl
     ·rw [if_pos True.intro, if_pos (show j * 3 + 1 < cur.size by omega)]; rfl
     ·rw [if_neg (by omega), if_neg (by omega)]; exact h0
    ·have hi : i < j * 3 ∨ j * 3 + 3 ≤ i := hi
     simp only [Array.getElem?_setIfInBounds]
     rw [if_neg (by omega), if_neg (by omega)]
    have h2 := headMk_step (z := 1 + (1 + (z2))) hjD HB.out (on.wider SUB.out) (by rw [HY.out]; exact HZZ.out) (by rw [HQ.out, HY.out]) h1
    have h3 : k + (cnts sStep D j : Int) + ((1 + (1 + (z2)) : Nat) : Int) = k2 := by have := HQ.out; have := HK2.out; omega
    rw [h3] at h2
    exact h2
   have HS := hid S
   clear S on r o0 o1 o2 
   go_wp2
   go_roundw
   case rel => exact HS.out
   case measure => simp [intOf]; omega
  ·have F1 := hid (headMk_end (by rw [HN.out]; exact hlt) (by rw [HN.out]; exact hj) ho hb)
   clear ho hb
   generalize cnts sStep D j = z at *
   go_wp2
   go_ret
   exact F1.out
set_option maxHeartbeats 2000000 in
theorem heldK_StepS (v : Value) (D : List (Dat sStep)) (k : Int) (w : World) (h : Rd w w.heap.size sStepS [v] (mkv sStepS k D)) (hz : sz sStepS D ≤ 1048576) (hk0 : 0 ≤ k) (hk : k + (cntv sStepS D : Int) ≤ 1099511627776) :
  Calls Try.prog 58 #[v, .int .i64 k] w (AnsHeld w (k + (cntv sStepS D : Int))) := by
 obtain ⟨A, c, rfl, hcap⟩ := h.slice
 have hn1 := sz_len hz
 have hml : List.length (mkv sStepS k D : List (Dat sStep)) = D.length := mk_len
 rw [hml] at h hcap ⊢
 have HML := hid hml
 clear hml
 obtain ⟨n, hn⟩ : ∃ n, D.length = n := ⟨_, rfl⟩
 rw [hn] at h hcap hn1 ⊢
 have HN := hid hn
 have HZ := hid hz
 have H := hid h
 clear h hcap hn hz
 go_enter Try.func58, Try.ntmps58
 go_wp2
 go_loopw [1, 5] (fun kk i wr => HeadHd w sStep D k kk i wr) (fun _ i _ => n - (intOf i).toNat)
 case atStart => exact headHd_zero
 case round =>
  obtain ⟨j, hj, rfl, rfl, hb⟩ := hrel
  rw [HN.out] at hj
  by_cases hlt : j < n
  ·have hjD : j < D.length := by rw [HN.out]; exact hlt
   obtain ⟨b, off, n2, c2, es, ev, -, -, hbB, hel, hp, hr⟩ := H.out.elem (j := j) (by rw [HML.out]; exact hjD)
   injection ev with e1 e2 e3
   subst e1 e2 e3
   have hmg := mk_get (e := 92) (s := sStep) (k := k) hjD
   obtain ⟨y, hy⟩ : ∃ y, D.getD j (dft sStep) = y := ⟨_, rfl⟩
   rw [hmg, hy] at hr
   have HY := hid hy
   clear hmg hy
   obtain ⟨q, hq⟩ : ∃ q, k + (cnts sStep D j : Int) = q := ⟨_, rfl⟩
   rw [hq] at hr ⊢
   obtain ⟨v0, rfl⟩ := cells_Step hr
   have hpw := hp.keep (w' := wr) (fun p hp => hb.cell (p := p) (by rw [hp]; exact hbB))
   have c0 : wr.cell? ⟨b, off + j * 3, none⟩ = some (.int .i64 q) := hpw 0 (by simp)
   have c1 : wr.cell? ⟨b, off + j * 3 + 1, none⟩ = some (.int .i64 (q + 1)) := hpw 1 (by simp)
   have c2 : wr.cell? ⟨b, off + j * 3 + 2, none⟩ = some (v0) := hpw 2 (by simp)
   obtain ⟨g0, g1, g2⟩ := parts_Step hr
   obtain ⟨z2, hz2⟩ : ∃ z, cntv sI y.2.2 = z := ⟨_, rfl⟩
   have hzz : cnt sStep y = 1 + (1 + (z2)) := by rw [← hz2]; rfl
   have hcn := headMk_cnt (e := 92) hjD
   rw [HY.out, hzz] at hcn
   have q0 : 0 ≤ q := by omega
   have q1 : q + 2 + (z2 : Int) ≤ 1099511627776 := by have : (cntv sStepS D : Int) = (cntv (.row 92 sStep) D : Nat) := rfl; omega
   have Z2 : Hid (sz sI y.2.2 ≤ 1048576) := hid (by have := sz_each HZ.out hjD; rw [HY.out] at this; simp only [sz] at this ⊢; omega)
   have G2 : Hid (Rd w w.heap.size sI [v0] (mkv sI (q + 1 + 1) y.2.2)) := hid g2
   have HZ2 := hid hz2
   have HB := hid hb
   have HZZ := hid hzz
   have HQ := hid hq
   have hlb : b < wr.heap.size := Nat.lt_of_lt_of_le hbB hb.size
   clear hr hel hp hpw hq hzz hcn hb g0 g1 g2 hz2
   go_wp2_with fail
   refine (heldK_ints _ y.2.2 (q + 1 + 1) wr ((G2.out.below HB.out).more HB.out.size) Z2.out (by omega) (by omega)).mono ?_
   rintro e w3 ⟨he, bb⟩
   rw [HZ2.out] at he
   obtain ⟨k2, hk2⟩ : ∃ l, q + 1 + 1 + (z2 : Int) = l := ⟨_, rfl⟩
   rw [hk2] at he
   have l2 : 0 ≤ k2 := by omega
   have u2 : k2  ≤ 1099511627776 := by omega
   subst he
   replace HB := hid (next_trans HB.out bb)
   clear bb
   have HK2 := hid hk2
   clear hk2
   have HS := hid (headHd_step (D := D) (k := k) (kc := k2) hjD HB.out (by rw [HQ.out, HY.out, HZZ.out]; have := HK2.out; omega))
   clear c0 c1 c2
   go_wp2
   go_roundw
   case rel => exact HS.out
   case measure => simp [intOf]; omega
  ·have F1 := hid (headHd_end (e := 92) (D := D) (k := k) (by rw [HN.out]; exact hlt) (by rw [HN.out]; exact hj) hb)
   clear hb
   generalize cnts sStep D j = z at *
   go_wp2
   go_ret
   exact F1.out
abbrev sWalk : Sh := .cat sI sStepS
theorem parts_Walk {w : World} {B : Nat} {v0 v1 : Value} {d : Dat sWalk} (h : Rd w B sWalk [v0, v1] d) : Rd w B sI [v0] d.1 ∧ Rd w B sStepS [v1] d.2 := by
 obtain ⟨p0, q0⟩ := Rd.split (ca := [v0]) (cb := [v1]) h rfl
 exact ⟨p0, q0⟩
set_option maxHeartbeats 2000000 in
theorem eqK_Walk (v0 v1 u0 u1 : Value) (d : Dat sWalk) (w : World) (h : Rd w w.heap.size sWalk [v0, v1] d) (h' : Rd w w.heap.size sWalk [u0, u1] d) (hz : sz sWalk d ≤ 1048576) :
  Calls Try.prog 27 #[.agg #[v0, v1], .agg #[u0, u1]] w (Yes w) := by
 obtain ⟨g0, g1⟩ := parts_Walk h
 obtain ⟨g0', g1'⟩ := parts_Walk h'
 obtain ⟨W, hW⟩ : ∃ W, W = (w.alloc (.cells #[v0, v1] 50)).alloc (.cells #[u0, u1] 50) := ⟨_, rfl⟩
 have ra : Row W w.heap.size 50 #[v0, v1] := by rw [hW]; exact (Row.new w 50 #[v0, v1]).alloc _
 have rb : Row W (w.heap.size + 1) 50 #[u0, u1] := by rw [hW]; have := Row.new (w.alloc (.cells #[v0, v1] 50)) 50 #[u0, u1]; simpa using this
 have bel : Below w.heap.size w W := by rw [hW]; exact ((Below.refl _ _).alloc (Nat.le_refl _) _).alloc (by simp) _
 have HW := hid hW
 have G0 := hid g0
 have G0' := hid g0'
 have Z0 : Hid (sz sI d.1 ≤ 1048576) := hid (by have := hz; simp only [sz] at this ⊢; omega)
 have G1 := hid g1
 have G1' := hid g1'
 have Z1 : Hid (sz sStepS d.2 ≤ 1048576) := hid (by have := hz; simp only [sz] at this ⊢; omega)
 clear hW hz h h' g0 g0' g1 g1'
 go_enter Try.func27, Try.ntmps27
 go_wp2_with fail
 rw [← HW.out]
 refine (eqK_ints _ _ _ W (G0.out.next bel) (G0'.out.next bel) Z0.out).mono ?_
 rintro e w1 ⟨rfl, bb⟩
 replace ra := ra.next bb
 replace rb := rb.next bb
 replace bel := next_trans bel bb
 clear bb
 have a1_0 : w1.cell? ⟨w.heap.size, 1, none⟩ = some (v1) := ra.cell 1
 have b1_0 : w1.cell? ⟨w.heap.size + 1, 1, none⟩ = some (u1) := rb.cell 1
 go_wp2_with fail
 clear a1_0 b1_0
 refine (eqK_StepS _ _ _ w1 (G1.out.next bel) (G1'.out.next bel) Z1.out).mono ?_
 rintro e w2 ⟨rfl, bb⟩
 replace ra := ra.next bb
 replace rb := rb.next bb
 replace bel := next_trans bel bb
 clear bb
 have F : Yes w (.returned (.bool true)) w2 := ⟨rfl, bel⟩
 have HF := hid F
 clear F ra rb bel
 go_wp2
 go_ret
 exact HF.out
set_option maxHeartbeats 2000000 in
theorem markK_Walk (v0 v1 : Value) (d : Dat sWalk) (k : Int) (F : List Nat) (w : World) (h : Ow w sWalk [v0, v1] d F) (hF : F.Nodup) (hz : sz sWalk d ≤ 1048576) (hk0 : 0 ≤ k) (hk : k + (cntv sWalk d : Int) ≤ 1099511627776) :
  Calls Try.prog 28 #[.agg #[v0, v1], .int .i64 k] w (AnsMarkF w sWalk [v0, v1] d k F) := by
 have hlt := h.lt
 obtain ⟨F0, R0, eF0, o0, o1⟩ := Ow.split (ca := [v0]) (cb := [v1]) h rfl
 rw [eF0] at hF
 obtain ⟨n0, nr0, x0, y0⟩ := dis_app hF
 obtain ⟨z0, hz0⟩ : ∃ z, cntv sI d.1 = z := ⟨_, rfl⟩
 obtain ⟨z1, hz1⟩ : ∃ z, cntv sStepS d.2 = z := ⟨_, rfl⟩
 have hc : (cntv sWalk d : Int) = (z0 : Int) + (z1 : Int) := by rw [← hz0, ← hz1]; first | done | (simp only [cntv]; try omega)
 have Z0 : Hid (sz sI d.1 ≤ 1048576) := hid (by have := hz; simp only [sz] at this ⊢; omega)
 have HZ0 := hid hz0
 have Z1 : Hid (sz sStepS d.2 ≤ 1048576) := hid (by have := hz; simp only [sz] at this ⊢; omega)
 have HZ1 := hid hz1
 have HC := hid hc
 rw [hc] at hk
 obtain ⟨W, hW⟩ : ∃ W, W = w.alloc (.cells #[v0, v1] 50) := ⟨_, rfl⟩
 have r : Row W w.heap.size 50 #[v0, v1] := by rw [hW]; exact Row.new _ _ _
 have bel : Below w.heap.size w W := by rw [hW]; exact (Below.refl _ _).alloc (Nat.le_refl _) _
 replace o0 := o0.next bel
 replace o1 := o1.next bel
 have nb0 : w.heap.size ∉ F0 := fun hb => by have := hlt _ (by rw [eF0]; exact List.mem_append_left _ hb); omega
 have nb1 : w.heap.size ∉ R0 := fun hb => by have := hlt _ (by rw [eF0]; exact (List.mem_append_right _ hb)); omega
 have sub0 : ∀ x ∈ F0, x ∈ F := fun x hb => by rw [eF0]; exact List.mem_append_left _ hb
 have sub1 : ∀ x ∈ R0, x ∈ F := fun x hb => by rw [eF0]; exact (List.mem_append_right _ hb)
 have on : Only F w W := Only.of_below bel
 have HW := hid hW
 have HEF : Hid (F = (F0 ++ R0)) := hid (by rw [eF0])
 clear hW h hz hc bel hlt hz0 hz1 eF0
 go_enter Try.func28, Try.ntmps28
 go_wp2_with fail
 rw [← HW.out]
 refine (markK_ints _ _ k F0 _ o0 Z0.out (by omega) (by omega)).mono ?_
 rintro e w1 ⟨he, o0, on0⟩
 rw [HZ0.out] at he
 replace o1 := o1.only on0 y0
 replace r := Row.only r on0 nb0
 replace on := on.trans (on0.wider sub0)
 clear on0
 obtain ⟨k0, hk0⟩ : ∃ l, k + (z0 : Int) = l := ⟨_, rfl⟩
 rw [hk0] at he
 have l0 : 0 ≤ k0 := by omega
 have u0 : k0  + (z1 : Int) ≤ 1099511627776 := by omega
 subst he
 have HK0 := hid hk0
 clear hk0
 have c1_0 : w1.cell? ⟨w.heap.size, 1, none⟩ = some (v1) := r.cell 1
 go_wp2_with fail
 clear c1_0
 refine (markK_StepS _ _ k0 R0 _ o1 nr0 Z1.out (by omega) (by rw [HZ1.out]; omega)).mono ?_
 rintro e w2 ⟨he, o1, on1⟩
 rw [HZ1.out] at he
 replace o0 := o0.only on1 x0
 replace r := Row.only r on1 nb1
 replace on := on.trans (on1.wider sub1)
 clear on1
 obtain ⟨k1, hk1⟩ : ∃ l, k0 + (z1 : Int) = l := ⟨_, rfl⟩
 rw [hk1] at he
 have l1 : 0 ≤ k1 := by omega
 have u1 : k1  ≤ 1099511627776 := by omega
 subst he
 have HK1 := hid hk1
 clear hk1
 have F1 : AnsMarkF w sWalk [v0, v1] d k F (.returned (.int .i64 k1)) w2 := by
  refine ⟨congrArg (fun z => Ending.returned (.int .i64 z)) ?_, ?_, on⟩
  ·rw [HC.out]; have := HK0.out; have := HK1.out; omega
  ·rw [HEF.out]
   have e0 : k0 = k + (cntv sI d.1 : Int) := by have := HK0.out; have := HZ0.out; omega
   rw [e0] at o1
   exact (Ow.join o0 o1)
 have HF := hid F1
 clear F1 on r o0 o1
 go_wp2
 go_ret
 exact HF.out
set_option maxHeartbeats 2000000 in
theorem heldK_Walk (v0 v1 : Value) (d : Dat sWalk) (k : Int) (w : World) (h : Rd w w.heap.size sWalk [v0, v1] (mkv sWalk k d)) (hz : sz sWalk d ≤ 1048576) (hk0 : 0 ≤ k) (hk : k + (cntv sWalk d : Int) ≤ 1099511627776) :
  Calls Try.prog 29 #[.agg #[v0, v1], .int .i64 k] w (AnsHeld w (k + (cntv sWalk d : Int))) := by
 obtain ⟨g0, g1⟩ := parts_Walk h
 have G0 : Hid (Rd w w.heap.size sI [v0] (mkv sI k d.1)) := hid g0
 obtain ⟨z0, hz0⟩ : ∃ z, cntv sI d.1 = z := ⟨_, rfl⟩
 have G1 : Hid (Rd w w.heap.size sStepS [v1] (mkv sStepS (k + (cntv sI d.1 : Int)) d.2)) := hid g1
 obtain ⟨z1, hz1⟩ : ∃ z, cntv sStepS d.2 = z := ⟨_, rfl⟩
 have hc : (cntv sWalk d : Int) = (z0 : Int) + (z1 : Int) := by rw [← hz0, ← hz1]; first | done | (simp only [cntv]; try omega)
 have Z0 : Hid (sz sI d.1 ≤ 1048576) := hid (by have := hz; simp only [sz] at this ⊢; omega)
 have HZ0 := hid hz0
 rw [hz0] at G1
 have Z1 : Hid (sz sStepS d.2 ≤ 1048576) := hid (by have := hz; simp only [sz] at this ⊢; omega)
 have HZ1 := hid hz1
 rw [hc] at hk ⊢
 have r := Row.new w 50 #[v0, v1]
 have bel : Below w.heap.size w (w.alloc (.cells #[v0, v1] 50)) := (Below.refl _ _).alloc (Nat.le_refl _) _
 obtain ⟨W, hW⟩ : ∃ W, W = w.alloc (.cells #[v0, v1] 50) := ⟨_, rfl⟩
 rw [← hW] at r bel
 have HW := hid hW
 clear hW h hz hc g0 g1 hz0 hz1
 go_enter Try.func29, Try.ntmps29
 go_wp2_with fail
 rw [← HW.out]
 refine (heldK_ints _ d.1 k W (by refine (G0.out.next bel)) Z0.out (by omega) (by omega)).mono ?_
 rintro e w1 ⟨he, bb⟩
 rw [HZ0.out] at he
 replace r := r.next bb
 replace bel := next_trans bel bb
 clear bb
 obtain ⟨k0, hk0⟩ : ∃ l, k + (z0 : Int) = l := ⟨_, rfl⟩
 have he2 : e = .returned (.int .i64 k0) := by rw [he]; exact congrArg (fun z => Ending.returned (.int .i64 z)) (by omega)
 clear he
 have l0 : 0 ≤ k0 := by omega
 have u0 : k0  + (z1 : Int) ≤ 1099511627776 := by omega
 subst he2
 have HK0 := hid hk0
 clear hk0
 have c1_0 : w1.cell? ⟨w.heap.size, 1, none⟩ = some (v1) := r.cell 1
 go_wp2_with fail
 clear c1_0
 refine (heldK_StepS _ d.2 k0 w1 (by rw [← HK0.out]; refine (G1.out.next bel)) Z1.out (by omega) (by rw [HZ1.out]; omega)).mono ?_
 rintro e w2 ⟨he, bb⟩
 rw [HZ1.out] at he
 replace r := r.next bb
 replace bel := next_trans bel bb
 clear bb
 obtain ⟨k1, hk1⟩ : ∃ l, k + (z0 : Int) + (z1 : Int) = l := ⟨_, rfl⟩
 have he2 : e = .returned (.int .i64 k1) := by rw [he]; exact congrArg (fun z => Ending.returned (.int .i64 z)) (by have := HK0.out; omega)
 clear he
 have l1 : 0 ≤ k1 := by omega
 have u1 : k1  ≤ 1099511627776 := by omega
 subst he2
 have HK1 := hid hk1
 clear hk1
 have F : AnsHeld w (k + ((z0 : Int) + (z1 : Int))) (.returned (.int .i64 k1)) w2 := ⟨congrArg (fun z => Ending.returned (.int .i64 z)) (by have := HK1.out; omega), bel⟩
 have HF := hid F
 clear F r bel
 go_wp2
 go_ret
 exact HF.out
end kindsW
end
section
namespace findW
open Go.RowKit base ints sig marks app appAt sym segs segsHelp shape kindsW drawX walkMath reachMath
abbrev sTs : Sh := .row 22 sI
abbrev sFound : Sh := .cat sTs (.cat sI (.cat sStepS (.cat sI .bit)))
def NotIn (w : World) (bad : Nat → Prop) (b : Nat) : Prop := b < w.heap.size ∧ ¬ bad b
section
variable {w w' : World} {bad bad' : Nat → Prop} {r : Option Nat} {s : Sh} {cs : List Value} {d : Dat s}
theorem notIn_kept (h : RdQ w (NotIn w bad) s cs d) (hg : w.grownBy w' r) (hr : ∀ k, r = some k → bad k) (hb : ∀ b, b < w.heap.size → bad' b → bad b) : RdQ w' (NotIn w' bad') s cs d :=
 (h.keep fun b q => hg.block b q.1 (fun e => q.2 (hr b e.symm))).mono fun b q => ⟨Nat.lt_of_lt_of_le q.1 hg.size, fun q' => q.2 (hb b q.1 q')⟩
theorem grown_of_below (hb : Below w.heap.size w w') : w.grownBy w' none := ⟨hb.os, hb.tape, hb.output, hb.size, fun k hk _ => hb.block k hk⟩
theorem notIn_below (h : RdQ w (NotIn w bad) s cs d) (hb : Below w.heap.size w w') : RdQ w' (NotIn w' bad) s cs d := notIn_kept h (grown_of_below hb) (fun k e => by cases e) (fun _ _ h => h)
theorem notIn_of {B : Nat} : ∀ {s : Sh} {cs : List Value} {d : Dat s}, Rd w B s cs d → B ≤ w.heap.size → (∀ b, bad b → B ≤ b) → RdQ w (NotIn w bad) s cs d
 | .num, _, _, h, _, _ => h
 | .bit, _, _, h, _, _ => h
 | .row _ s, _, _, h, h1, h2 => by
  obtain ⟨A, n, c, e, hc, hl, h3⟩ := h
  refine ⟨A, n, c, e, hc, hl, fun hn => ?_⟩
  obtain ⟨b, off, e2, hb, h4⟩ := h3 hn
  refine ⟨b, off, e2, ⟨by omega, fun q => by have := h2 b q; omega⟩, fun j hj => ?_⟩
  obtain ⟨es, he, hp, hr⟩ := h4 j hj
  exact ⟨es, he, hp, notIn_of hr h1 h2⟩
 | .cat a b, _, _, h, h1, h2 => by
  obtain ⟨ca, cb, e, h3, h4⟩ := h
  exact ⟨ca, cb, e, notIn_of h3 h1 h2, notIn_of h4 h1 h2⟩
theorem notIn_ow : ∀ {s : Sh} {cs : List Value} {d : Dat s} {F : List Nat}, Ow w s cs d F → (∀ k ∈ F, ¬ bad k) → RdQ w (NotIn w bad) s cs d
 | .num, _, _, _, h, _ => h.1
 | .bit, _, _, _, h, _ => h.1
 | .row e s, _, _, F, h, hF => by
  have hrd := h.rd
  obtain ⟨A', n', c', e0, hc, _, _⟩ := hrd
  obtain ⟨A, n, c, e1, hl, h1⟩ := h
  rw [e1] at e0
  injection e0 with e0
  injection e0 with q1 q2 q3
  subst q1 q2 q3
  refine ⟨A, n, c, e1, hc, hl, fun hn => ?_⟩
  rcases h1 with ⟨_, h0, _, _⟩ | ⟨g, cur, E, G, e2, hr, h2, h3, h4, h5, h6⟩
  ·omega
  ·subst h5
   refine ⟨g, 0, e2, ⟨hr.lt, hF g (List.mem_cons_self ..)⟩, fun j hj => ?_⟩
   obtain ⟨q1, q2, q3⟩ := h6 j hj
   refine ⟨E j, q1, fun i hi => ?_, notIn_ow q3 fun k hk => hF k (List.mem_cons_of_mem _ (List.mem_flatMap.2 ⟨j, List.mem_range.2 hj, hk⟩))⟩
   rw [Nat.zero_add, hr.cell, q2 i (by omega)]
 | .cat a b, _, _, F, h, hF => by
  obtain ⟨ca, cb, Fa, Fb, e, e2, h1, h2⟩ := h
  subst e2
  exact ⟨ca, cb, e, notIn_ow h1 fun k hk => hF k (List.mem_append_left _ hk), notIn_ow h2 fun k hk => hF k (List.mem_append_right _ hk)⟩
theorem notIn_owned {lo hi : Nat} (h : Owned w lo hi s cs d) (hb : ∀ k, lo ≤ k → k < hi → ¬ bad k) : RdQ w (NotIn w bad) s cs d := by
 obtain ⟨F, h, -, hF⟩ := h
 exact notIn_ow h fun k hk => hb k (hF k hk).1 (hF k hk).2
theorem grown_set (w : World) (g i : Nat) (u : Value) : w.grownBy (w.setCell ⟨g, i, none⟩ u) (some g) := ⟨rfl, rfl, rfl, by simp, fun k hk hne => Below.heap_setCell w _ u k (fun e => hne (by rw [e]))⟩
theorem notIn_rd (h : RdQ w (NotIn w bad) s cs d) : Rd w w.heap.size s cs d := h.rd fun _ h => h.1
end
def XS (w : World) (bad : Nat → Prop) (lo : Nat) (e : TypeId) (s : Sh) (g n c : Nat) (D : List (Dat s)) : Prop :=
 D.length = n ∧ ∃ vs : List Value, w.ownsRow lo e (nc s) (.slice (some ⟨g, 0, none⟩) n c) n vs ∧ ∀ j, j < n → RdQ w (NotIn w bad) s (cellsOf (nc s) vs j) (D.getD j (dft s))
section
variable {w w' : World} {bad bad' : Nat → Prop} {r : Option Nat} {lo g n c : Nat} {e : TypeId} {s : Sh} {D : List (Dat s)}
theorem XS.kept (h : XS w bad lo e s g n c D) (hg : w.grownBy w' r) (hr : ∀ k, r = some k → bad k) (hne : r ≠ some g) (hb : ∀ b, b < w.heap.size → bad' b → bad b) : XS w' bad' lo e s g n c D := by
 obtain ⟨h1, vs, h2, h3⟩ := h
 exact ⟨h1, vs, World.ownsRow.kept h2 hg (.inr fun q => hne q.symm), fun j hj => notIn_kept (h3 j hj) hg hr hb⟩
theorem XS.below (h : XS w bad lo e s g n c D) (hb : Below w.heap.size w w') : XS w' bad lo e s g n c D := h.kept (grown_of_below hb) (fun k e => by cases e) (fun e => by cases e) (fun _ _ h => h)
theorem XS.ge (h : XS w bad lo e s g n c D) : lo ≤ g ∧ g < w.heap.size := by
 obtain ⟨_, vs, ho, _⟩ := h
 exact World.ownsRow.lt ho g rfl
theorem XS.len (h : XS w bad lo e s g n c D) : D.length = n := h.1
theorem XS.rd {e0 : TypeId} (h : XS w bad lo e s g n c D) : Rd w w.heap.size (.row e0 s) [.slice (some ⟨g, 0, none⟩) n c] D := by
 obtain ⟨h1, vs, ho, h3⟩ := h
 rcases ho.2 with ⟨e1, h0⟩ | ⟨g', cap, cur, e1, hg, hrow, hn, hm, hs, ht⟩
 ·injection e1 with a1 a2 a3
  cases a1
 ·injection e1 with a1 a2 a3
  injection a1 with a1
  injection a1 with a1
  subst a1 a3
  refine ⟨_, n, c, rfl, ⟨hn, by unfold maxLen at hm; omega, fun e => by cases e⟩, h1, fun h0 => ⟨g, 0, rfl, (Array.getElem?_eq_some_iff.1 hrow).1, fun j hj => ⟨cellsOf (nc s) vs j, (h3 j hj).len, fun i hi => ?_, notIn_rd (h3 j hj)⟩⟩⟩
  have hl := (h3 j hj).len
  have hi : i < nc s := by omega
  have hjn : j * nc s + nc s ≤ n * nc s := by
   have := Nat.mul_le_mul_right (nc s) (show j + 1 ≤ n by omega)
   rw [Nat.add_mul] at this
   omega
  rw [Nat.zero_add, Row.cell (t := e) (cs := cur) hrow]
  have h5 : cur.toList[j * nc s + i]? = vs[j * nc s + i]? := by
   rw [← ht, List.getElem?_take, if_pos (by omega)]
  rw [← Array.getElem?_toList, h5]
  unfold cellsOf
  rw [List.getElem?_take, if_pos hi, List.getElem?_drop]
theorem XS.single {es : List Value} {y : Dat s} (hr : Row w g e es.toArray) (hv : RdQ w (NotIn w bad) s es y) (hlo : lo ≤ g) : XS w bad lo e s g 1 1 [y] := by
 have hel := hv.len
 refine ⟨rfl, es, ⟨by rw [hel]; simp, .inr ⟨g, 1, es.toArray, rfl, hlo, hr, Nat.le_refl _, by unfold maxLen; omega, by simp [hel], by simp [← hel]⟩⟩, fun j hj => ?_⟩
 obtain rfl : j = 0 := by omega
 have : cellsOf (nc s) es 0 = es := by unfold cellsOf; rw [Nat.zero_mul, List.drop_zero, List.take_of_length_le (by omega)]
 rw [this]; exact hv
theorem XS.app {vs es : List Value} {x : Dat s} {g' c' : Nat} (hl : D.length = n) (hr : w.ownsRow lo e (nc s) (.slice (some ⟨g, 0, none⟩) n c) n vs) (hin : ∀ j, j < n → RdQ w (NotIn w bad) s (cellsOf (nc s) vs j) (D.getD j (dft s))) (hv : RdQ w (NotIn w bad) s es x)
  (hown' : w'.ownsRow lo e (nc s) (.slice (some ⟨g', 0, none⟩) (n + 1) c') (n + 1) (vs ++ es)) (hg : w.grownBy w' (some g)) (hbad : bad g) (hb : ∀ b, b < w.heap.size → bad' b → bad b) : XS w' bad' lo e s g' (n + 1) c' (D ++ [x]) := by
 have hvl : vs.length = n * nc s := hr.1
 have hel := hv.len
 have keep : ∀ {us : List Value} {y : Dat s}, RdQ w (NotIn w bad) s us y → RdQ w' (NotIn w' bad') s us y := fun hu => notIn_kept hu hg (fun k e => by injection e with e; rw [← e]; exact hbad) hb
 refine ⟨by simp [hl], vs ++ es, hown', fun j hj => ?_⟩
 by_cases ej : j = n
 ·subst ej
  rw [show (D ++ [x]).getD j (dft s) = x by simp [List.getD, ← hl]]
  have : cellsOf (nc s) (vs ++ es) j = es := by
   unfold cellsOf
   rw [List.drop_append_of_le_length (by omega), List.drop_of_length_le (by omega), List.nil_append, List.take_of_length_le (by omega)]
  rw [this]
  exact keep hv
 ·rw [show (D ++ [x]).getD j (dft s) = D.getD j (dft s) by simp [List.getD, List.getElem?_append_left (show j < D.length by omega)]]
  have hjn : j * nc s + nc s ≤ n * nc s := by
   have := Nat.mul_le_mul_right (nc s) (show j + 1 ≤ n by omega)
   rw [Nat.add_mul] at this
   omega
  have : cellsOf (nc s) (vs ++ es) j = cellsOf (nc s) vs j := by
   unfold cellsOf
   rw [List.drop_append_of_le_length (by omega), List.take_append_of_le_length (by rw [List.length_drop]; omega)]
  rw [this]
  exact keep (hin j (by omega))
end
theorem wp_appX {w : World} {o : Oper} {a : Act} {K : Act → World → Prop} {Q : Exit → Act → World → Prop} (sx x : Operand) (T e : TypeId) (s : Sh) (z : Value) (bytes : Nat) (hT : Try.prog.underlying T = some (.slice e))
  (hI : (Try.prog.info? e).map (fun i => (i.zero, i.size, i.bytes)) = some (some z, nc s, bytes)) (hzc : z.cells.size = nc s) (hby : bytes ≤ 4096)
  (ho : o.op = .call { callee := .builtin .append, args := #[sx, x], argTypes := #[T, T] })
  (bad : Nat → Prop) (lo g n c q c2 : Nat) (D : List (Dat s)) (es : List Value) (y : Dat s) (hs : a.eval sx = .slice (some ⟨g, 0, none⟩) n c) (hown : XS w bad lo e s g n c D) (hbad : bad g) (hxv : a.eval x = .slice (some ⟨q, 0, none⟩) 1 c2)
  (hy : ∀ i, i < es.length → w.cell? ⟨q, i, none⟩ = es[i]?) (hv : RdQ w (NotIn w bad) s es y) (hn : n ≤ 1048576) (hlo : lo ≤ w.heap.size)
  (h : ∀ g' c' w', (∀ bad' : Nat → Prop, (∀ b, b < w.heap.size → bad' b → bad b) → XS w' bad' lo e s g' (n + 1) c' (D ++ [y])) → w.grownBy w' (some g) → (g' = g ∨ g' = w.heap.size) → Below lo w w' → K (a.put o.dst (.slice (some ⟨g', 0, none⟩) (n + 1) c')) w') : o.wp Try.prog a w K Q := by
 obtain ⟨i0, hi', hz0, hz1, hz2⟩ := info_parts hI
 obtain ⟨h1, vs, hr, hin⟩ := hown
 have hel := hv.len
 have hcells : ∀ j u, es[j]? = some u → w.cell? ((⟨q, 0, none⟩ : Addr).add j) = some u := fun j u hj => by
  have e2 : (⟨q, 0, none⟩ : Addr).add j = ⟨q, j, none⟩ := by unfold Addr.add; split <;> simp_all
  rw [e2, hy j (List.getElem?_eq_some_iff.1 hj).1, hj]
 obtain ⟨v', w', hrun, hown', hg, hnn, hat⟩ := run_append_own_at (P := Try.prog) w lo T o.type e i0 z (nc s) bytes hT hi' hz0 hz1 hz2 hzc (nc_pos s) (.slice (some ⟨g, 0, none⟩) n c) n vs hr ⟨q, 0, none⟩ 1 c2 es (by rw [hel]; simp) hcells hv.one (by unfold maxLen; omega) (by have h1 : (n + 1) * bytes ≤ 1048577 * 4096 := Nat.mul_le_mul (by omega) hby; omega) hlo
 rw [blk_own] at hg
 obtain ⟨g', c', rfl⟩ : ∃ g' c', v' = .slice (some ⟨g', 0, none⟩) (n + 1) c' := by
  rcases hown'.2 with ⟨_, h0⟩ | ⟨g', cap, cur, e1, _⟩
  ·omega
  ·exact ⟨_, _, e1⟩
 have hat2 : g' = g ∨ g' = w.heap.size := by
  rw [blk_own, blk_own] at hat
  exact hat.imp (fun e => by injection e) (fun e => by injection e)
 unfold Oper.wp execOp
 simp only [ho, resolve, invoke, builtin, Sem.run_bind, Sem.run_pure, Result.andThen_ok, List.map_toArray, List.map_cons, List.map_nil, hs, hxv, hrun]
 exact h g' c' w' (fun bad' hb => XS.app h1 hr hin hv hown' hg hbad hb) hg hat2 ((Below.refl lo w).grown hg hlo (fun k hk => by injection hk with hk; rw [← hk]; exact (World.ownsRow.lt hr g rfl).1))
theorem appXm {w : World} {ops : Array Oper} {rest : List Oper} {o : Oper} {a : Act} {Q : Exit → Act → World → Prop} (hgd : o.guard = none) (sx x : Operand) (T e : TypeId) (s : Sh) (z : Value) (bytes : Nat) (hT : Try.prog.underlying T = some (.slice e))
  (hI : (Try.prog.info? e).map (fun i => (i.zero, i.size, i.bytes)) = some (some z, nc s, bytes)) (hzc : z.cells.size = nc s) (hby : bytes ≤ 4096)
  (ho : o.op = .call { callee := .builtin .append, args := #[sx, x], argTypes := #[T, T] })
  (bad : Nat → Prop) (lo g n c q c2 : Nat) (D : List (Dat s)) (es : List Value) (y : Dat s) (hs : a.eval sx = .slice (some ⟨g, 0, none⟩) n c) (hown : XS w bad lo e s g n c D) (hbad : bad g) (hxv : a.eval x = .slice (some ⟨q, 0, none⟩) 1 c2)
  (hy : ∀ i, i < es.length → w.cell? ⟨q, i, none⟩ = es[i]?) (hv : RdQ w (NotIn w bad) s es y) (hn : n ≤ 1048576) (hlo : lo ≤ w.heap.size)
  (h : ∀ g' c' w', (∀ bad' : Nat → Prop, (∀ b, b < w.heap.size → bad' b → bad b) → XS w' bad' lo e s g' (n + 1) c' (D ++ [y])) → w.grownBy w' (some g) → (g' = g ∨ g' = w.heap.size) → Below lo w w' → wpList Try.prog ops Q rest (a.put o.dst (.slice (some ⟨g', 0, none⟩) (n + 1) c')) w') : wpList Try.prog ops Q (o :: rest) a w :=
 wpList_plain hgd fun _ hK => wp_appX sx x T e s z bytes hT hI hzc hby ho bad lo g n c q c2 D es y hs hown hbad hxv hy hv hn hlo fun g' c' w' h1 h2 h3 h4 => hK _ _ (h g' c' w' h1 h2 h3 h4)
def bad5 (lo B g1 g2 g3 g4 : Nat) (b : Nat) : Prop := b < lo ∨ b = B ∨ b = g1 ∨ b = g2 ∨ b = g3 ∨ b = g4
structure Fo (w : World) (lo B g1 n1 c1 g2 n2 c2 g3 n3 c3 g4 n4 c4 : Nat) (D1 : List (List Int)) (D2 : List Int) (D3 : List St) (D4 : List Int) (fl : Bool) : Prop where
 row : Row w B 79 #[.slice (some ⟨g1, 0, none⟩) n1 c1, .slice (some ⟨g2, 0, none⟩) n2 c2, .slice (some ⟨g3, 0, none⟩) n3 c3, .slice (some ⟨g4, 0, none⟩) n4 c4, .bool fl]
 x1 : XS w (bad5 lo B g1 g2 g3 g4) lo 22 sI g1 n1 c1 D1
 x2 : XS w (bad5 lo B g1 g2 g3 g4) lo 2 .num g2 n2 c2 D2
 x3 : XS w (bad5 lo B g1 g2 g3 g4) lo 92 sStep g3 n3 c3 D3
 x4 : XS w (bad5 lo B g1 g2 g3 g4) lo 2 .num g4 n4 c4 D4
 dis : B ≠ g1 ∧ B ≠ g2 ∧ B ≠ g3 ∧ B ≠ g4 ∧ g1 ≠ g2 ∧ g1 ≠ g3 ∧ g1 ≠ g4 ∧ g2 ≠ g3 ∧ g2 ≠ g4 ∧ g3 ≠ g4
section
variable {w w' : World} {lo B g1 n1 c1 g2 n2 c2 g3 n3 c3 g4 n4 c4 : Nat} {D1 : List (List Int)} {D2 : List Int} {D3 : List St} {D4 : List Int} {fl : Bool}
theorem Fo.below (h : Fo w lo B g1 n1 c1 g2 n2 c2 g3 n3 c3 g4 n4 c4 D1 D2 D3 D4 fl) (hb : Below w.heap.size w w') : Fo w' lo B g1 n1 c1 g2 n2 c2 g3 n3 c3 g4 n4 c4 D1 D2 D3 D4 fl :=
 ⟨h.row.next hb, h.x1.below hb, h.x2.below hb, h.x3.below hb, h.x4.below hb, h.dis⟩
theorem bad_lt (h : Fo w lo B g1 n1 c1 g2 n2 c2 g3 n3 c3 g4 n4 c4 D1 D2 D3 D4 fl) {k : Nat} (hk : bad5 lo B g1 g2 g3 g4 k) : k < w.heap.size := by
 have h0 := h.row.lt
 have h1 := h.x1.ge
 have h2 := h.x2.ge
 have h3 := h.x3.ge
 have h4 := h.x4.ge
 unfold bad5 at hk
 omega
theorem Fo.app1 (h : Fo w lo B g1 n1 c1 g2 n2 c2 g3 n3 c3 g4 n4 c4 D1 D2 D3 D4 fl) {g' c' : Nat} {x : List Int} (hx : ∀ bad' : Nat → Prop, (∀ b, b < w.heap.size → bad' b → bad5 lo B g1 g2 g3 g4 b) → XS w' bad' lo 22 sI g' (n1 + 1) c' (D1 ++ [x])) (hg : w.grownBy w' (some g1)) (hat : g' = g1 ∨ g' = w.heap.size) :
  Fo (w'.setCell ⟨B, 0, none⟩ (.slice (some ⟨g', 0, none⟩) (n1 + 1) c')) lo B g' (n1 + 1) c' g2 n2 c2 g3 n3 c3 g4 n4 c4 (D1 ++ [x]) D2 D3 D4 fl := by
 obtain ⟨d1, d2, d3, d4, d5, d6, d7, d8, d9, d10⟩ := h.dis
 have l0 := h.row.lt
 have l2 := h.x2.ge
 have l3 := h.x3.ge
 have l4 := h.x4.ge
 have hb : ∀ b, b < w.heap.size → bad5 lo B g' g2 g3 g4 b → bad5 lo B g1 g2 g3 g4 b := fun b hb q => by unfold bad5 at q ⊢; omega
 have hr : ∀ k, some g1 = some k → bad5 lo B g1 g2 g3 g4 k := fun k e => by injection e with e; unfold bad5; omega
 have hB : ∀ k, some B = some k → bad5 lo B g' g2 g3 g4 k := fun k e => by injection e with e; unfold bad5; omega
 have hs := grown_set w' B 0 (.slice (some ⟨g', 0, none⟩) (n1 + 1) c')
 refine ⟨Row.put (Row.away h.row hg (fun e => d1 (by injection e with e; exact e.symm))) 0 _, (hx _ hb).kept hs hB (fun e => by injection e with e; omega) (fun _ _ q => q), (h.x2.kept hg hr (fun e => d5 (by injection e)) hb).kept hs hB (fun e => d2 (by injection e)) (fun _ _ q => q), (h.x3.kept hg hr (fun e => d6 (by injection e)) hb).kept hs hB (fun e => d3 (by injection e)) (fun _ _ q => q), (h.x4.kept hg hr (fun e => d7 (by injection e)) hb).kept hs hB (fun e => d4 (by injection e)) (fun _ _ q => q), ?_⟩
 omega
theorem Fo.app2 (h : Fo w lo B g1 n1 c1 g2 n2 c2 g3 n3 c3 g4 n4 c4 D1 D2 D3 D4 fl) {g' c' : Nat} {x : Int} (hx : ∀ bad' : Nat → Prop, (∀ b, b < w.heap.size → bad' b → bad5 lo B g1 g2 g3 g4 b) → XS w' bad' lo 2 .num g' (n2 + 1) c' (D2 ++ [x])) (hg : w.grownBy w' (some g2)) (hat : g' = g2 ∨ g' = w.heap.size) :
  Fo (w'.setCell ⟨B, 1, none⟩ (.slice (some ⟨g', 0, none⟩) (n2 + 1) c')) lo B g1 n1 c1 g' (n2 + 1) c' g3 n3 c3 g4 n4 c4 D1 (D2 ++ [x]) D3 D4 fl := by
 obtain ⟨d1, d2, d3, d4, d5, d6, d7, d8, d9, d10⟩ := h.dis
 have l0 := h.row.lt
 have l1 := h.x1.ge
 have l3 := h.x3.ge
 have l4 := h.x4.ge
 have hb : ∀ b, b < w.heap.size → bad5 lo B g1 g' g3 g4 b → bad5 lo B g1 g2 g3 g4 b := fun b hb q => by unfold bad5 at q ⊢; omega
 have hr : ∀ k, some g2 = some k → bad5 lo B g1 g2 g3 g4 k := fun k e => by injection e with e; unfold bad5; omega
 have hB : ∀ k, some B = some k → bad5 lo B g1 g' g3 g4 k := fun k e => by injection e with e; unfold bad5; omega
 have hs := grown_set w' B 1 (.slice (some ⟨g', 0, none⟩) (n2 + 1) c')
 refine ⟨Row.put (Row.away h.row hg (fun e => d2 (by injection e with e; exact e.symm))) 1 _, (h.x1.kept hg hr (fun e => d5 (by injection e with e; exact e.symm)) hb).kept hs hB (fun e => d1 (by injection e)) (fun _ _ q => q), (hx _ hb).kept hs hB (fun e => by injection e with e; omega) (fun _ _ q => q), (h.x3.kept hg hr (fun e => d8 (by injection e)) hb).kept hs hB (fun e => d3 (by injection e)) (fun _ _ q => q), (h.x4.kept hg hr (fun e => d9 (by injection e)) hb).kept hs hB (fun e => d4 (by injection e)) (fun _ _ q => q), ?_⟩
 omega
theorem Fo.app3 (h : Fo w lo B g1 n1 c1 g2 n2 c2 g3 n3 c3 g4 n4 c4 D1 D2 D3 D4 fl) {g' c' : Nat} {x : St} (hx : ∀ bad' : Nat → Prop, (∀ b, b < w.heap.size → bad' b → bad5 lo B g1 g2 g3 g4 b) → XS w' bad' lo 92 sStep g' (n3 + 1) c' (D3 ++ [x])) (hg : w.grownBy w' (some g3)) (hat : g' = g3 ∨ g' = w.heap.size) :
  Fo (w'.setCell ⟨B, 2, none⟩ (.slice (some ⟨g', 0, none⟩) (n3 + 1) c')) lo B g1 n1 c1 g2 n2 c2 g' (n3 + 1) c' g4 n4 c4 D1 D2 (D3 ++ [x]) D4 fl := by
 obtain ⟨d1, d2, d3, d4, d5, d6, d7, d8, d9, d10⟩ := h.dis
 have l0 := h.row.lt
 have l1 := h.x1.ge
 have l2 := h.x2.ge
 have l4 := h.x4.ge
 have hb : ∀ b, b < w.heap.size → bad5 lo B g1 g2 g' g4 b → bad5 lo B g1 g2 g3 g4 b := fun b hb q => by unfold bad5 at q ⊢; omega
 have hr : ∀ k, some g3 = some k → bad5 lo B g1 g2 g3 g4 k := fun k e => by injection e with e; unfold bad5; omega
 have hB : ∀ k, some B = some k → bad5 lo B g1 g2 g' g4 k := fun k e => by injection e with e; unfold bad5; omega
 have hs := grown_set w' B 2 (.slice (some ⟨g', 0, none⟩) (n3 + 1) c')
 refine ⟨Row.put (Row.away h.row hg (fun e => d3 (by injection e with e; exact e.symm))) 2 _, (h.x1.kept hg hr (fun e => d6 (by injection e with e; exact e.symm)) hb).kept hs hB (fun e => d1 (by injection e)) (fun _ _ q => q), (h.x2.kept hg hr (fun e => d8 (by injection e with e; exact e.symm)) hb).kept hs hB (fun e => d2 (by injection e)) (fun _ _ q => q), (hx _ hb).kept hs hB (fun e => by injection e with e; omega) (fun _ _ q => q), (h.x4.kept hg hr (fun e => d10 (by injection e)) hb).kept hs hB (fun e => d4 (by injection e)) (fun _ _ q => q), ?_⟩
 omega
theorem Fo.app4 (h : Fo w lo B g1 n1 c1 g2 n2 c2 g3 n3 c3 g4 n4 c4 D1 D2 D3 D4 fl) {g' c' : Nat} {x : Int} (hx : ∀ bad' : Nat → Prop, (∀ b, b < w.heap.size → bad' b → bad5 lo B g1 g2 g3 g4 b) → XS w' bad' lo 2 .num g' (n4 + 1) c' (D4 ++ [x])) (hg : w.grownBy w' (some g4)) (hat : g' = g4 ∨ g' = w.heap.size) :
  Fo (w'.setCell ⟨B, 3, none⟩ (.slice (some ⟨g', 0, none⟩) (n4 + 1) c')) lo B g1 n1 c1 g2 n2 c2 g3 n3 c3 g' (n4 + 1) c' D1 D2 D3 (D4 ++ [x]) fl := by
 obtain ⟨d1, d2, d3, d4, d5, d6, d7, d8, d9, d10⟩ := h.dis
 have l0 := h.row.lt
 have l1 := h.x1.ge
 have l2 := h.x2.ge
 have l3 := h.x3.ge
 have hb : ∀ b, b < w.heap.size → bad5 lo B g1 g2 g3 g' b → bad5 lo B g1 g2 g3 g4 b := fun b hb q => by unfold bad5 at q ⊢; omega
 have hr : ∀ k, some g4 = some k → bad5 lo B g1 g2 g3 g4 k := fun k e => by injection e with e; unfold bad5; omega
 have hB : ∀ k, some B = some k → bad5 lo B g1 g2 g3 g' k := fun k e => by injection e with e; unfold bad5; omega
 have hs := grown_set w' B 3 (.slice (some ⟨g', 0, none⟩) (n4 + 1) c')
 refine ⟨Row.put (Row.away h.row hg (fun e => d4 (by injection e with e; exact e.symm))) 3 _, (h.x1.kept hg hr (fun e => d7 (by injection e with e; exact e.symm)) hb).kept hs hB (fun e => d1 (by injection e)) (fun _ _ q => q), (h.x2.kept hg hr (fun e => d9 (by injection e with e; exact e.symm)) hb).kept hs hB (fun e => d2 (by injection e)) (fun _ _ q => q), (h.x3.kept hg hr (fun e => d10 (by injection e with e; exact e.symm)) hb).kept hs hB (fun e => d3 (by injection e)) (fun _ _ q => q), (hx _ hb).kept hs hB (fun e => by injection e with e; omega) (fun _ _ q => q), ?_⟩
 omega
theorem Fo.flag (h : Fo w lo B g1 n1 c1 g2 n2 c2 g3 n3 c3 g4 n4 c4 D1 D2 D3 D4 fl) (u : Bool) : Fo (w.setCell ⟨B, 4, none⟩ (.bool u)) lo B g1 n1 c1 g2 n2 c2 g3 n3 c3 g4 n4 c4 D1 D2 D3 D4 u := by
 obtain ⟨d1, d2, d3, d4, -⟩ := h.dis
 have hs := grown_set w B 4 (.bool u)
 have hB : ∀ k, some B = some k → bad5 lo B g1 g2 g3 g4 k := fun k e => by injection e with e; unfold bad5; omega
 exact ⟨Row.put h.row 4 _, h.x1.kept hs hB (fun e => d1 (by injection e)) (fun _ _ q => q), h.x2.kept hs hB (fun e => d2 (by injection e)) (fun _ _ q => q), h.x3.kept hs hB (fun e => d3 (by injection e)) (fun _ _ q => q), h.x4.kept hs hB (fun e => d4 (by injection e)) (fun _ _ q => q), h.dis⟩
theorem Fo.far (h : Fo w lo B g1 n1 c1 g2 n2 c2 g3 n3 c3 g4 n4 c4 D1 D2 D3 D4 fl) {q : Nat} (i : Nat) (u : Value) (hq : q < lo) (hqB : B ≠ q) : Fo (w.setCell ⟨q, i, none⟩ u) lo B g1 n1 c1 g2 n2 c2 g3 n3 c3 g4 n4 c4 D1 D2 D3 D4 fl := by
 have hs := grown_set w q i u
 have l1 := h.x1.ge
 have l2 := h.x2.ge
 have l3 := h.x3.ge
 have l4 := h.x4.ge
 have hB : ∀ k, some q = some k → bad5 lo B g1 g2 g3 g4 k := fun k e => by injection e with e; unfold bad5; omega
 exact ⟨Row.far h.row hqB u, h.x1.kept hs hB (fun e => by injection e with e; omega) (fun _ _ q => q), h.x2.kept hs hB (fun e => by injection e with e; omega) (fun _ _ q => q), h.x3.kept hs hB (fun e => by injection e with e; omega) (fun _ _ q => q), h.x4.kept hs hB (fun e => by injection e with e; omega) (fun _ _ q => q), h.dis⟩
end
end findW
end
end Go.Proofs.Ytblhmplpcdcejaa
