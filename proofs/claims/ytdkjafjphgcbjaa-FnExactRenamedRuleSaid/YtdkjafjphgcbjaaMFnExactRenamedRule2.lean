/-
  MERGED: my texts Shape2, KindsR, End, TermOk, VarsMath, Term2, TermFacts, Copy, Vars, AnsB, Shelf, Sorted, one behind the other, as they are. By an AI agent.
-/
import Derived.Test.YtdkjafjphgcbjaaMFnExactRenamedRule1
import Derived.Deep.RegionHeld3
import Derived.WalkSpells
import Derived.Shelf.SlGeneric
import Derived.Ground.SlgnProg
import Derived.Shelf.SortG.Plain
import Derived.Shelf.SortG.SortNone
import Derived.Shelf.SlicesG.CompactI
import Derived.Test.YtdkjafjphgcbjaaProg
section
/-
  SHAPES, the steps of the laws' helpers: an element of a slice, a slice that is being copied, an element that turns, the forms of the contracts. Conditions: none; plain lemmas. By an AI agent.
-/
namespace Go.Proofs.Ytdkjafjphgcbjaa.shape
open Go.RowKit Go.Proofs.Ytdkjafjphgcbjaa.base Go.Proofs.Ytdkjafjphgcbjaa.ints Go.Proofs.Ytdkjafjphgcbjaa.sig Go.Proofs.Ytdkjafjphgcbjaa.cursor Go.Proofs.Ytdkjafjphgcbjaa.marks Go.Proofs.Ytdkjafjphgcbjaa.app Go.Proofs.Ytdkjafjphgcbjaa.sym Go.Proofs.Ytdkjafjphgcbjaa.appAt Go.Proofs.Ytdkjafjphgcbjaa.segs Go.Proofs.Ytdkjafjphgcbjaa.segsHelp Go.Proofs.Ytdkjafjphgcbjaa.segsMark Go.Proofs.Ytdkjafjphgcbjaa.kinds

/-- only the blocks F, and what is new, have turned -/
structure Only (F : List Nat) (w w' : World) : Prop where
  os : w'.os = w.os
  tape : w'.tape = w.tape
  output : w'.output = w.output
  size : w.heap.size ≤ w'.heap.size
  block : ∀ k, k < w.heap.size → k ∉ F → w'.heap[k]? = w.heap[k]?
section
variable {w w' w2 : World} {B : Nat} {s : Sh} {e : TypeId} {v : Value} {F G : List Nat}
theorem Only.refl (F : List Nat) (w : World) : Only F w w := ⟨rfl, rfl, rfl, Nat.le_refl _, fun _ _ _ => rfl⟩
theorem Only.of_below (h : Below w.heap.size w w') : Only F w w' := ⟨h.os, h.tape, h.output, h.size, fun k hk _ => h.block k hk⟩
theorem Only.trans (h : Only F w w') (k : Only F w' w2) : Only F w w2 :=
  ⟨k.os.trans h.os, k.tape.trans h.tape, k.output.trans h.output, Nat.le_trans h.size k.size, fun i hi ho => (k.block i (Nat.lt_of_lt_of_le hi h.size) ho).trans (h.block i hi ho)⟩
theorem Only.wider (h : Only F w w') (hF : ∀ k ∈ F, k ∈ G) : Only G w w' := ⟨h.os, h.tape, h.output, h.size, fun k hk ho => h.block k hk fun hk2 => ho (hF k hk2)⟩
theorem Only.btw {lo hi : Nat} (h : Only F w w') (hF : ∀ k ∈ F, lo ≤ k ∧ k < hi) : Btw lo hi w w' := ⟨h.os, h.tape, h.output, h.size, fun k hk ho => h.block k hk fun hk2 => by have := hF k hk2; omega⟩
theorem Only.put {g i : Nat} {u : Value} (hg : g ∈ F) : Only F w (w.setCell ⟨g, i, none⟩ u) :=
  ⟨rfl, rfl, rfl, by simp, fun k _ hk => Below.heap_setCell w _ u k (fun e => by
    have e : k = g := e
    rw [e] at hk
    exact hk hg)⟩
theorem Ow.only {cs : List Value} {d : Dat s} (h : Ow w s cs d F) (ho : Only G w w') (hd : ∀ k ∈ F, k ∉ G) : Ow w' s cs d F := h.keep fun k hk => ho.block k (h.lt k hk) (hd k hk)

/-- an element of a slice -/
theorem Rd.elem {D : List (Dat s)} {j : Nat} (h : Rd w B (.row e s) [v] D) (hj : j < D.length) : ∃ b off n c es, v = .slice (some ⟨b, off, none⟩) n c ∧ D.length = n ∧ n ≤ c ∧ b < B ∧ es.length = nc s ∧ Piece w b (off + j * nc s) es ∧ Rd w B s es (D.getD j (dft s)) := by
  obtain ⟨A, n, c, e1, hc, hl, h1⟩ := h
  injection e1 with e1
  subst hl
  obtain ⟨b, off, e2, hb, h2⟩ := h1 (by omega)
  obtain ⟨es, he, hp, hr⟩ := h2 j hj
  exact ⟨b, off, _, c, es, by rw [e1, e2], rfl, hc.1, hb, he, hp, hr⟩
theorem Rd.slice {D : List (Dat s)} (h : Rd w B (.row e s) [v] D) : ∃ A c, v = .slice A D.length c ∧ Cap A D.length c := by
  obtain ⟨A, n, c, e1, hc, hl, h1⟩ := h
  injection e1 with e1
  subst hl
  exact ⟨A, c, e1, hc⟩
theorem rd_cat {a b : Sh} {cs : List Value} {x : Dat a} {y : Dat b} (h : Rd w B (.cat a b) cs (x, y)) : ∃ ca cb, cs = ca ++ cb ∧ ca.length = nc a ∧ cb.length = nc b ∧ Rd w B a ca x ∧ Rd w B b cb y := by
  obtain ⟨ca, cb, e, h1, h2⟩ := h
  exact ⟨ca, cb, e, h1.len, h2.len, h1, h2⟩
theorem ow_cat {a b : Sh} {cs : List Value} {d : Dat (.cat a b)} (h : Ow w (.cat a b) cs d F) : ∃ ca cb Fa Fb, cs = ca ++ cb ∧ F = Fa ++ Fb ∧ ca.length = nc a ∧ cb.length = nc b ∧ Ow w a ca d.1 Fa ∧ Ow w b cb d.2 Fb := by
  obtain ⟨ca, cb, Fa, Fb, e, e2, h1, h2⟩ := h
  exact ⟨ca, cb, Fa, Fb, e, e2, h1.len, h2.len, h1, h2⟩

theorem nodup_flat {G : Nat → List Nat} {n : Nat} (h : ((List.range n).flatMap G).Nodup) {i j : Nat} (hi : i < n) (hj : j < n) (hne : i ≠ j) {k : Nat} (hk : k ∈ G i) : k ∉ G j := by
  induction n with
  | zero => omega
  | succ n ih =>
    rw [List.range_succ, List.flatMap_append, List.nodup_append] at h
    obtain ⟨h1, _, h3⟩ := h
    intro hk2
    by_cases e1 : i = n
    · subst e1
      exact h3 k (List.mem_flatMap.2 ⟨j, List.mem_range.2 (by omega), hk2⟩) k (by simpa using hk) rfl
    · by_cases e2 : j = n
      · subst e2
        exact h3 k (List.mem_flatMap.2 ⟨i, List.mem_range.2 (by omega), hk⟩) k (by simpa using hk2) rfl
      · exact ih h1 (by omega) (by omega) hk2
theorem nodup_part {G : Nat → List Nat} {n : Nat} (h : ((List.range n).flatMap G).Nodup) {j : Nat} (hj : j < n) : (G j).Nodup := by
  induction n with
  | zero => omega
  | succ n ih =>
    rw [List.range_succ, List.flatMap_append, List.nodup_append] at h
    obtain ⟨h1, h2, h3⟩ := h
    by_cases e : j = n
    · subst e; simpa using h2
    · exact ih h1 (by omega)

/-- an element of a slice of the call's own, and what becomes of the slice when the element turns -/
theorem Ow.elem {D : List (Dat s)} {j : Nat} (h : Ow w (.row e s) [v] D F) (hF : F.Nodup) (hj : j < D.length) :
    ∃ g n c es Gj, v = .slice (some ⟨g, 0, none⟩) n c ∧ D.length = n ∧ es.length = nc s ∧ Piece w g (j * nc s) es ∧ (∀ i, w.frozen? ⟨g, i, none⟩ = false) ∧ Ow w s es (D.getD j (dft s)) Gj ∧ g ∈ F ∧ Gj.Nodup ∧ g ∉ Gj ∧ (∀ k ∈ Gj, k ∈ F) ∧
      ∀ (w2 : World) (es2 : List Value) (d2 : Dat s), es2.length = nc s → Piece w2 g (j * nc s) es2 → Ow w2 s es2 d2 Gj → Only (g :: Gj) w w2 →
        (∀ cur, Row w g e cur → ∃ cur2, Row w2 g e cur2 ∧ cur2.size = cur.size ∧ ∀ q, (q < j * nc s ∨ j * nc s + nc s ≤ q) → cur2[q]? = cur[q]?) → Ow w2 (.row e s) [v] (D.set j d2) F := by
  obtain ⟨A, n, c, e1, hl, h1⟩ := h
  injection e1 with e1
  rcases h1 with ⟨_, e2, _⟩ | ⟨g, cur, E, G, e2, hr, h2, h3, h4, h5, h6⟩
  · omega
  subst e1 e2 h5
  rw [List.nodup_cons] at hF
  obtain ⟨q1, q2, q3⟩ := h6 j (by omega)
  refine ⟨g, n, c, E j, G j, rfl, hl, q1, fun i hi => by rw [hr.cell]; exact q2 i (by omega), fun i => hr.free i, q3, List.mem_cons_self .., nodup_part hF.2 (by omega), fun hg => hF.1 (List.mem_flatMap.2 ⟨j, List.mem_range.2 (by omega), hg⟩),
    fun k hk => List.mem_cons_of_mem _ (List.mem_flatMap.2 ⟨j, List.mem_range.2 (by omega), hk⟩), fun w2 es2 d2 hl2 hp2 ho2 hon hcur => ?_⟩
  obtain ⟨cur2, hr2, hs2, hc2⟩ := hcur cur hr
  refine ⟨_, n, c, rfl, by simpa using hl, .inr ⟨g, cur2, fun i => if i = j then es2 else E i, G, rfl, hr2, h2, h3, by rw [hs2]; exact h4, rfl, fun i hi => ?_⟩⟩
  by_cases ei : i = j
  · subst ei
    dsimp only
    rw [if_pos rfl]
    refine ⟨hl2, fun q hq => by rw [← hr2.cell, hp2 q (by omega)], ?_⟩
    have : (D.set i d2).getD i (dft s) = d2 := by simp [List.getD, hj]
    rw [this]; exact ho2
  · dsimp only
    rw [if_neg ei]
    obtain ⟨p1, p2, p3⟩ := h6 i hi
    refine ⟨p1, fun q hq => ?_, ?_⟩
    · have : i * nc s + q < j * nc s ∨ j * nc s + nc s ≤ i * nc s + q := by
        rcases Nat.lt_or_ge i j with h | h
        · left
          have := Nat.mul_le_mul_right (nc s) (show i + 1 ≤ j by omega)
          rw [Nat.add_mul] at this
          omega
        · right
          have := Nat.mul_le_mul_right (nc s) (show j + 1 ≤ i by omega)
          rw [Nat.add_mul] at this
          omega
      rw [hc2 _ this]
      exact p2 q hq
    · have : (D.set j d2).getD i (dft s) = D.getD i (dft s) := by simp [List.getD, List.getElem?_set_ne (show j ≠ i by omega)]
      rw [this]
      refine p3.only hon fun k hk hk2 => ?_
      rcases List.mem_cons.1 hk2 with hk2 | hk2
      · subst hk2
        exact hF.1 (List.mem_flatMap.2 ⟨i, List.mem_range.2 hi, hk⟩)
      · exact nodup_flat hF.2 hi (by omega) ei hk hk2
/-- the same where the element's own cells stay -/
theorem Ow.elem' {D : List (Dat s)} {j : Nat} (h : Ow w (.row e s) [v] D F) (hF : F.Nodup) (hj : j < D.length) :
    ∃ g n c es Gj, v = .slice (some ⟨g, 0, none⟩) n c ∧ D.length = n ∧ es.length = nc s ∧ Piece w g (j * nc s) es ∧ g < w.heap.size ∧ Ow w s es (D.getD j (dft s)) Gj ∧ Gj.Nodup ∧ g ∉ Gj ∧ (∀ k ∈ Gj, k ∈ F) ∧
      ∀ (w2 : World) (d2 : Dat s), Ow w2 s es d2 Gj → Only Gj w w2 → Ow w2 (.row e s) [v] (D.set j d2) F := by
  obtain ⟨g, n, c, es, Gj, h1, h2, h3, h4, h5, h6, h7, h8, h9, h10, h11⟩ := h.elem hF hj
  have hg := h.lt g h7
  refine ⟨g, n, c, es, Gj, h1, h2, h3, h4, hg, h6, h8, h9, h10, fun w2 d2 ho hon => h11 w2 es d2 h3 (h4.keep fun p hp => ?_) ho (hon.wider fun k hk => List.mem_cons_of_mem _ hk) fun cur hr => ⟨cur, (hon.block g hg h9).trans hr, rfl, fun _ _ => rfl⟩⟩
  exact World.cell?_of_block (by rw [hp]; exact hon.block g hg h9)

/-! ### the contracts' forms -/
def Copy1 (w : World) (s : Sh) (d : Dat s) (e : Ending) (w' : World) : Prop := ∃ A n c, e = .returned (.slice A n c) ∧ Owned w' w.heap.size w'.heap.size s [.slice A n c] d ∧ Below w.heap.size w w'
def AnsSzK (w : World) (left : Int) (t : Nat) (e : Ending) (w' : World) : Prop := e = .returned (.int .i64 (if left - t < 0 then -1 else left - t)) ∧ Below w.heap.size w w'
def Yes (w : World) (e : Ending) (w' : World) : Prop := e = .returned (.bool true) ∧ Below w.heap.size w w'
def AnsMarkF (w : World) (s : Sh) (cs : List Value) (d : Dat s) (k : Int) (F : List Nat) (e : Ending) (w' : World) : Prop := e = .returned (.int .i64 (k + (cntv s d : Int))) ∧ Ow w' s cs (mkv s k d) F ∧ Only F w w'
def AnsHeld (w : World) (z : Int) (e : Ending) (w' : World) : Prop := e = .returned (.int .i64 z) ∧ Below w.heap.size w w'

/-! ### slices of int64 -/
theorem szK_ints (v : Value) (xs : List Int) (left : Int) (w : World) (h : Rd w w.heap.size sI [v] xs) (h0 : 0 ≤ left) (h1 : left ≤ 1048576) :
    Calls Try.prog 82 #[v, .int .i64 left] w (AnsSzK w left (sz sI xs)) := by
  obtain ⟨A, n, c, rfl, hs, hc⟩ := rd_ints.1 h
  rw [sz_ints, hs.1]
  exact (szInts A n c left w (Nat.le_trans hc.1 hc.2.1) h0 h1).mono fun _ _ ⟨e1, e2⟩ => ⟨e2, e1 ▸ Below.refl _ _⟩
theorem toK_ints (v : Value) (xs : List Int) (w : World) (h : Rd w w.heap.size sI [v] xs) (hz : sz sI xs ≤ 1048576) :
    Calls Try.prog 83 #[v] w (Copy1 w sI xs) := by
  obtain ⟨A, n, c, rfl, hs, hc⟩ := rd_ints.1 h
  rw [sz_ints, hs.1] at hz
  exact (intsTo A n c xs w hs hz).mono fun _ _ ⟨g, e, ho, _, hb⟩ => ⟨_, _, _, e, ow_ints.2 ho, hb⟩
theorem eqK_ints (v v' : Value) (xs : List Int) (w : World) (h : Rd w w.heap.size sI [v] xs) (h' : Rd w w.heap.size sI [v'] xs) (hz : sz sI xs ≤ 1048576) :
    Calls Try.prog 48 #[v, v'] w (Yes w) := by
  obtain ⟨A, n, c, rfl, hs, hc⟩ := rd_ints.1 h
  obtain ⟨A', n', c', rfl, hs', hc'⟩ := rd_ints.1 h'
  rw [sz_ints, hs.1] at hz
  exact intsEq A A' n n' c c' xs w hs hs' hz
theorem ow_ints' {w : World} {A : Option Addr} {n c : Nat} {xs : List Int} {F : List Nat} (h : Ow w sI [.slice A n c] xs F) : Own w 0 (.slice A n c) xs ∧ ((blk A = none ∧ F = []) ∨ ∃ g, blk A = some g ∧ F = [g]) := by
  have h0 := h
  obtain ⟨A', n', c', e, hl, h⟩ := h
  injection e with e
  injection e with e1 e2 e3
  subst e1 e2 e3
  rcases h with ⟨rfl, rfl, rfl, rfl⟩ | ⟨g, cur, E, G, rfl, hr, h2, h3, h4, rfl, h6⟩
  · have hx : xs = [] := List.eq_nil_of_length_eq_zero hl
    subst hx
    exact ⟨Own.nil _ _, .inl ⟨rfl, rfl⟩⟩
  · have hG : (List.range n).flatMap G = [] := List.eq_nil_iff_forall_not_mem.2 fun k hk => by
      obtain ⟨j, hj, hk⟩ := List.mem_flatMap.1 hk
      have q3 := (h6 j (List.mem_range.1 hj)).2.2
      have q3 : _ ∧ G j = [] := q3
      rw [q3.2] at hk
      cases hk
    rw [hG] at h0 ⊢
    exact ⟨(ow_ints.1 ⟨[g], h0, by simp, fun k hk => ⟨Nat.zero_le _, h0.lt k hk⟩⟩ : Ownd w 0 w.heap.size _ _ _ _).1, .inr ⟨g, rfl, rfl⟩⟩
theorem ow_of {w : World} {A : Option Addr} {n c : Nat} {xs : List Int} {F : List Nat} (h : Own w 0 (.slice A n c) xs) (hF : (blk A = none ∧ F = []) ∨ ∃ g, blk A = some g ∧ F = [g]) : Ow w sI [.slice A n c] xs F := by
  obtain ⟨F', h1, _, _⟩ := (ow_ints (w := w) (lo := 0) (hi := w.heap.size)).2 (Ownd.of_own h)
  have h2 := (ow_ints' h1).2
  rcases hF with ⟨e1, rfl⟩ | ⟨g, e1, rfl⟩
  · rcases h2 with ⟨_, rfl⟩ | ⟨g, e2, _⟩
    · exact h1
    · rw [e1] at e2; cases e2
  · rcases h2 with ⟨e2, _⟩ | ⟨g', e2, rfl⟩
    · rw [e1] at e2; cases e2
    · rw [e1] at e2; injection e2 with e2; subst e2; exact h1
theorem markK_ints (v : Value) (xs : List Int) (k : Int) (F : List Nat) (w : World) (h : Ow w sI [v] xs F) (hz : sz sI xs ≤ 1048576) (hk0 : 0 ≤ k) (hk : k ≤ 1099511627776) :
    Calls Try.prog 50 #[v, .int .i64 k] w (AnsMarkF w sI [v] xs k F) := by
  obtain ⟨A, n, c, rfl, hs, hc⟩ := rd_ints.1 h.rd
  rw [sz_ints, hs.1] at hz
  obtain ⟨ho, hF⟩ := ow_ints' h
  refine (markOwn 0 A n c xs k w ho hz hk0 hk).mono fun _ _ ⟨e, hg, ho2⟩ => ⟨?_, ?_, ?_⟩
  · rw [e]
    have : cntv sI xs = n := by rw [← hs.1]; exact cnt_ints xs
    rw [this]
  · rw [mk_ints, hs.1]
    exact ow_of ho2 hF
  · rcases hF with ⟨e1, rfl⟩ | ⟨g, e1, rfl⟩
    · rw [e1] at hg
      exact ⟨hg.os, hg.tape, hg.output, hg.size, fun k hk _ => hg.block k hk (by simp)⟩
    · rw [e1] at hg
      exact ⟨hg.os, hg.tape, hg.output, hg.size, fun k hk hn => hg.block k hk (fun e => hn (by injection e with e; rw [e]; simp))⟩
theorem heldK_ints (v : Value) (xs : List Int) (k : Int) (w : World) (h : Rd w w.heap.size sI [v] (mkv sI k xs)) (hz : sz sI xs ≤ 1048576) (hk0 : 0 ≤ k) (hk : k ≤ 1099511627776) :
    Calls Try.prog 51 #[v, .int .i64 k] w (AnsHeld w (k + (cntv sI xs : Int))) := by
  rw [mk_ints] at h
  obtain ⟨A, n, c, rfl, hs, hc⟩ := rd_ints.1 h
  have hl : n = xs.length := by rw [← hs.1, marks_len]
  subst hl
  rw [sz_ints] at hz
  have : cntv sI xs = xs.length := cnt_ints xs
  rw [this]
  exact (heldInts A _ c k w hs hz hk0 (by omega)).mono fun _ _ ⟨e1, e2⟩ => ⟨e2, e1 ▸ Below.refl _ _⟩
end

/-! ### a slice that is being copied: its first k elements are there -/
section
variable {s : Sh} {e : TypeId}
def HeadCp (w : World) (e : TypeId) (s : Sh) (n : Nat) (D : List (Dat s)) (i : Value) (wr : World) : Prop :=
  ∃ (k : Nat) (cs : Array Value) (E : Nat → List Value) (G : Nat → List Nat), k ≤ n ∧ i = .int .i64 k ∧ Row wr w.heap.size e cs ∧ cs.size = n * nc s ∧ ((List.range k).flatMap G).Nodup ∧
    (∀ j, j < k → (E j).length = nc s ∧ (∀ i, i < nc s → cs[j * nc s + i]? = (E j)[i]?) ∧ Ow wr s (E j) (D.getD j (dft s)) (G j) ∧ ∀ q ∈ G j, w.heap.size < q) ∧ Below w.heap.size w wr
theorem headCp_zero {w : World} {n : Nat} {D : List (Dat s)} {cs : Array Value} (hs : cs.size = n * nc s) : HeadCp w e s n D (.int .i64 0) (w.alloc (.cells cs e)) :=
  ⟨0, cs, fun _ => [], fun _ => [], Nat.zero_le _, rfl, Row.new _ _ _, hs, by simp, fun j hj => absurd hj (Nat.not_lt_zero _), (Below.refl _ _).alloc (Nat.le_refl _) _⟩
/-- the cells es are laid into block g from off on -/
def putAll (w : World) (g : Nat) : Nat → List Value → World
  | _, [] => w
  | off, u :: r => putAll (w.setCell ⟨g, off, none⟩ u) g (off + 1) r
def rowPut (cs : Array Value) : Nat → List Value → Array Value
  | _, [] => cs
  | off, u :: r => rowPut (cs.setIfInBounds off u) (off + 1) r
theorem rowPut_size : ∀ {es : List Value} {cs : Array Value} {off : Nat}, (rowPut cs off es).size = cs.size
  | [], _, _ => rfl
  | u :: r, cs, off => by rw [rowPut, rowPut_size]; simp
theorem rowPut_get : ∀ {es : List Value} {cs : Array Value} {off q : Nat}, off + es.length ≤ cs.size → (rowPut cs off es)[q]? = if off ≤ q ∧ q < off + es.length then es[q - off]? else cs[q]?
  | [], cs, off, q, _ => by rw [rowPut, if_neg (by simp only [List.length_nil]; omega)]
  | u :: r, cs, off, q, h => by
    simp only [List.length_cons] at h
    rw [rowPut, rowPut_get (by simp; omega)]
    simp only [List.length_cons]
    by_cases e1 : q = off
    · subst e1
      rw [if_neg (by omega), if_pos (by omega), Array.getElem?_setIfInBounds, if_pos rfl, if_pos (by omega)]
      simp
    · by_cases e2 : off ≤ q ∧ q < off + (r.length + 1)
      · rw [if_pos (by omega), if_pos e2]
        obtain ⟨m, rfl⟩ : ∃ m, q = off + 1 + m := ⟨q - off - 1, by omega⟩
        rw [show off + 1 + m - (off + 1) = m by omega, show off + 1 + m - off = m + 1 by omega, List.getElem?_cons_succ]
      · rw [if_neg (by omega), if_neg e2, Array.getElem?_setIfInBounds, if_neg (by omega)]
theorem putAll_row {g : Nat} {t : TypeId} : ∀ {es : List Value} {w : World} {cs : Array Value} {off : Nat}, Row w g t cs → Row (putAll w g off es) g t (rowPut cs off es)
  | [], _, _, _, h => h
  | u :: r, w, cs, off, h => by rw [putAll, rowPut]; exact putAll_row (h.put off u)
theorem putAll_keep {g : Nat} : ∀ {es : List Value} {w : World} {off : Nat} {k : Nat}, k ≠ g → (putAll w g off es).heap[k]? = w.heap[k]?
  | [], _, _, _, _ => rfl
  | u :: r, w, off, k, h => by rw [putAll, putAll_keep h]; exact Below.heap_setCell w _ u k h
theorem putAll_size {g : Nat} : ∀ {es : List Value} {w : World} {off : Nat}, (putAll w g off es).heap.size = w.heap.size
  | [], _, _ => rfl
  | u :: r, w, off => by rw [putAll, putAll_size]; simp
theorem putAll_below {g B : Nat} {a : World} : ∀ {es : List Value} {w : World} {off : Nat}, Below B a w → B ≤ g → Below B a (putAll w g off es)
  | [], _, _, h, _ => h
  | u :: r, w, off, h, hg => by rw [putAll]; exact putAll_below (h.setCell hg u) hg
theorem headCp_step {w wr w1 : World} {n k : Nat} {D : List (Dat s)} {cs : Array Value} {E : Nat → List Value} {G : Nat → List Nat} (hk : k < n) (hr : Row wr w.heap.size e cs) (hs : cs.size = n * nc s) (hn : ((List.range k).flatMap G).Nodup)
    (hi : ∀ j, j < k → (E j).length = nc s ∧ (∀ i, i < nc s → cs[j * nc s + i]? = (E j)[i]?) ∧ Ow wr s (E j) (D.getD j (dft s)) (G j) ∧ ∀ q ∈ G j, w.heap.size < q) (hb : Below w.heap.size w wr)
    {es : List Value} (ho : Owned w1 wr.heap.size w1.heap.size s es (D.getD k (dft s))) (bb : Below wr.heap.size wr w1) : HeadCp w e s n D (.int .i64 ((k : Int) + 1)) (putAll w1 w.heap.size (k * nc s) es) := by
  obtain ⟨F, ho, hnF, hF⟩ := ho
  have hz := hr.lt
  have hle : k * nc s + nc s ≤ cs.size := by
    have := Nat.mul_le_mul_right (nc s) (show k + 1 ≤ n by omega)
    rw [Nat.add_mul] at this
    omega
  have hel := ho.len
  have hfr : ∀ j, j < k → ∀ q ∈ G j, q < wr.heap.size := fun j hj => (hi j hj).2.2.1.lt
  refine ⟨k + 1, _, fun j => if j = k then es else E j, fun j => if j = k then F else G j, hk, by simp, putAll_row (hr.next bb), by rw [rowPut_size]; exact hs, ?_, fun j hj => ?_, putAll_below (hb.trans (bb.mono hb.size)) (Nat.le_refl _)⟩
  · rw [List.range_succ, List.flatMap_append]
    have e1 : (List.range k).flatMap (fun j => if j = k then F else G j) = (List.range k).flatMap G := by
      rw [List.flatMap_def, List.flatMap_def]
      congr 1
      exact List.map_congr_left fun j hj => if_neg (by have := List.mem_range.1 hj; omega)
    rw [e1]
    refine List.nodup_append.2 ⟨hn, by simpa using hnF, fun x hx y hy e => ?_⟩
    obtain ⟨j, hj, hx⟩ := List.mem_flatMap.1 hx
    have h1 := hfr j (List.mem_range.1 hj) x hx
    have h2 := hF y (by simpa using hy)
    omega
  · by_cases ej : j = k
    · subst ej
      simp only [if_pos]
      refine ⟨hel, fun i hi2 => ?_, ho.keep fun q hq => putAll_keep (by have := hF q hq; omega), fun q hq => by have := hF q hq; omega⟩
      rw [rowPut_get (by omega), if_pos (by omega)]
      congr 1
      omega
    · simp only [if_neg ej]
      obtain ⟨q1, q2, q3, q4⟩ := hi j (by omega)
      refine ⟨q1, fun i hi2 => ?_, (q3.next bb).keep fun q hq => putAll_keep (by have := q4 q hq; omega), q4⟩
      rw [rowPut_get (by omega), if_neg ?_]
      · exact q2 i hi2
      · have := Nat.mul_le_mul_right (nc s) (show j + 1 ≤ k by omega)
        rw [Nat.add_mul] at this
        omega
theorem headCp_end {w wr : World} {n : Nat} {D : List (Dat s)} {cs : Array Value} {E : Nat → List Value} {G : Nat → List Nat} (hl : D.length = n) (hm : n ≤ 1048576) (hr : Row wr w.heap.size e cs) (hs : cs.size = n * nc s) (hn : ((List.range n).flatMap G).Nodup)
    (hi : ∀ j, j < n → (E j).length = nc s ∧ (∀ i, i < nc s → cs[j * nc s + i]? = (E j)[i]?) ∧ Ow wr s (E j) (D.getD j (dft s)) (G j) ∧ ∀ q ∈ G j, w.heap.size < q) (hb : Below w.heap.size w wr) :
    Copy1 w (.row e s) D (.returned (.slice (some ⟨w.heap.size, 0, none⟩) n n)) wr := by
  refine ⟨_, _, _, rfl, ⟨w.heap.size :: (List.range n).flatMap G, ⟨_, n, n, rfl, hl, .inr ⟨w.heap.size, cs, E, G, rfl, hr, Nat.le_refl _, by omega, hs, rfl, fun j hj => ⟨(hi j hj).1, (hi j hj).2.1, (hi j hj).2.2.1⟩⟩⟩, List.nodup_cons.2 ⟨fun h => ?_, hn⟩, fun k hk => ?_⟩, hb⟩
  · obtain ⟨j, hj, h⟩ := List.mem_flatMap.1 h
    have := (hi j (List.mem_range.1 hj)).2.2.2 _ h
    omega
  · rcases List.mem_cons.1 hk with hk | hk
    · rw [hk]; exact ⟨Nat.le_refl _, hr.lt⟩
    · obtain ⟨j, hj, h⟩ := List.mem_flatMap.1 hk
      have h1 := (hi j (List.mem_range.1 hj)).2.2.2 _ h
      have h2 := (hi j (List.mem_range.1 hj)).2.2.1.lt _ h
      omega

/-! ### a slice that is being marked -/
def mixed (s : Sh) (k : Int) (D : List (Dat s)) (j : Nat) : List (Dat s) := (List.range D.length).map fun q => if q < j then mkc s (k + (cnts s D q : Int)) (D.getD q (dft s)) else D.getD q (dft s)
theorem mixed_len {k : Int} {D : List (Dat s)} {j : Nat} : (mixed s k D j).length = D.length := by simp [mixed]
theorem mixed_get {k : Int} {D : List (Dat s)} {j : Nat} (h : j < D.length) : (mixed s k D j).getD j (dft s) = D.getD j (dft s) := by simp [mixed, List.getD, h]
theorem mixed_zero {k : Int} {D : List (Dat s)} : mixed s k D 0 = D := by
  refine List.ext_getElem (by rw [mixed_len]) fun j h1 h2 => ?_
  simp [mixed, List.getD, h2]
theorem mixed_succ {k : Int} {D : List (Dat s)} {j : Nat} (h : j < D.length) : (mixed s k D j).set j (mkc s (k + (cnts s D j : Int)) (D.getD j (dft s))) = mixed s k D (j + 1) := by
  refine List.ext_getElem (by rw [List.length_set, mixed_len, mixed_len]) fun q h1 h2 => ?_
  rw [mixed_len] at h2
  rw [List.getElem_set]
  by_cases e : j = q
  · subst e; simp [mixed]
  · rw [if_neg e]
    simp only [mixed, List.getElem_map, List.getElem_range]
    by_cases h3 : q < j
    · rw [if_pos h3, if_pos (by omega)]
    · rw [if_neg h3, if_neg (by omega)]
theorem mixed_all {k : Int} {D : List (Dat s)} {e : TypeId} : mixed s k D D.length = (mkv (.row e s) k D : List (Dat s)) := by
  show (List.range D.length).map _ = (List.range D.length).map _
  exact List.map_congr_left fun q hq => if_pos (List.mem_range.1 hq)
theorem headMk_cnt {e : TypeId} {s : Sh} {D : List (Dat s)} {j : Nat} (hj : j < D.length) : cnts s D j + cnt s (D.getD j (dft s)) ≤ cntv (.row e s) D := by
  rw [← cnts_succ hj]
  have := cnts_mono (d := D) (show j + 1 ≤ D.length by omega) (Nat.le_refl _)
  rw [cnts_all rfl] at this
  exact this
def HeadMk (w : World) (e : TypeId) (s : Sh) (v : Value) (D : List (Dat s)) (k : Int) (F : List Nat) (kk i : Value) (wr : World) : Prop :=
  ∃ j : Nat, j ≤ D.length ∧ i = .int .i64 j ∧ kk = .int .i64 (k + (cnts s D j : Int)) ∧ Ow wr (.row e s) [v] (mixed s k D j) F ∧ Only F w wr
theorem headMk_zero {w : World} {v : Value} {D : List (Dat s)} {k : Int} {F : List Nat} (h : Ow w (.row e s) [v] D F) : HeadMk w e s v D k F (.int .i64 k) (.int .i64 0) w :=
  ⟨0, Nat.zero_le _, rfl, by simp [cnts], by rw [mixed_zero]; exact h, Only.refl _ _⟩
theorem headMk_step {w wr w2 : World} {v : Value} {D : List (Dat s)} {k : Int} {F : List Nat} {j z : Nat} (hj : j < D.length) (hb : Only F w wr) (ho : Only F wr w2) (hz : cnt s (D.getD j (dft s)) = z) {d2 : Dat s} (hd : d2 = mkc s (k + (cnts s D j : Int)) (D.getD j (dft s)))
    (h : Ow w2 (.row e s) [v] ((mixed s k D j).set j d2) F) : HeadMk w e s v D k F (.int .i64 (k + (cnts s D j : Int) + z)) (.int .i64 ((j : Int) + 1)) w2 := by
  subst hd
  rw [mixed_succ hj] at h
  exact ⟨j + 1, hj, by simp, by rw [cnts_succ hj, hz]; exact congrArg (Value.int .i64) (by omega), h, hb.trans ho⟩
theorem headMk_end {w wr : World} {v : Value} {D : List (Dat s)} {k : Int} {F : List Nat} {j : Nat} (hj : ¬ j < D.length) (hj' : j ≤ D.length) (h : Ow wr (.row e s) [v] (mixed s k D j) F) (ho : Only F w wr) : AnsMarkF w (.row e s) [v] D k F (.returned (.int .i64 (k + (cnts s D j : Int)))) wr := by
  have e1 : j = D.length := by omega
  subst e1
  rw [mixed_all (e := e)] at h
  exact ⟨by rw [cnts_all rfl]; rfl, h, ho⟩
end
theorem cnts_bd {s : Sh} {e : TypeId} {D : List (Dat s)} {j C : Nat} (hz : sz (.row e s) D ≤ 1048576) (hj : j ≤ D.length) (hC : wd s = C) : cnts s D j ≤ C * 1048576 := by
  have h1 := cnts_mono (d := D) hj (Nat.le_refl _)
  rw [cnts_all rfl] at h1
  have h2 := cntv_le (.row e s) D
  have h3 : cntv (.row e s) D = (D.map (cnt s)).sum := rfl
  have h4 : wd (.row e s) = C := hC
  rw [h3, h4] at h2
  have h5 := Nat.mul_le_mul_left C hz
  omega

theorem Rd.split {w : World} {B : Nat} {a b : Sh} {ca cb : List Value} {d : Dat (.cat a b)} (h : Rd w B (.cat a b) (ca ++ cb) d) (hl : ca.length = nc a) : Rd w B a ca d.1 ∧ Rd w B b cb d.2 := by
  obtain ⟨ca', cb', e, h1, h2⟩ := h
  obtain ⟨rfl, rfl⟩ := List.append_inj e (by rw [hl, h1.len])
  exact ⟨h1, h2⟩
theorem Ow.split {w : World} {a b : Sh} {ca cb : List Value} {d : Dat (.cat a b)} {F : List Nat} (h : Ow w (.cat a b) (ca ++ cb) d F) (hl : ca.length = nc a) : ∃ Fa Fb, F = Fa ++ Fb ∧ Ow w a ca d.1 Fa ∧ Ow w b cb d.2 Fb := by
  obtain ⟨ca', cb', Fa, Fb, e, e2, h1, h2⟩ := h
  obtain ⟨rfl, rfl⟩ := List.append_inj e (by rw [hl, h1.len])
  exact ⟨Fa, Fb, e2, h1, h2⟩

theorem Row.only {w w' : World} {g : Nat} {t : TypeId} {cs : Array Value} {F : List Nat} (h : Row w g t cs) (ho : Only F w w') (hg : g ∉ F) : Row w' g t cs := (ho.block g h.lt hg).trans h
theorem Ow.join {w : World} {a b : Sh} {ca cb : List Value} {x : Dat a} {y : Dat b} {Fa Fb : List Nat} (h1 : Ow w a ca x Fa) (h2 : Ow w b cb y Fb) : Ow w (.cat a b) (ca ++ cb) (x, y) (Fa ++ Fb) := ⟨ca, cb, Fa, Fb, rfl, rfl, h1, h2⟩
theorem dis_app {F G : List Nat} (h : (F ++ G).Nodup) : F.Nodup ∧ G.Nodup ∧ (∀ k ∈ F, k ∉ G) ∧ ∀ k ∈ G, k ∉ F := by
  obtain ⟨h1, h2, h3⟩ := List.nodup_append.1 h
  exact ⟨h1, h2, fun k hk hk2 => h3 k hk k hk2 rfl, fun k hk hk2 => h3 k hk2 k hk rfl⟩
theorem dis_l {F A B : List Nat} (h : ∀ k ∈ F, k ∉ A ++ B) : (∀ k ∈ F, k ∉ A) ∧ ∀ k ∈ F, k ∉ B := ⟨fun k hk h2 => h k hk (List.mem_append_left _ h2), fun k hk h2 => h k hk (List.mem_append_right _ h2)⟩
theorem dis_r {F A B : List Nat} (h : ∀ k ∈ A ++ B, k ∉ F) : (∀ k ∈ A, k ∉ F) ∧ ∀ k ∈ B, k ∉ F := ⟨fun k hk => h k (List.mem_append_left _ hk), fun k hk => h k (List.mem_append_right _ hk)⟩

/-! ### the sizes of a slice's elements -/
section
variable {s : Sh} {e : TypeId}
def HeadSzK (w : World) (n : Nat) (s : Sh) (D : List (Dat s)) (left : Int) (l i : Value) (wr : World) : Prop := ∃ k : Nat, k ≤ n ∧ i = .int .i64 k ∧ l = .int .i64 (left - n - szs s D k) ∧ 0 ≤ left - n - szs s D k ∧ Below w.heap.size w wr
theorem headSzK_zero {w : World} {n : Nat} {D : List (Dat s)} {left : Int} (h : 0 ≤ left - n) : HeadSzK w n s D left (.int .i64 (left - n)) (.int .i64 0) w := ⟨0, Nat.zero_le _, rfl, by simp [szs], by simp [szs]; omega, Below.refl _ _⟩
theorem headSzK_bad {n k t : Nat} {D : List (Dat s)} {left : Int} (hn : D.length = n) (hk : k < n) (hs : szs s D (k + 1) = szs s D k + t) (q : left - n - szs s D k - t < 0) : Ending.returned (.int .i64 (-1)) = .returned (.int .i64 (if left - (sz (.row e s) D : Nat) < 0 then -1 else left - (sz (.row e s) D : Nat))) := by
  have h2 := szs_mono (d := D) (show k + 1 ≤ D.length by omega) (Nat.le_refl _)
  rw [if_pos (by rw [sz_row]; omega)]
theorem headSzK_step {w w1 : World} {n k t : Nat} {D : List (Dat s)} {left l : Int} (hk : k < n) (hs : szs s D (k + 1) = szs s D k + t) (hl : left - n - szs s D k = l) (q : ¬ l - t < 0) (hb : Below w.heap.size w w1) : HeadSzK w n s D left (.int .i64 (l - t)) (.int .i64 ((k : Int) + 1)) w1 :=
  ⟨k + 1, hk, by simp, by rw [hs, ← hl]; exact congrArg (Value.int .i64) (by omega), by rw [hs]; omega, hb⟩
theorem headSzK_end {w wr : World} {n k : Nat} {D : List (Dat s)} {left : Int} (hn : D.length = n) (hk : ¬ k < n) (hk' : k ≤ n) (h : 0 ≤ left - n - szs s D k) (hb : Below w.heap.size w wr) : AnsSzK w left (sz (.row e s) D) (.returned (.int .i64 (left - n - szs s D k))) wr := by
  have e1 : k = n := by omega
  subst e1
  have e2 : (left - (sz (.row e s) D : Nat) : Int) = left - k - szs s D k := by rw [sz_row, hn]; omega
  exact ⟨by rw [e2, if_neg (by omega)], hb⟩
end

/-! ### a struct that is being copied: its box, the result's, the copy's -/
structure CpS (w : World) (tL tI : TypeId) (cs zs part : Array Value) (wr : World) : Prop where
  box : Row wr w.heap.size tL cs
  res : Row wr (w.heap.size + 1) tI zs
  cur : Row wr (w.heap.size + 1 + 1) tI part
  bel : Below w.heap.size w wr
  size : w.heap.size + 1 + 1 + 1 ≤ wr.heap.size
section
variable {w wr w1 : World} {tL tI : TypeId} {cs zs part : Array Value}
theorem CpS.zero (w : World) (tL tI : TypeId) (cs zs : Array Value) : CpS w tL tI cs zs zs (((w.alloc (.cells cs tL)).alloc (.cells zs tI)).alloc (.cells zs tI)) where
  box := by have := ((Row.new w tL cs).alloc (.cells zs tI)).alloc (.cells zs tI); simpa using this
  res := by have := (Row.new (w.alloc (.cells cs tL)) tI zs).alloc (.cells zs tI); simpa using this
  cur := by have := Row.new ((w.alloc (.cells cs tL)).alloc (.cells zs tI)) tI zs; simpa using this
  bel := (((Below.refl _ _).alloc (Nat.le_refl _) _).alloc (by simp) _).alloc (by simp; omega) _
  size := by simp
theorem CpS.next (h : CpS w tL tI cs zs part wr) (bb : Below wr.heap.size wr w1) : CpS w tL tI cs zs part w1 :=
  ⟨h.box.next bb, h.res.next bb, h.cur.next bb, h.bel.trans (bb.mono h.bel.size), Nat.le_trans h.size bb.size⟩
theorem CpS.put (h : CpS w tL tI cs zs part wr) (i : Nat) (u : Value) : CpS w tL tI cs zs (part.setIfInBounds i u) (wr.setCell ⟨w.heap.size + 1 + 1, i, none⟩ u) :=
  ⟨h.box.far (by show _ ≠ w.heap.size + 1 + 1; omega) _, h.res.far (by show _ ≠ w.heap.size + 1 + 1; omega) _, h.cur.put i u, h.bel.setCell (by show _ ≤ w.heap.size + 1 + 1; omega) _, by simpa using h.size⟩
theorem CpS.fin (h : CpS w tL tI cs zs part wr) (i : Nat) (u : Value) : CpS w tL tI cs (zs.setIfInBounds i u) part (wr.setCell ⟨w.heap.size + 1, i, none⟩ u) :=
  ⟨h.box.far (by show _ ≠ w.heap.size + 1; omega) _, h.res.put i u, h.cur.far (by show _ ≠ w.heap.size + 1; omega) _, h.bel.setCell (by show _ ≤ w.heap.size + 1; omega) _, by simpa using h.size⟩
end
end Go.Proofs.Ytdkjafjphgcbjaa.shape
end

section
/-
  CONTRACTS of the laws' helpers over shapes: Sig:sz,to,eq,mark, Rule:sz,to,eq,mark,held, RuleS:sz,to,eq,mark, System:sz,to,eq,mark. Conditions: at most 1048576 numbers. Written by a program of mine (mkkinds.py). By an AI agent.
-/
namespace Go.Proofs.Ytdkjafjphgcbjaa.kindsR
open Go.RowKit Go.Proofs.Ytdkjafjphgcbjaa.base Go.Proofs.Ytdkjafjphgcbjaa.ints Go.Proofs.Ytdkjafjphgcbjaa.sig Go.Proofs.Ytdkjafjphgcbjaa.cursor Go.Proofs.Ytdkjafjphgcbjaa.marks Go.Proofs.Ytdkjafjphgcbjaa.app Go.Proofs.Ytdkjafjphgcbjaa.sym Go.Proofs.Ytdkjafjphgcbjaa.appAt Go.Proofs.Ytdkjafjphgcbjaa.segs Go.Proofs.Ytdkjafjphgcbjaa.segsHelp Go.Proofs.Ytdkjafjphgcbjaa.segsMark Go.Proofs.Ytdkjafjphgcbjaa.kinds Go.Proofs.Ytdkjafjphgcbjaa.shape
set_option maxRecDepth 100000

abbrev sSig : Sh := sI
theorem cells_Sig {w : World} {B : Nat} {es : List Value} {d : Dat sSig} (h : Rd w B sSig es d) : ∃ (v0 : Value), es = [v0] := by
  obtain ⟨A0, n0, c0, z0, -⟩ := h
  exact ⟨.slice A0 n0 c0, by rw [z0] <;> rfl⟩

set_option maxHeartbeats 2000000 in
theorem szK_Sig (v0 : Value) (d : Dat sSig) (left : Int) (w : World) (h : Rd w w.heap.size sSig [v0] d) (h0 : 0 ≤ left) (h1 : left ≤ 1048576) :
    Calls Try.prog 37 #[.agg #[v0], .int .i64 left] w (AnsSzK w left (sz sSig d)) := by
  have g0 := h
  obtain ⟨t0, ht0⟩ : ∃ t, sz sI d = t := ⟨_, rfl⟩
  have HE : Hid (sz sSig d = t0) := Lib.hid (by rw [← ht0]; try rfl)
  have HT0 := Lib.hid ht0
  have G0 := Lib.hid g0
  obtain ⟨W, hW⟩ : ∃ W, W = w.alloc (.cells #[v0] 40) := ⟨_, rfl⟩
  have r : Row W w.heap.size 40 #[v0] := by rw [hW]; exact Row.new _ _ _
  have bel : Below w.heap.size w W := by rw [hW]; exact (Below.refl _ _).alloc (Nat.le_refl _) _
  have HW := Lib.hid hW
  clear hW h g0 ht0
  go_enter Try.func37, Try.ntmps37
  go_wp2_with fail
  rw [← HW.out]
  refine (szK_ints _ _ left W (G0.out.next bel) h0 h1).mono ?_
  rintro e w1 ⟨he, bb⟩
  rw [HT0.out] at he
  replace r := r.next bb
  replace bel := next_trans bel bb
  clear bb
  by_cases q0 : left - (t0 : Int) < 0
  · rw [if_pos q0] at he
    subst he
    have F : AnsSzK w left (sz sSig d) (.returned (.int .i64 (-1))) w1 := ⟨by rw [HE.out, if_pos (by omega)], bel⟩
    have HF := Lib.hid F
    clear F bel r
    go_wp2
    go_ret
    exact HF.out
  rw [if_neg q0] at he
  obtain ⟨l0, hl0⟩ : ∃ l, left - (t0 : Int) = l := ⟨_, rfl⟩
  rw [hl0] at he
  have a0 : 0 ≤ l0 := by omega
  have b0 : l0 ≤ 1048576 := by omega
  have HL0 := Lib.hid hl0
  clear hl0 q0
  subst he
  have F : AnsSzK w left (sz sSig d) (.returned (.int .i64 l0)) w1 := ⟨by have := HL0.out; rw [HE.out, if_neg (by omega)]; exact congrArg (fun z => Ending.returned (.int .i64 z)) (by omega), bel⟩
  have HF := Lib.hid F
  clear F bel r
  go_wp2
  go_ret
  exact HF.out

def CopySig (w : World) (d : Dat sSig) (e : Ending) (w' : World) : Prop := ∃ A0 n0 c0, e = .returned (.agg #[.slice A0 n0 c0]) ∧ Owned w' w.heap.size w'.heap.size sSig [.slice A0 n0 c0] d ∧ Below w.heap.size w w'
set_option maxHeartbeats 2000000 in
theorem toK_Sig (v0 : Value) (d : Dat sSig) (w : World) (h : Rd w w.heap.size sSig [v0] d) (hz : sz sSig d ≤ 1048576) :
    Calls Try.prog 40 #[.agg #[v0]] w (CopySig w d) := by
  have g0 := h
  have cp0 := CpS.zero w 40 26 #[v0] #[.slice none 0 0]
  obtain ⟨W, hW⟩ : ∃ W, W = ((w.alloc (.cells #[v0] 40)).alloc (.cells #[.slice none 0 0] 26)).alloc (.cells #[.slice none 0 0] 26) := ⟨_, rfl⟩
  rw [← hW] at cp0
  have HW := Lib.hid hW
  have G0 := Lib.hid g0
  have Z0 : Hid (sz sI d ≤ 1048576) := Lib.hid (hz)
  clear hW hz h g0
  go_enter Try.func40, Try.ntmps40
  go_wp2_with fail
  rw [← HW.out]
  refine (toK_ints _ _ _ ((G0.out.below cp0.bel).more cp0.bel.size) Z0.out).mono ?_
  rintro e w1 ⟨x0A0, x0n0, x0c0, rfl, o0, bb⟩
  have zb0 := bb.size
  have zc0 := cp0.size
  replace cp0 := cp0.next bb
  clear bb
  have f0_0 : w1.frozen? ⟨w.heap.size + 1 + 1, 0, none⟩ = false := cp0.cur.free 0
  have k0_0 : w1.cell? ⟨w.heap.size + 1 + 1, 0, none⟩ = some (.slice none 0 0) := cp0.cur.cell 0
  obtain ⟨w2, hw0⟩ : ∃ x, x = (w1.setCell ⟨w.heap.size + 1 + 1, 0, none⟩ (.slice x0A0 x0n0 x0c0)) := ⟨_, rfl⟩
  replace o0 := o0.put (g := w.heap.size + 1 + 1) (i := 0) (u := .slice x0A0 x0n0 x0c0) (by omega)
  rw [← hw0] at o0
  replace cp0 : CpS w 40 26 #[v0] #[.slice none 0 0] #[.slice x0A0 x0n0 x0c0] w2 := by rw [hw0]; exact (CpS.put cp0 0 (.slice x0A0 x0n0 x0c0))
  have zw0 : w2.heap.size = w1.heap.size := by rw [hw0]; simp
  have HW0 := Lib.hid hw0
  clear hw0
  have y0 : w2.cell? ⟨w.heap.size + 1 + 1, 0, none⟩ = some (.slice x0A0 x0n0 x0c0) := cp0.cur.cell 0
  rw [HW0.out] at y0
  have s0 : (w2).cell? ⟨w.heap.size + 1, 0, none⟩ = some (.slice none 0 0) := cp0.res.cell 0
  rw [HW0.out] at s0
  have r0 : (w2).frozen? ⟨w.heap.size + 1, 0, none⟩ = false := cp0.res.free 0
  rw [HW0.out] at r0
  have oo : Owned w2 (w.heap.size + 1 + 1 + 1) w2.heap.size sSig [.slice x0A0 x0n0 x0c0] d := o0.wider (by omega) (by omega)
  have F : CopySig w d (.returned (.agg #[.slice x0A0 x0n0 x0c0])) (w2.setCell ⟨w.heap.size + 1, 0, none⟩ (.slice x0A0 x0n0 x0c0)) := ⟨x0A0, x0n0, x0c0, rfl, Owned.wider ((oo.put (g := w.heap.size + 1) (i := 0) (u := .slice x0A0 x0n0 x0c0) (by omega))) (by omega) (by simp), ((CpS.fin cp0 0 (.slice x0A0 x0n0 x0c0))).bel⟩
  have u0 : ((w2.setCell ⟨w.heap.size + 1, 0, none⟩ (.slice x0A0 x0n0 x0c0))).cell? ⟨w.heap.size + 1, 0, none⟩ = some (.slice x0A0 x0n0 x0c0) := (CpS.fin cp0 0 (.slice x0A0 x0n0 x0c0)).res.cell 0
  rw [HW0.out] at u0
  rw [HW0.out] at F
  have HF := Lib.hid F
  clear F oo cp0 o0
  go_wp2
  exact bodyPost_ret (v := .agg #[.slice x0A0 x0n0 x0c0]) (by simp [results, Try.results40, go_sem, u0]) rfl HF.out

set_option maxHeartbeats 2000000 in
theorem eqK_Sig (v0 u0 : Value) (d : Dat sSig) (w : World) (h : Rd w w.heap.size sSig [v0] d) (h' : Rd w w.heap.size sSig [u0] d) (hz : sz sSig d ≤ 1048576) :
    Calls Try.prog 42 #[.agg #[v0], .agg #[u0]] w (Yes w) := by
  have g0 := h
  have g0' := h'
  obtain ⟨W, hW⟩ : ∃ W, W = (w.alloc (.cells #[v0] 26)).alloc (.cells #[u0] 26) := ⟨_, rfl⟩
  have ra : Row W w.heap.size 26 #[v0] := by rw [hW]; exact (Row.new w 26 #[v0]).alloc _
  have rb : Row W (w.heap.size + 1) 26 #[u0] := by rw [hW]; have := Row.new (w.alloc (.cells #[v0] 26)) 26 #[u0]; simpa using this
  have bel : Below w.heap.size w W := by rw [hW]; exact ((Below.refl _ _).alloc (Nat.le_refl _) _).alloc (by simp) _
  have HW := Lib.hid hW
  have G0 := Lib.hid g0
  have G0' := Lib.hid g0'
  have Z0 : Hid (sz sI d ≤ 1048576) := Lib.hid (hz)
  clear hW hz h h' g0 g0'
  go_enter Try.func42, Try.ntmps42
  go_wp2_with fail
  rw [← HW.out]
  refine (eqK_ints _ _ _ W (G0.out.next bel) (G0'.out.next bel) Z0.out).mono ?_
  rintro e w1 ⟨rfl, bb⟩
  replace ra := ra.next bb
  replace rb := rb.next bb
  replace bel := next_trans bel bb
  clear bb
  have F : Yes w (.returned (.bool true)) w1 := ⟨rfl, bel⟩
  have HF := Lib.hid F
  clear F ra rb bel
  go_wp2
  go_ret
  exact HF.out

set_option maxHeartbeats 2000000 in
theorem markK_Sig (v0 : Value) (d : Dat sSig) (k : Int) (F : List Nat) (w : World) (h : Ow w sSig [v0] d F) (hF : F.Nodup) (hz : sz sSig d ≤ 1048576) (hk0 : 0 ≤ k) (hk : k + (cntv sSig d : Int) ≤ 1099511627776) :
    Calls Try.prog 53 #[.agg #[v0], .int .i64 k] w (AnsMarkF w sSig [v0] d k F) := by
  have hlt := h.lt
  have o0 := h
  obtain ⟨z0, hz0⟩ : ∃ z, cntv sI d = z := ⟨_, rfl⟩
  have hc : (cntv sSig d : Int) = (z0 : Int) := by rw [← hz0]; try rfl
  have Z0 : Hid (sz sI d ≤ 1048576) := Lib.hid (hz)
  have HZ0 := Lib.hid hz0
  have HC := Lib.hid hc
  rw [hc] at hk
  obtain ⟨W, hW⟩ : ∃ W, W = w.alloc (.cells #[v0] 26) := ⟨_, rfl⟩
  have r : Row W w.heap.size 26 #[v0] := by rw [hW]; exact Row.new _ _ _
  have bel : Below w.heap.size w W := by rw [hW]; exact (Below.refl _ _).alloc (Nat.le_refl _) _
  replace o0 := o0.next bel
  have nb0 : w.heap.size ∉ F := fun hb => by have := hlt _ hb; omega
  have sub0 : ∀ x ∈ F, x ∈ F := fun x hb => hb
  have on : Only F w W := Only.of_below bel
  have HW := Lib.hid hW
  have HEF : Hid (F = F) := Lib.hid (by rfl)
  clear hW h hz hc bel hlt hz0 
  go_enter Try.func53, Try.ntmps53
  go_wp2_with fail
  rw [← HW.out]
  refine (markK_ints _ _ k F _ o0 Z0.out (by omega) (by omega)).mono ?_
  rintro e w1 ⟨he, o0, on0⟩
  rw [HZ0.out] at he
  replace r := Row.only r on0 nb0
  replace on := on.trans (on0.wider sub0)
  clear on0
  obtain ⟨k0, hk0⟩ : ∃ l, k + (z0 : Int) = l := ⟨_, rfl⟩
  rw [hk0] at he
  have l0 : 0 ≤ k0 := by omega
  have u0 : k0  ≤ 1099511627776 := by omega
  subst he
  have HK0 := Lib.hid hk0
  clear hk0
  have F1 : AnsMarkF w sSig [v0] d k F (.returned (.int .i64 k0)) w1 := by
    refine ⟨congrArg (fun z => Ending.returned (.int .i64 z)) ?_, ?_, on⟩
    · rw [HC.out]; have := HK0.out; omega
    · skip
      exact o0
  have HF := Lib.hid F1
  clear F1 on r o0
  go_wp2
  go_ret
  exact HF.out

abbrev sRule : Sh := .cat sI sI
theorem parts_Rule {w : World} {B : Nat} {v0 v1 : Value} {d : Dat sRule} (h : Rd w B sRule [v0, v1] d) : Rd w B sI [v0] d.1 ∧ Rd w B sI [v1] d.2 := by
  obtain ⟨p0, q0⟩ := Rd.split (ca := [v0]) (cb := [v1]) h rfl
  exact ⟨p0, q0⟩
theorem join_Rule {w : World} {lo hi : Nat} {v0 v1 : Value} {d : Dat sRule} {m0 m1 m2 : Nat} (o0 : Owned w m0 m1 sI [v0] d.1) (o1 : Owned w m1 m2 sI [v1] d.2) (l0 : m0 ≤ m1) (l1 : m1 ≤ m2) (hl : lo ≤ m0) (hh : m2 ≤ hi) : Owned w lo hi sRule [v0, v1] d := by
  exact ((Owned.cat o0 o1 (Nat.le_refl _) (by omega) (by omega)) : Owned w m0 m2 sRule [v0, v1] d).wider hl hh
theorem cells_Rule {w : World} {B : Nat} {es : List Value} {d : Dat sRule} (h : Rd w B sRule es d) : ∃ (v0 : Value) (v1 : Value), es = [v0, v1] := by
  obtain ⟨ca0, cb0, e0, p0, q0⟩ := h
  obtain ⟨A0, n0, c0, z0, -⟩ := p0
  obtain ⟨A1, n1, c1, z1, -⟩ := q0
  exact ⟨.slice A0 n0 c0, .slice A1 n1 c1, by rw [e0, z0, z1] <;> rfl⟩

set_option maxHeartbeats 2000000 in
theorem szK_Rule (v0 v1 : Value) (d : Dat sRule) (left : Int) (w : World) (h : Rd w w.heap.size sRule [v0, v1] d) (h0 : 0 ≤ left) (h1 : left ≤ 1048576) :
    Calls Try.prog 38 #[.agg #[v0, v1], .int .i64 left] w (AnsSzK w left (sz sRule d)) := by
  obtain ⟨g0, g1⟩ := parts_Rule h
  obtain ⟨t0, ht0⟩ : ∃ t, sz sI d.1 = t := ⟨_, rfl⟩
  obtain ⟨t1, ht1⟩ : ∃ t, sz sI d.2 = t := ⟨_, rfl⟩
  have HE : Hid (sz sRule d = t0 + t1) := Lib.hid (by rw [← ht0, ← ht1]; simp only [sz]; try omega)
  have HT0 := Lib.hid ht0
  have G0 := Lib.hid g0
  have HT1 := Lib.hid ht1
  have G1 := Lib.hid g1
  obtain ⟨W, hW⟩ : ∃ W, W = w.alloc (.cells #[v0, v1] 41) := ⟨_, rfl⟩
  have r : Row W w.heap.size 41 #[v0, v1] := by rw [hW]; exact Row.new _ _ _
  have bel : Below w.heap.size w W := by rw [hW]; exact (Below.refl _ _).alloc (Nat.le_refl _) _
  have HW := Lib.hid hW
  clear hW h g0 g1 ht0 ht1
  go_enter Try.func38, Try.ntmps38
  go_wp2_with fail
  rw [← HW.out]
  refine (szK_ints _ _ left W (G0.out.next bel) h0 h1).mono ?_
  rintro e w1 ⟨he, bb⟩
  rw [HT0.out] at he
  replace r := r.next bb
  replace bel := next_trans bel bb
  clear bb
  by_cases q0 : left - (t0 : Int) < 0
  · rw [if_pos q0] at he
    subst he
    have F : AnsSzK w left (sz sRule d) (.returned (.int .i64 (-1))) w1 := ⟨by rw [HE.out, if_pos (by omega)], bel⟩
    have HF := Lib.hid F
    clear F bel r
    go_wp2
    go_ret
    exact HF.out
  rw [if_neg q0] at he
  obtain ⟨l0, hl0⟩ : ∃ l, left - (t0 : Int) = l := ⟨_, rfl⟩
  rw [hl0] at he
  have a0 : 0 ≤ l0 := by omega
  have b0 : l0 ≤ 1048576 := by omega
  have HL0 := Lib.hid hl0
  clear hl0 q0
  subst he
  have c0_0 : w1.cell? ⟨w.heap.size, 1, none⟩ = some (v1) := r.cell 1
  go_wp2_with fail
  refine (szK_ints _ _ l0 w1 (G1.out.next bel) a0 b0).mono ?_
  rintro e w2 ⟨he, bb⟩
  rw [HT1.out] at he
  replace r := r.next bb
  replace bel := next_trans bel bb
  clear bb
  by_cases q1 : l0 - (t1 : Int) < 0
  · rw [if_pos q1] at he
    subst he
    have F : AnsSzK w left (sz sRule d) (.returned (.int .i64 (-1))) w2 := ⟨by have := HL0.out; rw [HE.out, if_pos (by omega)], bel⟩
    have HF := Lib.hid F
    clear F bel r
    go_wp2
    go_ret
    exact HF.out
  rw [if_neg q1] at he
  obtain ⟨l1, hl1⟩ : ∃ l, l0 - (t1 : Int) = l := ⟨_, rfl⟩
  rw [hl1] at he
  have a1 : 0 ≤ l1 := by omega
  have b1 : l1 ≤ 1048576 := by omega
  have HL1 := Lib.hid hl1
  clear hl1 q1
  subst he
  have F : AnsSzK w left (sz sRule d) (.returned (.int .i64 l1)) w2 := ⟨by have := HL0.out; have := HL1.out; rw [HE.out, if_neg (by omega)]; exact congrArg (fun z => Ending.returned (.int .i64 z)) (by omega), bel⟩
  have HF := Lib.hid F
  clear F bel r
  go_wp2
  go_ret
  exact HF.out

def CopyRule (w : World) (d : Dat sRule) (e : Ending) (w' : World) : Prop := ∃ A0 n0 c0 A1 n1 c1, e = .returned (.agg #[.slice A0 n0 c0, .slice A1 n1 c1]) ∧ Owned w' w.heap.size w'.heap.size sRule [.slice A0 n0 c0, .slice A1 n1 c1] d ∧ Below w.heap.size w w'
set_option maxHeartbeats 2000000 in
theorem toK_Rule (v0 v1 : Value) (d : Dat sRule) (w : World) (h : Rd w w.heap.size sRule [v0, v1] d) (hz : sz sRule d ≤ 1048576) :
    Calls Try.prog 41 #[.agg #[v0, v1]] w (CopyRule w d) := by
  obtain ⟨g0, g1⟩ := parts_Rule h
  have cp0 := CpS.zero w 41 35 #[v0, v1] #[.slice none 0 0, .slice none 0 0]
  obtain ⟨W, hW⟩ : ∃ W, W = ((w.alloc (.cells #[v0, v1] 41)).alloc (.cells #[.slice none 0 0, .slice none 0 0] 35)).alloc (.cells #[.slice none 0 0, .slice none 0 0] 35) := ⟨_, rfl⟩
  rw [← hW] at cp0
  have HW := Lib.hid hW
  have G0 := Lib.hid g0
  have Z0 : Hid (sz sI d.1 ≤ 1048576) := Lib.hid (by have := hz; simp only [sz] at this ⊢; omega)
  have G1 := Lib.hid g1
  have Z1 : Hid (sz sI d.2 ≤ 1048576) := Lib.hid (by have := hz; simp only [sz] at this ⊢; omega)
  clear hW hz h g0 g1
  go_enter Try.func41, Try.ntmps41
  go_wp2_with fail
  rw [← HW.out]
  refine (toK_ints _ _ _ ((G0.out.below cp0.bel).more cp0.bel.size) Z0.out).mono ?_
  rintro e w1 ⟨x0A0, x0n0, x0c0, rfl, o0, bb⟩
  have zb0 := bb.size
  have zc0 := cp0.size
  replace cp0 := cp0.next bb
  clear bb
  have f0_0 : w1.frozen? ⟨w.heap.size + 1 + 1, 0, none⟩ = false := cp0.cur.free 0
  have k0_0 : w1.cell? ⟨w.heap.size + 1 + 1, 0, none⟩ = some (.slice none 0 0) := cp0.cur.cell 0
  obtain ⟨w2, hw0⟩ : ∃ x, x = (w1.setCell ⟨w.heap.size + 1 + 1, 0, none⟩ (.slice x0A0 x0n0 x0c0)) := ⟨_, rfl⟩
  replace o0 := o0.put (g := w.heap.size + 1 + 1) (i := 0) (u := .slice x0A0 x0n0 x0c0) (by omega)
  rw [← hw0] at o0
  replace cp0 : CpS w 41 35 #[v0, v1] #[.slice none 0 0, .slice none 0 0] #[.slice x0A0 x0n0 x0c0, .slice none 0 0] w2 := by rw [hw0]; exact (CpS.put cp0 0 (.slice x0A0 x0n0 x0c0))
  have zw0 : w2.heap.size = w1.heap.size := by rw [hw0]; simp
  have HW0 := Lib.hid hw0
  clear hw0
  have d1_0 : w2.cell? ⟨w.heap.size, 1, none⟩ = some (v1) := cp0.box.cell 1
  rw [HW0.out] at d1_0
  go_wp2_with fail
  rw [← HW0.out]
  clear d1_0
  refine (toK_ints _ _ _ ((G1.out.below cp0.bel).more cp0.bel.size) Z1.out).mono ?_
  rintro e w3 ⟨x1A0, x1n0, x1c0, rfl, o1, bb⟩
  replace o0 := o0.next bb
  have zb1 := bb.size
  have zc1 := cp0.size
  replace cp0 := cp0.next bb
  clear bb
  have f1_0 : w3.frozen? ⟨w.heap.size + 1 + 1, 1, none⟩ = false := cp0.cur.free 1
  have k1_0 : w3.cell? ⟨w.heap.size + 1 + 1, 1, none⟩ = some (.slice none 0 0) := cp0.cur.cell 1
  obtain ⟨w4, hw1⟩ : ∃ x, x = (w3.setCell ⟨w.heap.size + 1 + 1, 1, none⟩ (.slice x1A0 x1n0 x1c0)) := ⟨_, rfl⟩
  replace o0 := o0.put (g := w.heap.size + 1 + 1) (i := 1) (u := .slice x1A0 x1n0 x1c0) (by omega)
  rw [← hw1] at o0
  replace o1 := o1.put (g := w.heap.size + 1 + 1) (i := 1) (u := .slice x1A0 x1n0 x1c0) (by omega)
  rw [← hw1] at o1
  replace cp0 : CpS w 41 35 #[v0, v1] #[.slice none 0 0, .slice none 0 0] #[.slice x0A0 x0n0 x0c0, .slice x1A0 x1n0 x1c0] w4 := by rw [hw1]; exact (CpS.put cp0 1 (.slice x1A0 x1n0 x1c0))
  have zw1 : w4.heap.size = w3.heap.size := by rw [hw1]; simp
  have HW1 := Lib.hid hw1
  clear hw1
  have y0 : w4.cell? ⟨w.heap.size + 1 + 1, 0, none⟩ = some (.slice x0A0 x0n0 x0c0) := cp0.cur.cell 0
  rw [HW1.out] at y0
  have y1 : w4.cell? ⟨w.heap.size + 1 + 1, 1, none⟩ = some (.slice x1A0 x1n0 x1c0) := cp0.cur.cell 1
  rw [HW1.out] at y1
  have s0 : (w4).cell? ⟨w.heap.size + 1, 0, none⟩ = some (.slice none 0 0) := cp0.res.cell 0
  rw [HW1.out] at s0
  have r0 : (w4).frozen? ⟨w.heap.size + 1, 0, none⟩ = false := cp0.res.free 0
  rw [HW1.out] at r0
  have s1 : ((w4.setCell ⟨w.heap.size + 1, 0, none⟩ (.slice x0A0 x0n0 x0c0))).cell? ⟨w.heap.size + 1, 1, none⟩ = some (.slice none 0 0) := (CpS.fin cp0 0 (.slice x0A0 x0n0 x0c0)).res.cell 1
  rw [HW1.out] at s1
  have r1 : ((w4.setCell ⟨w.heap.size + 1, 0, none⟩ (.slice x0A0 x0n0 x0c0))).frozen? ⟨w.heap.size + 1, 1, none⟩ = false := (CpS.fin cp0 0 (.slice x0A0 x0n0 x0c0)).res.free 1
  rw [HW1.out] at r1
  have oo : Owned w4 (w.heap.size + 1 + 1 + 1) w4.heap.size sRule [.slice x0A0 x0n0 x0c0, .slice x1A0 x1n0 x1c0] d := join_Rule (m0 := W.heap.size) (m1 := w2.heap.size) (m2 := w4.heap.size) (o0.wider (Nat.le_refl _) (by omega)) (o1.wider (Nat.le_refl _) (by omega)) (by omega) (by omega) (by omega) (by omega)
  have F : CopyRule w d (.returned (.agg #[.slice x0A0 x0n0 x0c0, .slice x1A0 x1n0 x1c0])) ((w4.setCell ⟨w.heap.size + 1, 0, none⟩ (.slice x0A0 x0n0 x0c0)).setCell ⟨w.heap.size + 1, 1, none⟩ (.slice x1A0 x1n0 x1c0)) := ⟨x0A0, x0n0, x0c0, x1A0, x1n0, x1c0, rfl, Owned.wider (((oo.put (g := w.heap.size + 1) (i := 0) (u := .slice x0A0 x0n0 x0c0) (by omega)).put (g := w.heap.size + 1) (i := 1) (u := .slice x1A0 x1n0 x1c0) (by omega))) (by omega) (by simp), ((CpS.fin (CpS.fin cp0 0 (.slice x0A0 x0n0 x0c0)) 1 (.slice x1A0 x1n0 x1c0))).bel⟩
  have u0 : (((w4.setCell ⟨w.heap.size + 1, 0, none⟩ (.slice x0A0 x0n0 x0c0)).setCell ⟨w.heap.size + 1, 1, none⟩ (.slice x1A0 x1n0 x1c0))).cell? ⟨w.heap.size + 1, 0, none⟩ = some (.slice x0A0 x0n0 x0c0) := (CpS.fin (CpS.fin cp0 0 (.slice x0A0 x0n0 x0c0)) 1 (.slice x1A0 x1n0 x1c0)).res.cell 0
  rw [HW1.out] at u0
  have u1 : (((w4.setCell ⟨w.heap.size + 1, 0, none⟩ (.slice x0A0 x0n0 x0c0)).setCell ⟨w.heap.size + 1, 1, none⟩ (.slice x1A0 x1n0 x1c0))).cell? ⟨w.heap.size + 1, 1, none⟩ = some (.slice x1A0 x1n0 x1c0) := (CpS.fin (CpS.fin cp0 0 (.slice x0A0 x0n0 x0c0)) 1 (.slice x1A0 x1n0 x1c0)).res.cell 1
  rw [HW1.out] at u1
  rw [HW1.out] at F
  have HF := Lib.hid F
  clear F oo cp0 o0 o1
  go_wp2
  exact bodyPost_ret (v := .agg #[.slice x0A0 x0n0 x0c0, .slice x1A0 x1n0 x1c0]) (by simp [results, Try.results41, go_sem, u0, u1]) rfl HF.out

set_option maxHeartbeats 2000000 in
theorem eqK_Rule (v0 v1 u0 u1 : Value) (d : Dat sRule) (w : World) (h : Rd w w.heap.size sRule [v0, v1] d) (h' : Rd w w.heap.size sRule [u0, u1] d) (hz : sz sRule d ≤ 1048576) :
    Calls Try.prog 43 #[.agg #[v0, v1], .agg #[u0, u1]] w (Yes w) := by
  obtain ⟨g0, g1⟩ := parts_Rule h
  obtain ⟨g0', g1'⟩ := parts_Rule h'
  obtain ⟨W, hW⟩ : ∃ W, W = (w.alloc (.cells #[v0, v1] 35)).alloc (.cells #[u0, u1] 35) := ⟨_, rfl⟩
  have ra : Row W w.heap.size 35 #[v0, v1] := by rw [hW]; exact (Row.new w 35 #[v0, v1]).alloc _
  have rb : Row W (w.heap.size + 1) 35 #[u0, u1] := by rw [hW]; have := Row.new (w.alloc (.cells #[v0, v1] 35)) 35 #[u0, u1]; simpa using this
  have bel : Below w.heap.size w W := by rw [hW]; exact ((Below.refl _ _).alloc (Nat.le_refl _) _).alloc (by simp) _
  have HW := Lib.hid hW
  have G0 := Lib.hid g0
  have G0' := Lib.hid g0'
  have Z0 : Hid (sz sI d.1 ≤ 1048576) := Lib.hid (by have := hz; simp only [sz] at this ⊢; omega)
  have G1 := Lib.hid g1
  have G1' := Lib.hid g1'
  have Z1 : Hid (sz sI d.2 ≤ 1048576) := Lib.hid (by have := hz; simp only [sz] at this ⊢; omega)
  clear hW hz h h' g0 g0' g1 g1'
  go_enter Try.func43, Try.ntmps43
  go_wp2_with fail
  rw [← HW.out]
  refine (eqK_ints _ _ _ W (G0.out.next bel) (G0'.out.next bel) Z0.out).mono ?_
  rintro e w1 ⟨rfl, bb⟩
  replace ra := ra.next bb
  replace rb := rb.next bb
  replace bel := next_trans bel bb
  clear bb
  have a1_0 : w1.cell? ⟨w.heap.size, 1, none⟩ = some (v1) := ra.cell 1
  have b1_0 : w1.cell? ⟨w.heap.size + 1, 1, none⟩ = some (u1) := rb.cell 1
  go_wp2_with fail
  clear a1_0 b1_0
  refine (eqK_ints _ _ _ w1 (G1.out.next bel) (G1'.out.next bel) Z1.out).mono ?_
  rintro e w2 ⟨rfl, bb⟩
  replace ra := ra.next bb
  replace rb := rb.next bb
  replace bel := next_trans bel bb
  clear bb
  have F : Yes w (.returned (.bool true)) w2 := ⟨rfl, bel⟩
  have HF := Lib.hid F
  clear F ra rb bel
  go_wp2
  go_ret
  exact HF.out

set_option maxHeartbeats 2000000 in
theorem markK_Rule (v0 v1 : Value) (d : Dat sRule) (k : Int) (F : List Nat) (w : World) (h : Ow w sRule [v0, v1] d F) (hF : F.Nodup) (hz : sz sRule d ≤ 1048576) (hk0 : 0 ≤ k) (hk : k + (cntv sRule d : Int) ≤ 1099511627776) :
    Calls Try.prog 54 #[.agg #[v0, v1], .int .i64 k] w (AnsMarkF w sRule [v0, v1] d k F) := by
  have hlt := h.lt
  obtain ⟨F0, R0, eF0, o0, o1⟩ := Ow.split (ca := [v0]) (cb := [v1]) h rfl
  rw [eF0] at hF
  obtain ⟨n0, nr0, x0, y0⟩ := dis_app hF
  obtain ⟨z0, hz0⟩ : ∃ z, cntv sI d.1 = z := ⟨_, rfl⟩
  obtain ⟨z1, hz1⟩ : ∃ z, cntv sI d.2 = z := ⟨_, rfl⟩
  have hc : (cntv sRule d : Int) = (z0 : Int) + (z1 : Int) := by rw [← hz0, ← hz1]; first | done | (simp only [cntv]; try omega)
  have Z0 : Hid (sz sI d.1 ≤ 1048576) := Lib.hid (by have := hz; simp only [sz] at this ⊢; omega)
  have HZ0 := Lib.hid hz0
  have Z1 : Hid (sz sI d.2 ≤ 1048576) := Lib.hid (by have := hz; simp only [sz] at this ⊢; omega)
  have HZ1 := Lib.hid hz1
  have HC := Lib.hid hc
  rw [hc] at hk
  obtain ⟨W, hW⟩ : ∃ W, W = w.alloc (.cells #[v0, v1] 35) := ⟨_, rfl⟩
  have r : Row W w.heap.size 35 #[v0, v1] := by rw [hW]; exact Row.new _ _ _
  have bel : Below w.heap.size w W := by rw [hW]; exact (Below.refl _ _).alloc (Nat.le_refl _) _
  replace o0 := o0.next bel
  replace o1 := o1.next bel
  have nb0 : w.heap.size ∉ F0 := fun hb => by have := hlt _ (by rw [eF0]; exact List.mem_append_left _ hb); omega
  have nb1 : w.heap.size ∉ R0 := fun hb => by have := hlt _ (by rw [eF0]; exact (List.mem_append_right _ hb)); omega
  have sub0 : ∀ x ∈ F0, x ∈ F := fun x hb => by rw [eF0]; exact List.mem_append_left _ hb
  have sub1 : ∀ x ∈ R0, x ∈ F := fun x hb => by rw [eF0]; exact (List.mem_append_right _ hb)
  have on : Only F w W := Only.of_below bel
  have HW := Lib.hid hW
  have HEF : Hid (F = (F0 ++ R0)) := Lib.hid (by rw [eF0])
  clear hW h hz hc bel hlt hz0 hz1 eF0
  go_enter Try.func54, Try.ntmps54
  go_wp2_with fail
  rw [← HW.out]
  refine (markK_ints _ _ k F0 _ o0 Z0.out (by omega) (by omega)).mono ?_
  rintro e w1 ⟨he, o0, on0⟩
  rw [HZ0.out] at he
  replace o1 := o1.only on0 y0
  replace r := Row.only r on0 nb0
  replace on := on.trans (on0.wider sub0)
  clear on0
  obtain ⟨k0, hk0⟩ : ∃ l, k + (z0 : Int) = l := ⟨_, rfl⟩
  rw [hk0] at he
  have l0 : 0 ≤ k0 := by omega
  have u0 : k0  + (z1 : Int) ≤ 1099511627776 := by omega
  subst he
  have HK0 := Lib.hid hk0
  clear hk0
  have c1_0 : w1.cell? ⟨w.heap.size, 1, none⟩ = some (v1) := r.cell 1
  go_wp2_with fail
  clear c1_0
  refine (markK_ints _ _ k0 R0 _ o1 Z1.out (by omega) (by omega)).mono ?_
  rintro e w2 ⟨he, o1, on1⟩
  rw [HZ1.out] at he
  replace o0 := o0.only on1 x0
  replace r := Row.only r on1 nb1
  replace on := on.trans (on1.wider sub1)
  clear on1
  obtain ⟨k1, hk1⟩ : ∃ l, k0 + (z1 : Int) = l := ⟨_, rfl⟩
  rw [hk1] at he
  have l1 : 0 ≤ k1 := by omega
  have u1 : k1  ≤ 1099511627776 := by omega
  subst he
  have HK1 := Lib.hid hk1
  clear hk1
  have F1 : AnsMarkF w sRule [v0, v1] d k F (.returned (.int .i64 k1)) w2 := by
    refine ⟨congrArg (fun z => Ending.returned (.int .i64 z)) ?_, ?_, on⟩
    · rw [HC.out]; have := HK0.out; have := HK1.out; omega
    · rw [HEF.out]
      have e0 : k0 = k + (cntv sI d.1 : Int) := by have := HK0.out; have := HZ0.out; omega
      rw [e0] at o1
      exact (Ow.join o0 o1)
  have HF := Lib.hid F1
  clear F1 on r o0 o1
  go_wp2
  go_ret
  exact HF.out

set_option maxHeartbeats 2000000 in
theorem heldK_Rule (v0 v1 : Value) (d : Dat sRule) (k : Int) (w : World) (h : Rd w w.heap.size sRule [v0, v1] (mkv sRule k d)) (hz : sz sRule d ≤ 1048576) (hk0 : 0 ≤ k) (hk : k + (cntv sRule d : Int) ≤ 1099511627776) :
    Calls Try.prog 55 #[.agg #[v0, v1], .int .i64 k] w (AnsHeld w (k + (cntv sRule d : Int))) := by
  obtain ⟨g0, g1⟩ := parts_Rule h
  have G0 : Hid (Rd w w.heap.size sI [v0] (mkv sI k d.1)) := Lib.hid g0
  obtain ⟨z0, hz0⟩ : ∃ z, cntv sI d.1 = z := ⟨_, rfl⟩
  have G1 : Hid (Rd w w.heap.size sI [v1] (mkv sI (k + (cntv sI d.1 : Int)) d.2)) := Lib.hid g1
  obtain ⟨z1, hz1⟩ : ∃ z, cntv sI d.2 = z := ⟨_, rfl⟩
  have hc : (cntv sRule d : Int) = (z0 : Int) + (z1 : Int) := by rw [← hz0, ← hz1]; first | done | (simp only [cntv]; try omega)
  have Z0 : Hid (sz sI d.1 ≤ 1048576) := Lib.hid (by have := hz; simp only [sz] at this ⊢; omega)
  have HZ0 := Lib.hid hz0
  rw [hz0] at G1
  have Z1 : Hid (sz sI d.2 ≤ 1048576) := Lib.hid (by have := hz; simp only [sz] at this ⊢; omega)
  have HZ1 := Lib.hid hz1
  rw [hc] at hk ⊢
  have r := Row.new w 35 #[v0, v1]
  have bel : Below w.heap.size w (w.alloc (.cells #[v0, v1] 35)) := (Below.refl _ _).alloc (Nat.le_refl _) _
  obtain ⟨W, hW⟩ : ∃ W, W = w.alloc (.cells #[v0, v1] 35) := ⟨_, rfl⟩
  rw [← hW] at r bel
  have HW := Lib.hid hW
  clear hW h hz hc g0 g1 hz0 hz1
  go_enter Try.func55, Try.ntmps55
  go_wp2_with fail
  rw [← HW.out]
  refine (heldK_ints _ d.1 k W (by refine (G0.out.next bel)) Z0.out (by omega) (by omega)).mono ?_
  rintro e w1 ⟨he, bb⟩
  rw [HZ0.out] at he
  replace r := r.next bb
  replace bel := next_trans bel bb
  clear bb
  obtain ⟨k0, hk0⟩ : ∃ l, k + (z0 : Int) = l := ⟨_, rfl⟩
  have he2 : e = .returned (.int .i64 k0) := by rw [he]; exact congrArg (fun z => Ending.returned (.int .i64 z)) (by omega)
  clear he
  have l0 : 0 ≤ k0 := by omega
  have u0 : k0  + (z1 : Int) ≤ 1099511627776 := by omega
  subst he2
  have HK0 := Lib.hid hk0
  clear hk0
  have c1_0 : w1.cell? ⟨w.heap.size, 1, none⟩ = some (v1) := r.cell 1
  go_wp2_with fail
  clear c1_0
  refine (heldK_ints _ d.2 k0 w1 (by rw [← HK0.out]; refine (G1.out.next bel)) Z1.out (by omega) (by omega)).mono ?_
  rintro e w2 ⟨he, bb⟩
  rw [HZ1.out] at he
  replace r := r.next bb
  replace bel := next_trans bel bb
  clear bb
  obtain ⟨k1, hk1⟩ : ∃ l, k + (z0 : Int) + (z1 : Int) = l := ⟨_, rfl⟩
  have he2 : e = .returned (.int .i64 k1) := by rw [he]; exact congrArg (fun z => Ending.returned (.int .i64 z)) (by have := HK0.out; omega)
  clear he
  have l1 : 0 ≤ k1 := by omega
  have u1 : k1  ≤ 1099511627776 := by omega
  subst he2
  have HK1 := Lib.hid hk1
  clear hk1
  have F : AnsHeld w (k + ((z0 : Int) + (z1 : Int))) (.returned (.int .i64 k1)) w2 := ⟨congrArg (fun z => Ending.returned (.int .i64 z)) (by have := HK1.out; omega), bel⟩
  have HF := Lib.hid F
  clear F r bel
  go_wp2
  go_ret
  exact HF.out

abbrev sRuleS : Sh := .row 35 sRule
set_option maxHeartbeats 2000000 in
theorem szK_RuleS (v : Value) (D : List (Dat sRule)) (left : Int) (w : World) (h : Rd w w.heap.size sRuleS [v] D) (h0 : 0 ≤ left) (h1 : left ≤ 1048576) :
    Calls Try.prog 84 #[v, .int .i64 left] w (AnsSzK w left (sz sRuleS D)) := by
  obtain ⟨A, c, rfl, hcap⟩ := h.slice
  obtain ⟨n, hn⟩ : ∃ n, D.length = n := ⟨_, rfl⟩
  rw [hn] at h hcap ⊢
  have hmax : n ≤ 9223372036854775807 := Nat.le_trans hcap.1 hcap.2.1
  have HN := Lib.hid hn
  have H := Lib.hid h
  clear hcap hn h
  by_cases hs : left - n < 0
  · have S : AnsSzK w left (sz sRuleS D) (.returned (.int .i64 (-1))) w := ⟨by rw [if_pos (by rw [sz_row, HN.out]; omega)], Below.refl _ _⟩
    have HS := Lib.hid S
    clear S
    go_enter Try.func84, Try.ntmps84
    go_wp2
    go_ret
    exact HS.out
  go_enter Try.func84, Try.ntmps84
  go_wp2
  go_loopw [1, 5] (fun l i wr => HeadSzK w n sRule D left l i wr) (fun _ i _ => n - (intOf i).toNat)
  case atStart => exact headSzK_zero (by omega)
  case round =>
    obtain ⟨k, hk, rfl, rfl, hge, hb⟩ := hrel
    by_cases hlt : k < n
    · obtain ⟨b, off, n2, c2, es, ev, -, -, hbB, hel, hp, hr⟩ := H.out.elem (j := k) (by rw [HN.out]; exact hlt)
      injection ev with e1 e2 e3
      subst e1 e2 e3
      obtain ⟨v0, v1, rfl⟩ := cells_Rule hr
      have hpw := hp.keep (w' := wr) (fun p hp => hb.cell (p := p) (by rw [hp]; exact hbB))
      have c0 : wr.cell? ⟨b, off + k * 2, none⟩ = some (v0) := hpw 0 (by simp)
      have c1 : wr.cell? ⟨b, off + k * 2 + 1, none⟩ = some (v1) := hpw 1 (by simp)
      obtain ⟨t, ht⟩ : ∃ t, sz sRule (D.getD k (dft sRule)) = t := ⟨_, rfl⟩
      obtain ⟨l, hl⟩ : ∃ l, left - n - szs sRule D k = l := ⟨_, rfl⟩
      have hsum := szs_succ (s := sRule) (d := D) (k := k) (by rw [HN.out]; exact hlt)
      rw [ht] at hsum
      rw [hl] at hge ⊢
      have hle : l ≤ 1048576 := by omega
      have L := Lib.hid (szK_Rule _ _ (D.getD k (dft sRule)) l wr ((hr.below hb).more hb.size) hge hle)
      rw [ht] at L
      have BAD := Lib.hid (fun (q : l - (t : Int) < 0) => headSzK_bad (e := 35) (D := D) (left := left) HN.out hlt hsum (by rw [hl]; exact q))
      have GOOD := Lib.hid (fun (q : ¬ l - (t : Int) < 0) (w1 : World) (hb : Below w.heap.size w w1) => headSzK_step (D := D) (left := left) (l := l) hlt hsum hl q hb)
      have HB := Lib.hid hb
      clear hr hel hp hpw ht hl hsum hb
      go_wp2_with fail
      refine L.out.mono ?_
      rintro e w1 ⟨he, bb⟩
      by_cases q : l - (t : Int) < 0
      · rw [if_pos q] at he
        subst he
        have F : AnsSzK w left (sz sRuleS D) (.returned (.int .i64 (-1))) w1 := ⟨BAD.out (by omega), next_trans HB.out bb⟩
        have HF := Lib.hid F
        clear F bb L GOOD BAD
        go_wp2
        go_ret
        exact HF.out
      · rw [if_neg q] at he
        subst he
        have F := Lib.hid (GOOD.out (by omega) w1 (next_trans HB.out bb))
        clear bb L GOOD BAD
        go_wp2
        go_roundw
        case rel => exact F.out
        case measure => simp [intOf]; omega
    · have F := Lib.hid (headSzK_end (e := 35) HN.out hlt hk hge hb)
      clear hge hb
      go_wp2
      go_ret
      exact F.out

theorem info_RuleS : (Try.prog.info? 35).map (fun i => (i.zero, i.size, i.bytes)) = some (some (.agg #[.slice none 0 0, .slice none 0 0]), 2, 48) := by kernel_rfl
theorem make_RuleS (n : Nat) (hn : n ≤ 1048576) (W : World) : (Instr.makeSlice 27 (.int .i64 (n : Int)) (.int .i64 (n : Int))).run Try.prog W =
    .ok (.slice (some ⟨W.heap.size, 0, none⟩) n n) (W.alloc (.cells (madeCells #[.slice none 0 0, .slice none 0 0] (n * 2)) 35)) := by
  obtain ⟨i0, hi, hz0, hz1, hz2⟩ := info_parts info_RuleS
  have hr := run_make (P := Try.prog) W 27 35 i0 _ Try.underlying27 hi hz0 .i64 .i64 n n (by omega) (by omega) (by rw [hz2]; omega) (by omega)
  simpa [hz1, Value.cells] using hr
set_option maxHeartbeats 2000000 in
theorem toK_RuleS (v : Value) (D : List (Dat sRule)) (w : World) (h : Rd w w.heap.size sRuleS [v] D) (hz : sz sRuleS D ≤ 1048576) :
    Calls Try.prog 85 #[v] w (Copy1 w sRuleS D) := by
  obtain ⟨A, c, rfl, hcap⟩ := h.slice
  obtain ⟨n, hn⟩ : ∃ n, D.length = n := ⟨_, rfl⟩
  have hn1 : n ≤ 1048576 := by rw [← hn]; exact sz_len hz
  rw [hn] at h hcap ⊢
  have HN := Lib.hid hn
  have H := Lib.hid h
  have HZ := Lib.hid hz
  clear hcap hn h hz
  have hmk := make_RuleS n hn1
  have S0 := Lib.hid (headCp_zero (s := sRule) (e := 35) (w := w) (n := n) (D := D) (cs := madeCells #[.slice none 0 0, .slice none 0 0] (n * 2)) (size_madeCells _ _))
  go_enter Try.func85, Try.ntmps85
  go_wp2
  clear hmk
  go_loopw [4] (fun i wr => HeadCp w 35 sRule n D i wr) (fun i _ => n - (intOf i).toNat)
  case atStart => exact S0.out
  case round =>
    obtain ⟨k, ks, E, G, hk, rfl, hr, hs, hnd, hi, hb⟩ := hrel
    clear S0
    by_cases hlt : k < n
    · have hkD : k < D.length := by rw [HN.out]; exact hlt
      obtain ⟨b, off, n2, c2, es, ev, -, -, hbB, hel, hp, hrd⟩ := H.out.elem hkD
      injection ev with e1 e2 e3
      subst e1 e2 e3
      obtain ⟨v0, v1, rfl⟩ := cells_Rule hrd
      have hpw := hp.keep (w' := wr) (fun p hp => hb.cell (p := p) (by rw [hp]; exact hbB))
      have c0 : wr.cell? ⟨b, off + k * 2, none⟩ = some (v0) := hpw 0 (by simp)
      have c1 : wr.cell? ⟨b, off + k * 2 + 1, none⟩ = some (v1) := hpw 1 (by simp)
      have L := Lib.hid (toK_Rule _ _ (D.getD k (dft sRule)) wr ((hrd.below hb).more hb.size) (sz_each HZ.out hkD))
      have R := Lib.hid (fun w1 xA0 xn0 xc0 xA1 xn1 xc1 ho bb => headCp_step (w1 := w1) (es := [.slice xA0 xn0 xc0, .slice xA1 xn1 xc1]) hlt hr hs hnd hi hb ho bb)
      have rr := hr
      have hsz : ks.size = n * 2 := hs
      have HS := Lib.hid hsz
      clear hr hs hnd hi hb hrd hel hp hpw hsz
      go_wp2_with fail
      refine L.out.mono ?_
      rintro e w1 ⟨xA0, xn0, xc0, xA1, xn1, xc1, rfl, ho, bb⟩
      have S := Lib.hid (R.out w1 xA0 xn0 xc0 xA1 xn1 xc1 ho bb)
      have rr1 := rr.next bb
      obtain ⟨u0, hu0⟩ : ∃ u, w1.cell? ⟨w.heap.size, k * 2, none⟩ = some u := ⟨_, (rr1.cell _).trans (Array.getElem?_eq_getElem (by rw [HS.out]; omega))⟩
      have hf0 : w1.frozen? ⟨w.heap.size, k * 2, none⟩ = false := rr1.free _
      obtain ⟨u1, hu1⟩ : ∃ u, w1.cell? ⟨w.heap.size, k * 2 + 1, none⟩ = some u := ⟨_, (rr1.cell _).trans (Array.getElem?_eq_getElem (by rw [HS.out]; omega))⟩
      have hf1 : w1.frozen? ⟨w.heap.size, k * 2 + 1, none⟩ = false := rr1.free _
      clear ho bb rr rr1 L R
      go_wp2
      go_roundw
      case rel => exact S.out
      case measure => simp [intOf]; omega
    · have e1 : k = n := by omega
      subst e1
      have F := Lib.hid (headCp_end HN.out hn1 hr hs hnd hi hb)
      clear hr hs hnd hi hb
      go_wp2
      go_ret
      exact F.out

set_option maxHeartbeats 2000000 in
theorem eqK_RuleS (v u : Value) (D : List (Dat sRule)) (w : World) (h : Rd w w.heap.size sRuleS [v] D) (h' : Rd w w.heap.size sRuleS [u] D) (hz : sz sRuleS D ≤ 1048576) :
    Calls Try.prog 86 #[v, u] w (Yes w) := by
  obtain ⟨A, c, rfl, hcap⟩ := h.slice
  obtain ⟨A', c', rfl, hcap'⟩ := h'.slice
  obtain ⟨n, hn⟩ : ∃ n, D.length = n := ⟨_, rfl⟩
  have hn1 : n ≤ 1048576 := by rw [← hn]; exact sz_len hz
  rw [hn] at h h' hcap hcap' ⊢
  have HN := Lib.hid hn
  have H := Lib.hid h
  have H' := Lib.hid h'
  have HZ := Lib.hid hz
  clear hcap hcap' hn h h' hz
  go_enter Try.func86, Try.ntmps86
  go_wp2
  go_loopw [5] (fun i wr => ∃ k : Nat, k ≤ n ∧ i = .int .i64 k ∧ Below w.heap.size w wr) (fun i _ => n - (intOf i).toNat)
  case atStart => exact ⟨0, Nat.zero_le _, rfl, Below.refl _ _⟩
  case round =>
    obtain ⟨k, hk, rfl, hb⟩ := hrel
    by_cases hlt : k < n
    · have hkD : k < D.length := by rw [HN.out]; exact hlt
      obtain ⟨b, off, n2, c2, es, ev, -, -, hbB, hel, hp, hrd⟩ := H.out.elem hkD
      injection ev with e1 e2 e3
      subst e1 e2 e3
      obtain ⟨b', off', n2, c2, es', ev, -, -, hbB', hel', hp', hrd'⟩ := H'.out.elem hkD
      injection ev with e1 e2 e3
      subst e1 e2 e3
      obtain ⟨v0, v1, rfl⟩ := cells_Rule hrd
      obtain ⟨u0, u1, rfl⟩ := cells_Rule hrd'
      replace hb := hb.drew
      have hpw := hp.keep (w' := wr.drew) (fun p hp => hb.cell (p := p) (by rw [hp]; exact hbB))
      have hpw' := hp'.keep (w' := wr.drew) (fun p hp => hb.cell (p := p) (by rw [hp]; exact hbB'))
      have c0 : wr.drew.cell? ⟨b, off + k * 2, none⟩ = some (v0) := hpw 0 (by simp)
      have c0' : wr.drew.cell? ⟨b', off' + k * 2, none⟩ = some (u0) := hpw' 0 (by simp)
      have c1 : wr.drew.cell? ⟨b, off + k * 2 + 1, none⟩ = some (v1) := hpw 1 (by simp)
      have c1' : wr.drew.cell? ⟨b', off' + k * 2 + 1, none⟩ = some (u1) := hpw' 1 (by simp)
      have L := Lib.hid (eqK_Rule _ _ _ _ (D.getD k (dft sRule)) wr.drew ((hrd.below hb).more hb.size) ((hrd'.below hb).more hb.size) (sz_each HZ.out hkD))
      have HB := Lib.hid hb
      have hlb : b < wr.drew.heap.size := Nat.lt_of_lt_of_le hbB hb.size
      have hlb' : b' < wr.drew.heap.size := Nat.lt_of_lt_of_le hbB' hb.size
      clear hrd hrd' hel hel' hp hp' hpw hpw' hb
      go_wp2_with fail
      go_region_held3 (fun w' => w'.cell? ⟨b, off + k * 2, none⟩ = some (v0) ∧ w'.cell? ⟨b', off' + k * 2, none⟩ = some (u0) ∧ w'.cell? ⟨b, off + k * 2 + 1, none⟩ = some (v1) ∧ w'.cell? ⟨b', off' + k * 2 + 1, none⟩ = some (u1))
        (go_keep)
        (first | (go_at_call 43; refine L.out.mono ?_; rintro e w1 ⟨rfl, bb⟩; have m0 := (bb.cell (p := ⟨b, off + k * 2, none⟩) hlb).trans c0; have m1 := (bb.cell (p := ⟨b', off' + k * 2, none⟩) hlb').trans c0'; have m2 := (bb.cell (p := ⟨b, off + k * 2 + 1, none⟩) hlb).trans c1; have m3 := (bb.cell (p := ⟨b', off' + k * 2 + 1, none⟩) hlb').trans c1'))
      have HB1 := Lib.hid (next_trans HB.out bb)
      clear bb L c0 c0' c1 c1' m0 m1 m2 m3
      go_wp2
      go_roundw
      case rel => exact ⟨k + 1, hlt, by simp, HB1.out⟩
      case measure => simp [intOf]; omega
    · have HB := Lib.hid hb
      clear hb
      go_wp2
      go_ret
      exact ⟨rfl, HB.out⟩

set_option maxHeartbeats 2000000 in
theorem markK_RuleS (v : Value) (D : List (Dat sRule)) (k : Int) (F : List Nat) (w : World) (h : Ow w sRuleS [v] D F) (hF : F.Nodup) (hz : sz sRuleS D ≤ 1048576) (hk0 : 0 ≤ k) (hk : k + (cntv sRuleS D : Int) ≤ 1099511627776) :
    Calls Try.prog 88 #[v, .int .i64 k] w (AnsMarkF w sRuleS [v] D k F) := by
  obtain ⟨A, c, rfl, hcap⟩ := h.rd.slice
  have hn1 := sz_len hz
  obtain ⟨n, hn⟩ : ∃ n, D.length = n := ⟨_, rfl⟩
  rw [hn] at h hcap hn1 ⊢
  have HN := Lib.hid hn
  have HZ := Lib.hid hz
  have S0 := Lib.hid (headMk_zero (k := k) h)
  clear h hcap hn hz
  go_enter Try.func88, Try.ntmps88
  go_wp2
  go_loopw [1, 5] (fun kk i wr => HeadMk w 35 sRule (.slice A n c) D k F kk i wr) (fun _ i _ => n - (intOf i).toNat)
  case atStart => exact S0.out
  case round =>
    obtain ⟨j, hj, rfl, rfl, ho, hb⟩ := hrel
    clear S0
    rw [HN.out] at hj
    by_cases hlt : j < n
    · have hjD : j < D.length := by rw [HN.out]; exact hlt
      obtain ⟨g, n2, c2, es, Gj, ev, -, hel, hp, hg, oe, ng, gG, sub, R⟩ := ho.elem' hF (j := j) (by rw [mixed_len]; exact hjD)
      injection ev with e1 e2 e3
      subst e1 e2 e3
      rw [mixed_get hjD] at oe
      obtain ⟨v0, v1, rfl⟩ := cells_Rule oe.rd
      obtain ⟨F0, R0, eF0, o0, o1⟩ := Ow.split (ca := [v0]) (cb := [v1]) oe rfl
      rw [eF0] at ng
      obtain ⟨n0, nr0, x0, y0⟩ := dis_app ng
      have g0 : g ∉ F0 := fun hb => gG (by rw [eF0]; exact List.mem_append_left _ hb)
      have g1 : g ∉ R0 := fun hb => gG (by rw [eF0]; exact (List.mem_append_right _ hb))
      have sub0 : ∀ x ∈ F0, x ∈ Gj := fun x hb => by rw [eF0]; exact List.mem_append_left _ hb
      have sub1 : ∀ x ∈ R0, x ∈ Gj := fun x hb => by rw [eF0]; exact (List.mem_append_right _ hb)
      obtain ⟨z0, hz0⟩ : ∃ z, cntv sI ((D.getD j (dft sRule)).1) = z := ⟨_, rfl⟩
      obtain ⟨z1, hz1⟩ : ∃ z, cntv sI ((D.getD j (dft sRule)).2) = z := ⟨_, rfl⟩
      have hzz : cnt sRule (D.getD j (dft sRule)) = z0 + z1 := by rw [← hz0, ← hz1]; rfl
      have hcn := headMk_cnt (e := 35) hjD
      rw [hzz] at hcn
      obtain ⟨q, hq⟩ : ∃ q, k + (cnts sRule D j : Int) = q := ⟨_, rfl⟩
      have q0 : 0 ≤ q := by omega
      have q1 : q + (z0 : Int) + (z1 : Int) ≤ 1099511627776 := by have : (cntv sRuleS D : Int) = (cntv (.row 35 sRule) D : Nat) := rfl; omega
      have Z0 : Hid (sz sI ((D.getD j (dft sRule)).1) ≤ 1048576) := Lib.hid (by have := sz_each HZ.out hjD; simp only [sz] at this ⊢; omega)
      have HZ0 := Lib.hid hz0
      have Z1 : Hid (sz sI ((D.getD j (dft sRule)).2) ≤ 1048576) := Lib.hid (by have := sz_each HZ.out hjD; simp only [sz] at this ⊢; omega)
      have HZ1 := Lib.hid hz1
      rw [hq]
      have HEF : Hid (Gj = (F0 ++ R0)) := Lib.hid (by rw [eF0])
      have HR := Lib.hid R
      have HB := Lib.hid hb
      have HQ := Lib.hid hq
      have HZZ := Lib.hid hzz
      have SUB := Lib.hid sub
      have on : Only Gj wr wr := Only.refl _ _
      have c0 : wr.cell? ⟨g, j * 2, none⟩ = some (v0) := by simpa [nc] using hp 0 (by simp)
      have c1 : wr.cell? ⟨g, j * 2 + 1, none⟩ = some (v1) := by simpa [nc] using hp 1 (by simp)
      clear R hb hq hzz hcn ho oe sub hp hel gG hz0 hz1 eF0
      go_wp2_with fail
      refine (markK_ints _ _ q F0 _ o0 Z0.out (by omega) (by omega)).mono ?_
      rintro e w1 ⟨he, o0, on0⟩
      rw [HZ0.out] at he
      replace o1 := o1.only on0 y0
      have hgl : g < wr.heap.size := Nat.lt_of_lt_of_le hg on.size
      replace c0 := (World.cell?_of_block (a := ⟨g, j * 2, none⟩) (on0.block g hgl g0)).trans c0
      replace c1 := (World.cell?_of_block (a := ⟨g, j * 2 + 1, none⟩) (on0.block g hgl g0)).trans c1
      replace on := on.trans (on0.wider sub0)
      clear on0 hgl
      obtain ⟨k0, hk0⟩ : ∃ l, q + (z0 : Int) = l := ⟨_, rfl⟩
      rw [hk0] at he
      have l0 : 0 ≤ k0 := by omega
      have u0 : k0  + (z1 : Int) ≤ 1099511627776 := by omega
      subst he
      have HK0 := Lib.hid hk0
      clear hk0
      go_wp2_with fail
      refine (markK_ints _ _ k0 R0 _ o1 Z1.out (by omega) (by omega)).mono ?_
      rintro e w2 ⟨he, o1, on1⟩
      rw [HZ1.out] at he
      replace o0 := o0.only on1 x0
      have hgl : g < w1.heap.size := Nat.lt_of_lt_of_le hg on.size
      replace c0 := (World.cell?_of_block (a := ⟨g, j * 2, none⟩) (on1.block g hgl g1)).trans c0
      replace c1 := (World.cell?_of_block (a := ⟨g, j * 2 + 1, none⟩) (on1.block g hgl g1)).trans c1
      replace on := on.trans (on1.wider sub1)
      clear on1 hgl
      obtain ⟨k1, hk1⟩ : ∃ l, k0 + (z1 : Int) = l := ⟨_, rfl⟩
      rw [hk1] at he
      have l1 : 0 ≤ k1 := by omega
      have u1 : k1  ≤ 1099511627776 := by omega
      subst he
      have HK1 := Lib.hid hk1
      clear hk1
      have e0 : k0 = q + (cntv sI ((D.getD j (dft sRule)).1) : Int) := by have := HK0.out; have := HZ0.out; omega
      rw [e0] at o1
      have S : HeadMk w 35 sRule (.slice (some ⟨g, 0, none⟩) n c) D k F (.int .i64 k1) (.int .i64 ((j : Int) + 1)) w2 := by
        have h1 := HR.out w2 (mkc sRule q (D.getD j (dft sRule))) (by rw [HEF.out]; exact (Ow.join o0 o1)) on
        have h2 := headMk_step (z := z0 + z1) hjD HB.out (on.wider SUB.out) HZZ.out (by rw [HQ.out]) h1
        have h3 : k + (cnts sRule D j : Int) + ((z0 + z1 : Nat) : Int) = k1 := by have := HQ.out; have := HK0.out; have := HK1.out; omega
        rw [h3] at h2
        exact h2
      have HS := Lib.hid S
      clear S on o0 o1 c0 c1 e0
      go_wp2
      go_roundw
      case rel => exact HS.out
      case measure => simp [intOf]; omega
    · have F1 := Lib.hid (headMk_end (by rw [HN.out]; exact hlt) (by rw [HN.out]; exact hj) ho hb)
      clear ho hb
      generalize cnts sRule D j = z at *
      go_wp2
      go_ret
      exact F1.out

abbrev sSystem : Sh := .cat sSig sRuleS
theorem parts_System {w : World} {B : Nat} {v0 v1 : Value} {d : Dat sSystem} (h : Rd w B sSystem [v0, v1] d) : Rd w B sSig [v0] d.1 ∧ Rd w B sRuleS [v1] d.2 := by
  obtain ⟨p0, q0⟩ := Rd.split (ca := [v0]) (cb := [v1]) h rfl
  exact ⟨p0, q0⟩
theorem join_System {w : World} {lo hi : Nat} {v0 v1 : Value} {d : Dat sSystem} {m0 m1 m2 : Nat} (o0 : Owned w m0 m1 sSig [v0] d.1) (o1 : Owned w m1 m2 sRuleS [v1] d.2) (l0 : m0 ≤ m1) (l1 : m1 ≤ m2) (hl : lo ≤ m0) (hh : m2 ≤ hi) : Owned w lo hi sSystem [v0, v1] d := by
  exact ((Owned.cat o0 o1 (Nat.le_refl _) (by omega) (by omega)) : Owned w m0 m2 sSystem [v0, v1] d).wider hl hh
theorem cells_System {w : World} {B : Nat} {es : List Value} {d : Dat sSystem} (h : Rd w B sSystem es d) : ∃ (v0 : Value) (v1 : Value), es = [v0, v1] := by
  obtain ⟨ca0, cb0, e0, p0, q0⟩ := h
  obtain ⟨u0, z0⟩ := cells_Sig p0
  obtain ⟨A1, n1, c1, z1, -⟩ := q0
  exact ⟨u0, .slice A1 n1 c1, by rw [e0, z0, z1] <;> rfl⟩

set_option maxHeartbeats 2000000 in
theorem szK_System (v0 v1 : Value) (d : Dat sSystem) (left : Int) (w : World) (h : Rd w w.heap.size sSystem [v0, v1] d) (h0 : 0 ≤ left) (h1 : left ≤ 1048576) :
    Calls Try.prog 44 #[.agg #[v0, v1], .int .i64 left] w (AnsSzK w left (sz sSystem d)) := by
  obtain ⟨g0, g1⟩ := parts_System h
  obtain ⟨t0, ht0⟩ : ∃ t, sz sSig d.1 = t := ⟨_, rfl⟩
  obtain ⟨t1, ht1⟩ : ∃ t, sz sRuleS d.2 = t := ⟨_, rfl⟩
  have HE : Hid (sz sSystem d = t0 + t1) := Lib.hid (by rw [← ht0, ← ht1]; simp only [sz]; try omega)
  have HT0 := Lib.hid ht0
  have G0 := Lib.hid g0
  have HT1 := Lib.hid ht1
  have G1 := Lib.hid g1
  obtain ⟨W, hW⟩ : ∃ W, W = w.alloc (.cells #[v0, v1] 51) := ⟨_, rfl⟩
  have r : Row W w.heap.size 51 #[v0, v1] := by rw [hW]; exact Row.new _ _ _
  have bel : Below w.heap.size w W := by rw [hW]; exact (Below.refl _ _).alloc (Nat.le_refl _) _
  have HW := Lib.hid hW
  clear hW h g0 g1 ht0 ht1
  go_enter Try.func44, Try.ntmps44
  go_wp2_with fail
  rw [← HW.out]
  refine (szK_Sig _ _ left W (G0.out.next bel) h0 h1).mono ?_
  rintro e w1 ⟨he, bb⟩
  rw [HT0.out] at he
  replace r := r.next bb
  replace bel := next_trans bel bb
  clear bb
  by_cases q0 : left - (t0 : Int) < 0
  · rw [if_pos q0] at he
    subst he
    have F : AnsSzK w left (sz sSystem d) (.returned (.int .i64 (-1))) w1 := ⟨by rw [HE.out, if_pos (by omega)], bel⟩
    have HF := Lib.hid F
    clear F bel r
    go_wp2
    go_ret
    exact HF.out
  rw [if_neg q0] at he
  obtain ⟨l0, hl0⟩ : ∃ l, left - (t0 : Int) = l := ⟨_, rfl⟩
  rw [hl0] at he
  have a0 : 0 ≤ l0 := by omega
  have b0 : l0 ≤ 1048576 := by omega
  have HL0 := Lib.hid hl0
  clear hl0 q0
  subst he
  have c0_0 : w1.cell? ⟨w.heap.size, 1, none⟩ = some (v1) := r.cell 1
  go_wp2_with fail
  refine (szK_RuleS _ _ l0 w1 (G1.out.next bel) a0 b0).mono ?_
  rintro e w2 ⟨he, bb⟩
  rw [HT1.out] at he
  replace r := r.next bb
  replace bel := next_trans bel bb
  clear bb
  by_cases q1 : l0 - (t1 : Int) < 0
  · rw [if_pos q1] at he
    subst he
    have F : AnsSzK w left (sz sSystem d) (.returned (.int .i64 (-1))) w2 := ⟨by have := HL0.out; rw [HE.out, if_pos (by omega)], bel⟩
    have HF := Lib.hid F
    clear F bel r
    go_wp2
    go_ret
    exact HF.out
  rw [if_neg q1] at he
  obtain ⟨l1, hl1⟩ : ∃ l, l0 - (t1 : Int) = l := ⟨_, rfl⟩
  rw [hl1] at he
  have a1 : 0 ≤ l1 := by omega
  have b1 : l1 ≤ 1048576 := by omega
  have HL1 := Lib.hid hl1
  clear hl1 q1
  subst he
  have F : AnsSzK w left (sz sSystem d) (.returned (.int .i64 l1)) w2 := ⟨by have := HL0.out; have := HL1.out; rw [HE.out, if_neg (by omega)]; exact congrArg (fun z => Ending.returned (.int .i64 z)) (by omega), bel⟩
  have HF := Lib.hid F
  clear F bel r
  go_wp2
  go_ret
  exact HF.out

def CopySystem (w : World) (d : Dat sSystem) (e : Ending) (w' : World) : Prop := ∃ A0 n0 c0 A1 n1 c1, e = .returned (.agg #[.slice A0 n0 c0, .slice A1 n1 c1]) ∧ Owned w' w.heap.size w'.heap.size sSystem [.slice A0 n0 c0, .slice A1 n1 c1] d ∧ Below w.heap.size w w'
set_option maxHeartbeats 2000000 in
theorem toK_System (v0 v1 : Value) (d : Dat sSystem) (w : World) (h : Rd w w.heap.size sSystem [v0, v1] d) (hz : sz sSystem d ≤ 1048576) :
    Calls Try.prog 45 #[.agg #[v0, v1]] w (CopySystem w d) := by
  obtain ⟨g0, g1⟩ := parts_System h
  have cp0 := CpS.zero w 51 29 #[v0, v1] #[.slice none 0 0, .slice none 0 0]
  obtain ⟨W, hW⟩ : ∃ W, W = ((w.alloc (.cells #[v0, v1] 51)).alloc (.cells #[.slice none 0 0, .slice none 0 0] 29)).alloc (.cells #[.slice none 0 0, .slice none 0 0] 29) := ⟨_, rfl⟩
  rw [← hW] at cp0
  have HW := Lib.hid hW
  have G0 := Lib.hid g0
  have Z0 : Hid (sz sSig d.1 ≤ 1048576) := Lib.hid (by have := hz; simp only [sz] at this ⊢; omega)
  have G1 := Lib.hid g1
  have Z1 : Hid (sz sRuleS d.2 ≤ 1048576) := Lib.hid (by have := hz; simp only [sz] at this ⊢; omega)
  clear hW hz h g0 g1
  go_enter Try.func45, Try.ntmps45
  go_wp2_with fail
  rw [← HW.out]
  refine (toK_Sig _ _ _ ((G0.out.below cp0.bel).more cp0.bel.size) Z0.out).mono ?_
  rintro e w1 ⟨x0A0, x0n0, x0c0, rfl, o0, bb⟩
  have zb0 := bb.size
  have zc0 := cp0.size
  replace cp0 := cp0.next bb
  clear bb
  have f0_0 : w1.frozen? ⟨w.heap.size + 1 + 1, 0, none⟩ = false := cp0.cur.free 0
  have k0_0 : w1.cell? ⟨w.heap.size + 1 + 1, 0, none⟩ = some (.slice none 0 0) := cp0.cur.cell 0
  obtain ⟨w2, hw0⟩ : ∃ x, x = (w1.setCell ⟨w.heap.size + 1 + 1, 0, none⟩ (.slice x0A0 x0n0 x0c0)) := ⟨_, rfl⟩
  replace o0 := o0.put (g := w.heap.size + 1 + 1) (i := 0) (u := .slice x0A0 x0n0 x0c0) (by omega)
  rw [← hw0] at o0
  replace cp0 : CpS w 51 29 #[v0, v1] #[.slice none 0 0, .slice none 0 0] #[.slice x0A0 x0n0 x0c0, .slice none 0 0] w2 := by rw [hw0]; exact (CpS.put cp0 0 (.slice x0A0 x0n0 x0c0))
  have zw0 : w2.heap.size = w1.heap.size := by rw [hw0]; simp
  have HW0 := Lib.hid hw0
  clear hw0
  have d1_0 : w2.cell? ⟨w.heap.size, 1, none⟩ = some (v1) := cp0.box.cell 1
  rw [HW0.out] at d1_0
  go_wp2_with fail
  rw [← HW0.out]
  clear d1_0
  refine (toK_RuleS _ _ _ ((G1.out.below cp0.bel).more cp0.bel.size) Z1.out).mono ?_
  rintro e w3 ⟨x1A0, x1n0, x1c0, rfl, o1, bb⟩
  replace o0 := o0.next bb
  have zb1 := bb.size
  have zc1 := cp0.size
  replace cp0 := cp0.next bb
  clear bb
  have f1_0 : w3.frozen? ⟨w.heap.size + 1 + 1, 1, none⟩ = false := cp0.cur.free 1
  have k1_0 : w3.cell? ⟨w.heap.size + 1 + 1, 1, none⟩ = some (.slice none 0 0) := cp0.cur.cell 1
  obtain ⟨w4, hw1⟩ : ∃ x, x = (w3.setCell ⟨w.heap.size + 1 + 1, 1, none⟩ (.slice x1A0 x1n0 x1c0)) := ⟨_, rfl⟩
  replace o0 := o0.put (g := w.heap.size + 1 + 1) (i := 1) (u := .slice x1A0 x1n0 x1c0) (by omega)
  rw [← hw1] at o0
  replace o1 := o1.put (g := w.heap.size + 1 + 1) (i := 1) (u := .slice x1A0 x1n0 x1c0) (by omega)
  rw [← hw1] at o1
  replace cp0 : CpS w 51 29 #[v0, v1] #[.slice none 0 0, .slice none 0 0] #[.slice x0A0 x0n0 x0c0, .slice x1A0 x1n0 x1c0] w4 := by rw [hw1]; exact (CpS.put cp0 1 (.slice x1A0 x1n0 x1c0))
  have zw1 : w4.heap.size = w3.heap.size := by rw [hw1]; simp
  have HW1 := Lib.hid hw1
  clear hw1
  have y0 : w4.cell? ⟨w.heap.size + 1 + 1, 0, none⟩ = some (.slice x0A0 x0n0 x0c0) := cp0.cur.cell 0
  rw [HW1.out] at y0
  have y1 : w4.cell? ⟨w.heap.size + 1 + 1, 1, none⟩ = some (.slice x1A0 x1n0 x1c0) := cp0.cur.cell 1
  rw [HW1.out] at y1
  have s0 : (w4).cell? ⟨w.heap.size + 1, 0, none⟩ = some (.slice none 0 0) := cp0.res.cell 0
  rw [HW1.out] at s0
  have r0 : (w4).frozen? ⟨w.heap.size + 1, 0, none⟩ = false := cp0.res.free 0
  rw [HW1.out] at r0
  have s1 : ((w4.setCell ⟨w.heap.size + 1, 0, none⟩ (.slice x0A0 x0n0 x0c0))).cell? ⟨w.heap.size + 1, 1, none⟩ = some (.slice none 0 0) := (CpS.fin cp0 0 (.slice x0A0 x0n0 x0c0)).res.cell 1
  rw [HW1.out] at s1
  have r1 : ((w4.setCell ⟨w.heap.size + 1, 0, none⟩ (.slice x0A0 x0n0 x0c0))).frozen? ⟨w.heap.size + 1, 1, none⟩ = false := (CpS.fin cp0 0 (.slice x0A0 x0n0 x0c0)).res.free 1
  rw [HW1.out] at r1
  have oo : Owned w4 (w.heap.size + 1 + 1 + 1) w4.heap.size sSystem [.slice x0A0 x0n0 x0c0, .slice x1A0 x1n0 x1c0] d := join_System (m0 := W.heap.size) (m1 := w2.heap.size) (m2 := w4.heap.size) (o0.wider (Nat.le_refl _) (by omega)) (o1.wider (Nat.le_refl _) (by omega)) (by omega) (by omega) (by omega) (by omega)
  have F : CopySystem w d (.returned (.agg #[.slice x0A0 x0n0 x0c0, .slice x1A0 x1n0 x1c0])) ((w4.setCell ⟨w.heap.size + 1, 0, none⟩ (.slice x0A0 x0n0 x0c0)).setCell ⟨w.heap.size + 1, 1, none⟩ (.slice x1A0 x1n0 x1c0)) := ⟨x0A0, x0n0, x0c0, x1A0, x1n0, x1c0, rfl, Owned.wider (((oo.put (g := w.heap.size + 1) (i := 0) (u := .slice x0A0 x0n0 x0c0) (by omega)).put (g := w.heap.size + 1) (i := 1) (u := .slice x1A0 x1n0 x1c0) (by omega))) (by omega) (by simp), ((CpS.fin (CpS.fin cp0 0 (.slice x0A0 x0n0 x0c0)) 1 (.slice x1A0 x1n0 x1c0))).bel⟩
  have u0 : (((w4.setCell ⟨w.heap.size + 1, 0, none⟩ (.slice x0A0 x0n0 x0c0)).setCell ⟨w.heap.size + 1, 1, none⟩ (.slice x1A0 x1n0 x1c0))).cell? ⟨w.heap.size + 1, 0, none⟩ = some (.slice x0A0 x0n0 x0c0) := (CpS.fin (CpS.fin cp0 0 (.slice x0A0 x0n0 x0c0)) 1 (.slice x1A0 x1n0 x1c0)).res.cell 0
  rw [HW1.out] at u0
  have u1 : (((w4.setCell ⟨w.heap.size + 1, 0, none⟩ (.slice x0A0 x0n0 x0c0)).setCell ⟨w.heap.size + 1, 1, none⟩ (.slice x1A0 x1n0 x1c0))).cell? ⟨w.heap.size + 1, 1, none⟩ = some (.slice x1A0 x1n0 x1c0) := (CpS.fin (CpS.fin cp0 0 (.slice x0A0 x0n0 x0c0)) 1 (.slice x1A0 x1n0 x1c0)).res.cell 1
  rw [HW1.out] at u1
  rw [HW1.out] at F
  have HF := Lib.hid F
  clear F oo cp0 o0 o1
  go_wp2
  exact bodyPost_ret (v := .agg #[.slice x0A0 x0n0 x0c0, .slice x1A0 x1n0 x1c0]) (by simp [results, Try.results45, go_sem, u0, u1]) rfl HF.out

set_option maxHeartbeats 2000000 in
theorem eqK_System (v0 v1 u0 u1 : Value) (d : Dat sSystem) (w : World) (h : Rd w w.heap.size sSystem [v0, v1] d) (h' : Rd w w.heap.size sSystem [u0, u1] d) (hz : sz sSystem d ≤ 1048576) :
    Calls Try.prog 46 #[.agg #[v0, v1], .agg #[u0, u1]] w (Yes w) := by
  obtain ⟨g0, g1⟩ := parts_System h
  obtain ⟨g0', g1'⟩ := parts_System h'
  obtain ⟨W, hW⟩ : ∃ W, W = (w.alloc (.cells #[v0, v1] 29)).alloc (.cells #[u0, u1] 29) := ⟨_, rfl⟩
  have ra : Row W w.heap.size 29 #[v0, v1] := by rw [hW]; exact (Row.new w 29 #[v0, v1]).alloc _
  have rb : Row W (w.heap.size + 1) 29 #[u0, u1] := by rw [hW]; have := Row.new (w.alloc (.cells #[v0, v1] 29)) 29 #[u0, u1]; simpa using this
  have bel : Below w.heap.size w W := by rw [hW]; exact ((Below.refl _ _).alloc (Nat.le_refl _) _).alloc (by simp) _
  have HW := Lib.hid hW
  have G0 := Lib.hid g0
  have G0' := Lib.hid g0'
  have Z0 : Hid (sz sSig d.1 ≤ 1048576) := Lib.hid (by have := hz; simp only [sz] at this ⊢; omega)
  have G1 := Lib.hid g1
  have G1' := Lib.hid g1'
  have Z1 : Hid (sz sRuleS d.2 ≤ 1048576) := Lib.hid (by have := hz; simp only [sz] at this ⊢; omega)
  clear hW hz h h' g0 g0' g1 g1'
  go_enter Try.func46, Try.ntmps46
  go_wp2_with fail
  rw [← HW.out]
  refine (eqK_Sig _ _ _ W (G0.out.next bel) (G0'.out.next bel) Z0.out).mono ?_
  rintro e w1 ⟨rfl, bb⟩
  replace ra := ra.next bb
  replace rb := rb.next bb
  replace bel := next_trans bel bb
  clear bb
  have a1_0 : w1.cell? ⟨w.heap.size, 1, none⟩ = some (v1) := ra.cell 1
  have b1_0 : w1.cell? ⟨w.heap.size + 1, 1, none⟩ = some (u1) := rb.cell 1
  go_wp2_with fail
  clear a1_0 b1_0
  refine (eqK_RuleS _ _ _ w1 (G1.out.next bel) (G1'.out.next bel) Z1.out).mono ?_
  rintro e w2 ⟨rfl, bb⟩
  replace ra := ra.next bb
  replace rb := rb.next bb
  replace bel := next_trans bel bb
  clear bb
  have F : Yes w (.returned (.bool true)) w2 := ⟨rfl, bel⟩
  have HF := Lib.hid F
  clear F ra rb bel
  go_wp2
  go_ret
  exact HF.out

set_option maxHeartbeats 2000000 in
theorem markK_System (v0 v1 : Value) (d : Dat sSystem) (k : Int) (F : List Nat) (w : World) (h : Ow w sSystem [v0, v1] d F) (hF : F.Nodup) (hz : sz sSystem d ≤ 1048576) (hk0 : 0 ≤ k) (hk : k + (cntv sSystem d : Int) ≤ 1099511627776) :
    Calls Try.prog 49 #[.agg #[v0, v1], .int .i64 k] w (AnsMarkF w sSystem [v0, v1] d k F) := by
  have hlt := h.lt
  obtain ⟨F0, R0, eF0, o0, o1⟩ := Ow.split (ca := [v0]) (cb := [v1]) h rfl
  rw [eF0] at hF
  obtain ⟨n0, nr0, x0, y0⟩ := dis_app hF
  obtain ⟨z0, hz0⟩ : ∃ z, cntv sSig d.1 = z := ⟨_, rfl⟩
  obtain ⟨z1, hz1⟩ : ∃ z, cntv sRuleS d.2 = z := ⟨_, rfl⟩
  have hc : (cntv sSystem d : Int) = (z0 : Int) + (z1 : Int) := by rw [← hz0, ← hz1]; first | done | (simp only [cntv]; try omega)
  have Z0 : Hid (sz sSig d.1 ≤ 1048576) := Lib.hid (by have := hz; simp only [sz] at this ⊢; omega)
  have HZ0 := Lib.hid hz0
  have Z1 : Hid (sz sRuleS d.2 ≤ 1048576) := Lib.hid (by have := hz; simp only [sz] at this ⊢; omega)
  have HZ1 := Lib.hid hz1
  have HC := Lib.hid hc
  rw [hc] at hk
  obtain ⟨W, hW⟩ : ∃ W, W = w.alloc (.cells #[v0, v1] 29) := ⟨_, rfl⟩
  have r : Row W w.heap.size 29 #[v0, v1] := by rw [hW]; exact Row.new _ _ _
  have bel : Below w.heap.size w W := by rw [hW]; exact (Below.refl _ _).alloc (Nat.le_refl _) _
  replace o0 := o0.next bel
  replace o1 := o1.next bel
  have nb0 : w.heap.size ∉ F0 := fun hb => by have := hlt _ (by rw [eF0]; exact List.mem_append_left _ hb); omega
  have nb1 : w.heap.size ∉ R0 := fun hb => by have := hlt _ (by rw [eF0]; exact (List.mem_append_right _ hb)); omega
  have sub0 : ∀ x ∈ F0, x ∈ F := fun x hb => by rw [eF0]; exact List.mem_append_left _ hb
  have sub1 : ∀ x ∈ R0, x ∈ F := fun x hb => by rw [eF0]; exact (List.mem_append_right _ hb)
  have on : Only F w W := Only.of_below bel
  have HW := Lib.hid hW
  have HEF : Hid (F = (F0 ++ R0)) := Lib.hid (by rw [eF0])
  clear hW h hz hc bel hlt hz0 hz1 eF0
  go_enter Try.func49, Try.ntmps49
  go_wp2_with fail
  rw [← HW.out]
  refine (markK_Sig _ _ k F0 _ o0 n0 Z0.out (by omega) (by rw [HZ0.out]; omega)).mono ?_
  rintro e w1 ⟨he, o0, on0⟩
  rw [HZ0.out] at he
  replace o1 := o1.only on0 y0
  replace r := Row.only r on0 nb0
  replace on := on.trans (on0.wider sub0)
  clear on0
  obtain ⟨k0, hk0⟩ : ∃ l, k + (z0 : Int) = l := ⟨_, rfl⟩
  rw [hk0] at he
  have l0 : 0 ≤ k0 := by omega
  have u0 : k0  + (z1 : Int) ≤ 1099511627776 := by omega
  subst he
  have HK0 := Lib.hid hk0
  clear hk0
  have c1_0 : w1.cell? ⟨w.heap.size, 1, none⟩ = some (v1) := r.cell 1
  go_wp2_with fail
  clear c1_0
  refine (markK_RuleS _ _ k0 R0 _ o1 nr0 Z1.out (by omega) (by rw [HZ1.out]; omega)).mono ?_
  rintro e w2 ⟨he, o1, on1⟩
  rw [HZ1.out] at he
  replace o0 := o0.only on1 x0
  replace r := Row.only r on1 nb1
  replace on := on.trans (on1.wider sub1)
  clear on1
  obtain ⟨k1, hk1⟩ : ∃ l, k0 + (z1 : Int) = l := ⟨_, rfl⟩
  rw [hk1] at he
  have l1 : 0 ≤ k1 := by omega
  have u1 : k1  ≤ 1099511627776 := by omega
  subst he
  have HK1 := Lib.hid hk1
  clear hk1
  have F1 : AnsMarkF w sSystem [v0, v1] d k F (.returned (.int .i64 k1)) w2 := by
    refine ⟨congrArg (fun z => Ending.returned (.int .i64 z)) ?_, ?_, on⟩
    · rw [HC.out]; have := HK0.out; have := HK1.out; omega
    · rw [HEF.out]
      have e0 : k0 = k + (cntv sSig d.1 : Int) := by have := HK0.out; have := HZ0.out; omega
      rw [e0] at o1
      exact (Ow.join o0 o1)
  have HF := Lib.hid F1
  clear F1 on r o0 o1
  go_wp2
  go_ret
  exact HF.out

end Go.Proofs.Ytdkjafjphgcbjaa.kindsR
end

section
/-
  CONTRACT: spec.l1End answers the index behind what begins at a place. Conditions: the slices read as lists ('Seg'), the arities lie between 0 and 3, the place is in range, at most 1048576 numbers. By an AI agent.
-/
namespace Go.Proofs.Ytdkjafjphgcbjaa.endOf
open Go.RowKit Go.Proofs.Ytdkjafjphgcbjaa.base Go.Proofs.Ytdkjafjphgcbjaa.ints Go.Proofs.Ytdkjafjphgcbjaa.sig Go.Proofs.Ytdkjafjphgcbjaa.term Go.Proofs.Ytdkjafjphgcbjaa.arity

def AnsEnd (w : World) (sg t : List Int) (a : Nat) (e : Ending) (w' : World) : Prop := e = .returned (.int .i64 (endI sg t a)) ∧ Below w.heap.size w w'
theorem end_bad {w w' : World} {sg t : List Int} {a : Nat} (h : scan sg 1 (t.drop a) = none) (hb : Below w.heap.size w w') : AnsEnd w sg t a (.returned (.int .i64 (-1))) w' := ⟨by rw [endI_none h], hb⟩
theorem end_good {w w' : World} {sg t : List Int} {a k : Nat} (h : Scn sg t a (k + 1) 0) (hb : Below w.heap.size w w') : AnsEnd w sg t a (.returned (.int .i64 ((k : Int) + 1))) w' := ⟨by rw [h.endI]; simp, hb⟩

/-- the head of the loop: so many terms are still to come -/
def HeadEnd (w : World) (A : Option Addr) (n c m : Nat) (sg t : List Int) (a : Nat) (need i : Value) (wr : World) : Prop :=
  ∃ k q : Nat, need = .int .i64 ((q : Int) + 1) ∧ i = .int .i64 k ∧ q ≤ 3 * k ∧ k ≤ m ∧ Scn sg t a k (q + 1) ∧ Row wr w.heap.size 26 #[.slice A n c] ∧ Below w.heap.size w wr

theorem headEnd_step {w wr : World} {A : Option Addr} {n c m k q q' : Nat} {sg t : List Int} {a : Nat} {z : Int} (hl : Scn sg t a (k + 1) (q + z.toNat)) (hz : 0 ≤ z ∧ z ≤ 3) (hq : q ≤ 3 * k) (hk : k < m) (hq' : q + z.toNat = q' + 1)
    (hr : Row wr w.heap.size 26 #[.slice A n c]) (hb : Below w.heap.size w wr) : HeadEnd w A n c m sg t a (.int .i64 ((q : Int) + z)) (.int .i64 ((k : Int) + 1)) wr :=
  ⟨k + 1, q', by congr 1; omega, by simp, by omega, by omega, by rw [← hq']; exact hl, hr, hb⟩

set_option maxHeartbeats 1000000 in
theorem specEnd (A A' : Option Addr) (n c m c' : Nat) (sg t : List Int) (at_ : Int) (w : World) (h : Seg w w.heap.size A n sg) (h' : Seg w w.heap.size A' m t) (hn : n ≤ 1048576) (hm : m ≤ 1048576) (hs : Arities sg) (ha : 0 ≤ at_) (ha' : at_ ≤ m) :
    Calls Try.prog 105 #[.agg #[.slice A n c], .slice A' m c', .int .i64 at_] w (AnsEnd w sg t at_.toNat) := by
  obtain ⟨a, rfl⟩ := Int.eq_ofNat_of_zero_le ha
  rw [Int.toNat_natCast]
  have hlen := h'.1
  have HL := Lib.hid hlen
  go_enter Try.func105, Try.ntmps105
  go_wp2_with fail
  go_loopw [7, 8, 9] (fun need i _ wr => HeadEnd w A n c m sg t a need i wr) (fun _ i _ _ => m - (intOf i).toNat)
  case atStart => exact ⟨a, 0, rfl, rfl, by omega, by omega, Scn.start (by rw [HL.out]; omega), Row.new _ _ _, (Below.refl _ _).alloc (Nat.le_refl _) _⟩
  case round =>
    obtain ⟨k, q, rfl, rfl, hq, hk, hl, hr, hb⟩ := hrel
    by_cases hlt : k < m
    · obtain ⟨b, off, x, rfl, hbb, hx, ex⟩ := h'.spot hlt
      have hx' : wr.cell? ⟨b, off + k, none⟩ = some (.int .i64 x) := (hb.cell (p := ⟨b, off + k, none⟩) hbb).trans hx
      have cA : wr.cell? ⟨w.heap.size, 0, none⟩ = some (.slice A n c) := hr.cell 0
      have s : Seg wr.drew wr.heap.size A n sg := ((h.below hb).more hb.size).drew
      obtain ⟨z, hz⟩ : ∃ z, ar sg x = z := ⟨_, rfl⟩
      have hzb := ar_bd hs x
      rw [hz] at hzb
      have i0 : (0 : Int) ≤ (k : Int) := by omega
      have i1 : (k : Int) < (m : Int) := by omega
      have i2 : (q : Int) ≤ 3145728 := by omega
      have HZ := Lib.hid hz
      clear hx hz h h'
      replace hr := hr.drew
      replace hb := hb.drew
      by_cases hneg : z < 0
      · have S := Lib.hid (fun (w' : World) (b' : Below w.heap.size w w') => end_bad (hl.bad (by rw [HL.out]; exact hlt) ex.out (by rw [HZ.out]; exact hneg)) b')
        clear hl ex hs hlen
        go_wp2_with fail
        go_region_held3 (fun w' => w'.cell? ⟨w.heap.size, 0, none⟩ = some (.slice A n c) ∧ w'.cell? ⟨b, off + k, none⟩ = some (.int .i64 x))
          (go_keep)
          (first
            | (go_at_call 122; refine (specArity _ _ _ sg x _ s hn).mono ?_; rintro e w2 ⟨he, bb⟩; rw [HZ.out] at he; subst he; have cA' : w2.cell? ⟨w.heap.size, 0, none⟩ = some (.slice A n c) := (hr.next bb).cell 0; have cx' : w2.cell? ⟨b, off + k, none⟩ = some (.int .i64 x) := (bb.cell (p := ⟨b, off + k, none⟩) (Nat.lt_trans hbb hr.lt)).trans hx'; have b2 := hb.trans (bb.mono (Nat.le_of_lt hr.lt))))
        have F := Lib.hid (S.out _ b2)
        go_wp2
        go_ret
        exact F.out
      · have hl' := hl.step (by rw [HL.out]; exact hlt) ex.out (by rw [HZ.out]; exact hneg)
        rw [HZ.out] at hl'
        clear hl ex hs hlen
        by_cases hend : q + z.toNat = 0
        · rw [hend] at hl'
          have S := Lib.hid (fun (w' : World) (b' : Below w.heap.size w w') => end_good hl' b')
          have e1 : ((q : Int) + z == 0) = true := by simp; omega
          clear hl'
          go_wp2_with fail
          go_region_held3 (fun w' => w'.cell? ⟨w.heap.size, 0, none⟩ = some (.slice A n c) ∧ w'.cell? ⟨b, off + k, none⟩ = some (.int .i64 x))
            (go_keep)
            (first
              | (go_at_call 122; refine (specArity _ _ _ sg x _ s hn).mono ?_; rintro e w2 ⟨he, bb⟩; rw [HZ.out] at he; subst he; have cA' : w2.cell? ⟨w.heap.size, 0, none⟩ = some (.slice A n c) := (hr.next bb).cell 0; have cx' : w2.cell? ⟨b, off + k, none⟩ = some (.int .i64 x) := (bb.cell (p := ⟨b, off + k, none⟩) (Nat.lt_trans hbb hr.lt)).trans hx'; have b2 := hb.trans (bb.mono (Nat.le_of_lt hr.lt))))
          have F := Lib.hid (S.out _ b2)
          go_wp2
          go_ret
          exact F.out
        · obtain ⟨q', hq'⟩ : ∃ q', q + z.toNat = q' + 1 := ⟨q + z.toNat - 1, by omega⟩
          have S := Lib.hid (fun (w' : World) (r' : Row w' w.heap.size 26 #[.slice A n c]) (b' : Below w.heap.size w w') => headEnd_step hl' ⟨by omega, hzb.2⟩ hq hlt hq' r' b')
          have e1 : ((q : Int) + z == 0) = false := by simp; omega
          clear hl' hq'
          go_wp2_with fail
          go_region_held3 (fun w' => w'.cell? ⟨w.heap.size, 0, none⟩ = some (.slice A n c) ∧ w'.cell? ⟨b, off + k, none⟩ = some (.int .i64 x))
            (go_keep)
            (first
              | (go_at_call 122; refine (specArity _ _ _ sg x _ s hn).mono ?_; rintro e w2 ⟨he, bb⟩; rw [HZ.out] at he; subst he; have r2 := hr.next bb; have cA' : w2.cell? ⟨w.heap.size, 0, none⟩ = some (.slice A n c) := r2.cell 0; have cx' : w2.cell? ⟨b, off + k, none⟩ = some (.int .i64 x) := (bb.cell (p := ⟨b, off + k, none⟩) (Nat.lt_trans hbb hr.lt)).trans hx'; have b2 := hb.trans (bb.mono (Nat.le_of_lt hr.lt))))
          have F := Lib.hid (S.out _ r2 b2)
          clear r2 b2 cA' cx' cA hx' s hr hb bb
          go_wp2
          go_roundw
          case rel => rw [show (q : Int) + 1 + z - 1 = (q : Int) + z by omega]; exact F.out
          case measure => simp [intOf]; omega
    · have S := Lib.hid (end_bad (hl.out (by rw [HL.out]; exact hlt)) hb)
      clear hl hr hb h h' hs hlen
      go_wp2
      go_ret
      exact S.out
end Go.Proofs.Ytdkjafjphgcbjaa.endOf
end

section
/-
  CONTRACTS: spec.TermOk and impl.TermOk answer whether a list is a term of a signature. Conditions: the slices read as lists ('Seg'), at most 1048576 numbers. By an AI agent.
-/
namespace Go.Proofs.Ytdkjafjphgcbjaa.termOk
open Go.RowKit Go.Proofs.Ytdkjafjphgcbjaa.base Go.Proofs.Ytdkjafjphgcbjaa.ints Go.Proofs.Ytdkjafjphgcbjaa.sig Go.Proofs.Ytdkjafjphgcbjaa.term Go.Proofs.Ytdkjafjphgcbjaa.arity Go.Proofs.Ytdkjafjphgcbjaa.endOf Go.Proofs.Ytdkjafjphgcbjaa.cursor

def termOkB (sg t : List Int) : Bool := sigOkB sg && termB sg t

theorem sig_arities {sg : List Int} (h : sigOkB sg = true) : Arities sg ∧ 1 ≤ sg.length ∧ sg.length ≤ 8 := by
  unfold sigOkB at h
  rw [Bool.and_eq_true, decide_eq_true_eq, List.all_eq_true] at h
  refine ⟨fun j hj => ?_, h.1⟩
  have := h.2 (sg[j]) (List.getElem_mem hj)
  simp [arityOk] at this
  simp [List.getD, hj]
  omega
theorem endI_len {sg t : List Int} : (endI sg t 0 == (t.length : Int)) = decide (scan sg 1 t = some t.length) := by
  cases h : scan sg 1 t with
  | none =>
    rw [endI_none (by simpa using h)]
    simp
  | some j =>
    rw [endI_some (j := j) (by simpa using h)]
    simp
    by_cases e : j = t.length
    · subst e; simp
    · simp [e]; omega

def AnsTerm (w : World) (sg t : List Int) (e : Ending) (w' : World) : Prop := e = .returned (.bool (termOkB sg t)) ∧ Below w.heap.size w w'
theorem term_sig {w w' : World} {sg t : List Int} (h : sigOkB sg = false) (hb : Below w.heap.size w w') : AnsTerm w sg t (.returned (.bool false)) w' := ⟨by unfold termOkB; rw [h, Bool.false_and], hb⟩
theorem term_long {w w' : World} {sg t : List Int} {m : Nat} (hm : t.length = m) (h : 60 < m) (hb : Below w.heap.size w w') : AnsTerm w sg t (.returned (.bool false)) w' :=
  ⟨by unfold termOkB termB; rw [decide_eq_false (p := t.length ≤ 60) (by omega), Bool.false_and, Bool.and_false], hb⟩
theorem term_empty {w w' : World} {sg t : List Int} {m : Nat} (hm : t.length = m) (h : ¬ 1 ≤ m) (hb : Below w.heap.size w w') : AnsTerm w sg t (.returned (.bool false)) w' := by
  refine ⟨?_, hb⟩
  have : t = [] := List.eq_nil_of_length_eq_zero (by omega)
  subst this
  unfold termOkB termB
  simp [scan]
theorem term_end {w w' : World} {sg t : List Int} {m : Nat} (hm : t.length = m) (h : sigOkB sg = true) (h' : m ≤ 60) (hb : Below w.heap.size w w') : AnsTerm w sg t (.returned (.bool (endI sg t 0 == (m : Int)))) w' :=
  ⟨by unfold termOkB termB; rw [h, Bool.true_and, decide_eq_true (p := t.length ≤ 60) (by omega), Bool.true_and, ← endI_len, hm], hb⟩

set_option maxHeartbeats 1000000 in
theorem specTermOk (A A' : Option Addr) (n c m c' : Nat) (sg t : List Int) (w : World) (h : Seg w w.heap.size A n sg) (h' : Seg w w.heap.size A' m t) (hn : n ≤ 1048576) (hm : m ≤ 1048576) :
    Calls Try.prog 69 #[.agg #[.slice A n c], .slice A' m c'] w (AnsTerm w sg t) := by
  obtain ⟨W, hW⟩ : ∃ W, W = w.alloc (.cells #[.slice A n c] 26) := ⟨_, rfl⟩
  have rA : Row W w.heap.size 26 #[.slice A n c] := by rw [hW]; exact Row.new _ _ _
  have bel : Below w.heap.size w W := by rw [hW]; exact (Below.refl _ _).alloc (Nat.le_refl _) _
  replace h := (h.below bel).more bel.size
  replace h' := (h'.below bel).more bel.size
  have HW := Lib.hid hW
  have HL := Lib.hid h'.1
  clear hW
  have L := Lib.hid (specSigOk A n c sg W h hn)
  cases hsig : sigOkB sg with
  | false =>
    have HS := Lib.hid hsig
    clear hsig h h'
    go_enter Try.func69, Try.ntmps69
    go_wp2_with fail
    rw [← HW.out]
    refine L.out.mono ?_
    rintro e w1 ⟨he, bb⟩
    rw [HS.out] at he
    subst he
    have F := Lib.hid (term_sig (t := t) HS.out (bel.trans (bb.mono (Nat.le_of_lt rA.lt))))
    clear bb bel rA
    go_wp2
    go_ret
    exact F.out
  | true =>
    have HS := Lib.hid hsig
    have hars := (sig_arities hsig).1
    clear hsig
    by_cases hin : 1 ≤ (m : Int) ∧ (m : Int) ≤ 60
    · go_enter Try.func69, Try.ntmps69
      go_wp2_with fail
      rw [← HW.out]
      refine L.out.mono ?_
      rintro e w1 ⟨he, bb⟩
      rw [HS.out] at he
      subst he
      replace h := h.next bb
      replace h' := h'.next bb
      have hlt := rA.lt
      replace rA := rA.next bb
      replace bel := bel.trans (bb.mono (Nat.le_of_lt hlt))
      have cA : w1.cell? ⟨w.heap.size, 0, none⟩ = some (.slice A n c) := rA.cell 0
      clear bb hlt
      go_wp2_with fail
      refine (inYes _ _ _ _ hin).mono ?_
      rintro e w2 ⟨rfl, rfl⟩
      go_wp2_with fail
      refine (specEnd A A' n c m c' sg t 0 _ h h' hn hm hars (by omega) (by omega)).mono ?_
      rintro e w2 ⟨rfl, bb⟩
      have F := Lib.hid (term_end HL.out HS.out (by omega) (bel.trans (bb.mono (Nat.le_of_lt rA.lt))))
      clear bb bel rA cA h h' hars
      rw [show (0 : Int).toNat = 0 from rfl]
      generalize endI sg t 0 = z at *
      go_wp2
      go_ret
      exact F.out
    · go_enter Try.func69, Try.ntmps69
      go_wp2_with fail
      rw [← HW.out]
      refine L.out.mono ?_
      rintro e w1 ⟨he, bb⟩
      rw [HS.out] at he
      subst he
      have F : AnsTerm w sg t (.returned (.bool false)) w1 := by
        have b := bel.trans (bb.mono (Nat.le_of_lt rA.lt))
        by_cases h1 : 1 ≤ m
        · exact term_long HL.out (by omega) b
        · exact term_empty HL.out h1 b
      have HF := Lib.hid F
      clear F bb bel rA h h' hars
      go_wp2_with fail
      refine (inNo _ _ _ _ hin).mono ?_
      rintro e w2 ⟨rfl, rfl⟩
      go_wp2
      go_ret
      exact HF.out

theorem term_scan {w w' : World} {sg t : List Int} {m : Nat} {b : Bool} (hm : t.length = m) (h : sigOkB sg = true) (h' : m ≤ 60) (hs : decide (scan sg 1 t = some m) = b) (hb : Below w.heap.size w w') : AnsTerm w sg t (.returned (.bool b)) w' :=
  ⟨by unfold termOkB termB; rw [h, Bool.true_and, decide_eq_true (p := t.length ≤ 60) (by omega), Bool.true_and, hm, hs], hb⟩
/-- a cursor made at place 0 -/
theorem cur_new {w : World} {A A' : Option Addr} {n c m c' : Nat} {sg t : List Int} (h : Seg w w.heap.size A n sg) (h' : Seg w w.heap.size A' m t) (hn : n ≤ 1048576) (hm : m ≤ 1048576) (ha : Arities sg) (k : Nat) (hk : k ≤ m) :
    Cur (w.alloc (.cells #[.slice A n c, .slice A' m c', .int .i64 k] 96)) w.heap.size A n c A' m c' sg t k :=
  ⟨Row.new _ _ _, h.alloc (Nat.le_refl _) _, h'.alloc (Nat.le_refl _) _, hk, hn, hm, ha⟩
theorem grown_new {w w' : World} {o : Obj} (hg : (w.alloc o).grownBy w' (some w.heap.size)) : Below w.heap.size w w' :=
  ⟨hg.os, hg.tape, hg.output, by have := hg.size; simp at this; omega, fun i hi => by
    rw [hg.block i (by simp; omega) (by simp; omega)]
    exact Below.heap_alloc _ _ _ hi⟩

set_option maxHeartbeats 1000000 in
theorem implTermOk (A A' : Option Addr) (n c m c' : Nat) (sg t : List Int) (w : World) (h : Seg w w.heap.size A n sg) (h' : Seg w w.heap.size A' m t) (hn : n ≤ 1048576) (hm : m ≤ 1048576) :
    Calls Try.prog 65 #[.agg #[.slice A n c], .slice A' m c'] w (AnsTerm w sg t) := by
  obtain ⟨W, hW⟩ : ∃ W, W = w.alloc (.cells #[.slice A n c] 26) := ⟨_, rfl⟩
  have rA : Row W w.heap.size 26 #[.slice A n c] := by rw [hW]; exact Row.new _ _ _
  have bel : Below w.heap.size w W := by rw [hW]; exact (Below.refl _ _).alloc (Nat.le_refl _) _
  replace h := (h.below bel).more bel.size
  replace h' := (h'.below bel).more bel.size
  have HW := Lib.hid hW
  have HL := Lib.hid h'.1
  clear hW
  have L := Lib.hid (implSigOk A n c sg W h hn)
  cases hsig : sigOkB sg with
  | false =>
    have HS := Lib.hid hsig
    clear hsig h h'
    go_enter Try.func65, Try.ntmps65
    go_wp2_with fail
    rw [← HW.out]
    refine L.out.mono ?_
    rintro e w1 ⟨he, bb⟩
    rw [HS.out] at he
    subst he
    have F := Lib.hid (term_sig (t := t) HS.out (bel.trans (bb.mono (Nat.le_of_lt rA.lt))))
    clear bb bel rA
    go_wp2
    go_ret
    exact F.out
  | true =>
    have HS := Lib.hid hsig
    have hars := (sig_arities hsig).1
    clear hsig
    by_cases h60 : m ≤ 60
    · go_enter Try.func65, Try.ntmps65
      go_wp2_with fail
      rw [← HW.out]
      refine L.out.mono ?_
      rintro e w1 ⟨he, bb⟩
      rw [HS.out] at he
      subst he
      replace h := h.next bb
      replace h' := h'.next bb
      have hlt := rA.lt
      replace rA := rA.next bb
      replace bel := bel.trans (bb.mono (Nat.le_of_lt hlt))
      have cA : w1.cell? ⟨w.heap.size, 0, none⟩ = some (.slice A n c) := rA.cell 0
      clear bb hlt
      have CN := Lib.hid (cur_new (c := c) (c' := c') h h' hn hm hars 0 (Nat.zero_le _))
      go_wp2_with fail
      refine (pass w1.heap.size A n c A' m c' sg t 0 _ CN.out).mono ?_
      rintro e w2 ⟨hg, ⟨j, hj, rfl, hc⟩ | ⟨hj, rfl, -⟩⟩
      · have b2 := bel.trans ((grown_new hg).mono (Nat.le_of_lt rA.lt))
        have c2 : w2.cell? ⟨w1.heap.size, 2, none⟩ = some (.int .i64 ((0 + j : Nat) : Int)) := hc.row.cell 2
        rw [Nat.zero_add] at c2
        have F := Lib.hid (fun (b : Bool) (hb : decide (j = m) = b) => term_scan (b := b) HL.out HS.out h60 (by rw [show t.drop 0 = t from rfl] at hj; rw [hj, ← hb]; simp) b2)
        clear hj hc hg b2 bel rA cA h h' hars CN
        by_cases e : j = m
        · have F' := Lib.hid (F.out true (by simp [e]))
          have e1 : ((j : Int) == (m : Int)) = true := by simp [e]
          clear F e
          go_wp2
          go_ret
          exact F'.out
        · have F' := Lib.hid (F.out false (by simp [e]))
          have e1 : ((j : Int) == (m : Int)) = false := by simp; omega
          clear F e
          go_wp2
          go_ret
          exact F'.out
      · have F := Lib.hid (term_scan (b := false) HL.out HS.out h60 (by rw [show t.drop 0 = t from rfl] at hj; rw [hj]; simp) (bel.trans ((grown_new hg).mono (Nat.le_of_lt rA.lt))))
        clear hj hg bel rA cA h h' hars CN
        go_wp2
        go_ret
        exact F.out
    · have i1 : (60 : Int) < (m : Int) := by omega
      go_enter Try.func65, Try.ntmps65
      go_wp2_with fail
      rw [← HW.out]
      refine L.out.mono ?_
      rintro e w1 ⟨he, bb⟩
      rw [HS.out] at he
      subst he
      have F := Lib.hid (term_long HL.out (by omega) (bel.trans (bb.mono (Nat.le_of_lt rA.lt))) : AnsTerm w sg t _ _)
      clear bb bel rA h h' hars
      go_wp2
      go_ret
      exact F.out
end Go.Proofs.Ytdkjafjphgcbjaa.termOk
end

section
/-
  PLAIN MATHEMATICS of the variables of a term: a number put into a rising list ('into'), all of them ('vars'); sorted and compacted it is the same list. Conditions: none. By an AI agent.
-/
namespace Go.Proofs.Ytdkjafjphgcbjaa.varsMath
open Go.Proofs.Ytdkjafjphgcbjaa.term Go.Proofs.Ytdkjafjphgcbjaa.termOk

/-- with one more, rising -/
def into : List Int → Int → List Int
  | [], n => [n]
  | y :: r, n => if y < n then y :: into r n else if y = n then y :: r else n :: y :: r
theorem into_end : ∀ {xs : List Int} {n : Int}, (∀ j, j < xs.length → xs.getD j 0 < n) → into xs n = xs ++ [n]
  | [], _, _ => rfl
  | y :: r, n, h => by
    have h0 : y < n := by simpa using h 0 (by simp)
    rw [into, if_pos h0, into_end (fun j hj => by simpa using h (j + 1) (by simpa using hj))]
    rfl
theorem into_at : ∀ {xs : List Int} {n : Int} {k : Nat}, k < xs.length → (∀ j, j < k → xs.getD j 0 < n) → xs.getD k 0 = n → into xs n = xs
  | [], _, _, hk, _, _ => absurd hk (Nat.not_lt_zero _)
  | y :: r, n, 0, _, _, e => by
    have e : y = n := by simpa using e
    rw [into, if_neg (by omega), if_pos e]
  | y :: r, n, k + 1, hk, h, e => by
    have h0 : y < n := by simpa using h 0 (by simp)
    rw [into, if_pos h0, into_at (k := k) (by simpa using hk) (fun j hj => by simpa using h (j + 1) (by omega)) (by simpa using e)]
theorem into_mid : ∀ {xs : List Int} {n : Int} {k : Nat}, k < xs.length → (∀ j, j < k → xs.getD j 0 < n) → n < xs.getD k 0 → into xs n = (xs.take k ++ [n]) ++ xs.drop k
  | [], _, _, hk, _, _ => absurd hk (Nat.not_lt_zero _)
  | y :: r, n, 0, _, _, e => by
    have e : n < y := by simpa using e
    rw [into, if_neg (by omega), if_neg (by omega)]
    rfl
  | y :: r, n, k + 1, hk, h, e => by
    have h0 : y < n := by simpa using h 0 (by simp)
    rw [into, if_pos h0, into_mid (k := k) (by simpa using hk) (fun j hj => by simpa using h (j + 1) (by omega)) (by simpa using e)]
    rfl
theorem into_mem {xs : List Int} {n x : Int} : x ∈ into xs n ↔ x = n ∨ x ∈ xs := by
  induction xs with
  | nil => simp [into]
  | cons y r ih =>
    rw [into]
    split
    · rw [List.mem_cons, ih, List.mem_cons]
      constructor
      · rintro (h | h | h)
        · exact .inr (.inl h)
        · exact .inl h
        · exact .inr (.inr h)
      · rintro (h | h | h)
        · exact .inr (.inl h)
        · exact .inl h
        · exact .inr (.inr h)
    · split
      · rename_i h1 h2
        subst h2
        simp
      · simp
theorem into_len (xs : List Int) (n : Int) : (into xs n).length ≤ xs.length + 1 := by
  induction xs with
  | nil => simp [into]
  | cons y r ih =>
    rw [into]
    split
    · simp; omega
    · split <;> simp
/-- rising -/
abbrev Rises (xs : List Int) : Prop := xs.Pairwise (· < ·)
theorem into_rises {xs : List Int} {n : Int} (h : Rises xs) : Rises (into xs n) := by
  induction xs with
  | nil => simp [into, Rises]
  | cons y r ih =>
    have h1 := List.pairwise_cons.1 h
    rw [into]
    split
    · rename_i hy
      refine List.pairwise_cons.2 ⟨fun z hz => ?_, ih h1.2⟩
      rcases into_mem.1 hz with e | e
      · omega
      · exact h1.1 z e
    · split
      · exact h
      · rename_i a b
        refine List.pairwise_cons.2 ⟨fun z hz => ?_, h⟩
        rcases List.mem_cons.1 hz with e | e
        · omega
        · have := h1.1 z e; omega
/-- two rising lists of the same numbers are one -/
theorem rises_unique : ∀ {xs ys : List Int}, Rises xs → Rises ys → (∀ x, x ∈ xs ↔ x ∈ ys) → xs = ys
  | [], [], _, _, _ => rfl
  | [], y :: r, _, _, h => by have := (h y).2 (List.mem_cons_self ..); cases this
  | x :: r, [], _, _, h => by have := (h x).1 (List.mem_cons_self ..); cases this
  | x :: r, y :: q, hx, hy, h => by
    have h1 := List.pairwise_cons.1 hx
    have h2 := List.pairwise_cons.1 hy
    have e : x = y := by
      have a := (h x).1 (List.mem_cons_self ..)
      have b := (h y).2 (List.mem_cons_self ..)
      rcases List.mem_cons.1 a with a | a
      · exact a
      · rcases List.mem_cons.1 b with b | b
        · exact b.symm
        · have := h1.1 y b
          have := h2.1 x a
          omega
    subst e
    rw [rises_unique h1.2 h2.2 (fun z => ?_)]
    constructor
    · intro hz
      rcases List.mem_cons.1 ((h z).1 (List.mem_cons_of_mem _ hz)) with e | e
      · have := h1.1 z hz; omega
      · exact e
    · intro hz
      rcases List.mem_cons.1 ((h z).2 (List.mem_cons_of_mem _ hz)) with e | e
      · have := h2.1 z hz; omega
      · exact e

/-- the variables' numbers, in the order in which they stand -/
def negs (t : List Int) : List Int := (t.filter fun n => decide (n < 0)).map fun n => -1 - n
/-- the variables' numbers, rising -/
def vars (t : List Int) : List Int := (negs t).foldl into []
theorem negs_snoc_yes {t : List Int} {x : Int} (h : x < 0) : negs (t ++ [x]) = negs t ++ [-1 - x] := by simp [negs, h]
theorem negs_snoc_no {t : List Int} {x : Int} (h : ¬ x < 0) : negs (t ++ [x]) = negs t := by simp [negs, h]
theorem take_snoc {t : List Int} {k : Nat} (hk : k < t.length) {x : Int} (hx : t.getD k 0 = x) : t.take (k + 1) = t.take k ++ [x] := by
  rw [List.take_succ_eq_append_getElem hk, ← hx]
  simp [List.getD, hk]
theorem negs_yes {t : List Int} {k : Nat} {x : Int} (hk : k < t.length) (hx : t.getD k 0 = x) (h : x < 0) : negs (t.take (k + 1)) = negs (t.take k) ++ [-1 - x] := by rw [take_snoc hk hx, negs_snoc_yes h]
theorem negs_no {t : List Int} {k : Nat} {x : Int} (hk : k < t.length) (hx : t.getD k 0 = x) (h : ¬ x < 0) : negs (t.take (k + 1)) = negs (t.take k) := by rw [take_snoc hk hx, negs_snoc_no h]
theorem vars_yes {t : List Int} {k : Nat} {x : Int} (hk : k < t.length) (hx : t.getD k 0 = x) (h : x < 0) : vars (t.take (k + 1)) = into (vars (t.take k)) (-1 - x) := by
  unfold vars; rw [negs_yes hk hx h, List.foldl_append]; rfl
theorem vars_no {t : List Int} {k : Nat} {x : Int} (hk : k < t.length) (hx : t.getD k 0 = x) (h : ¬ x < 0) : vars (t.take (k + 1)) = vars (t.take k) := by unfold vars; rw [negs_no hk hx h]
theorem negs_len (t : List Int) : (negs t).length ≤ t.length := by unfold negs; rw [List.length_map]; exact List.length_filter_le _ _
theorem fold_len : ∀ (l xs : List Int), (l.foldl into xs).length ≤ xs.length + l.length
  | [], _ => by simp
  | n :: l, xs => by have := fold_len l (into xs n); have := into_len xs n; simp; omega
theorem vars_len (t : List Int) : (vars t).length ≤ t.length := by have := fold_len (negs t) []; have := negs_len t; unfold vars; simp at *; omega
theorem fold_mem {x : Int} : ∀ {l xs : List Int}, x ∈ l.foldl into xs ↔ x ∈ xs ∨ x ∈ l
  | [], _ => by simp
  | n :: l, xs => by
    rw [List.foldl_cons, fold_mem, into_mem, List.mem_cons]
    constructor
    · rintro ((h | h) | h)
      · exact .inr (.inl h)
      · exact .inl h
      · exact .inr (.inr h)
    · rintro (h | h | h)
      · exact .inl (.inr h)
      · exact .inl (.inl h)
      · exact .inr h
theorem fold_rises : ∀ {l xs : List Int}, Rises xs → Rises (l.foldl into xs)
  | [], _, h => h
  | n :: l, xs, h => by rw [List.foldl_cons]; exact fold_rises (into_rises h)
theorem vars_mem {t : List Int} {x : Int} : x ∈ vars t ↔ x ∈ negs t := by unfold vars; rw [fold_mem]; simp
theorem vars_rises (t : List Int) : Rises (vars t) := fold_rises List.Pairwise.nil

/-! ### sorted and compacted -/
/-- what VarsOf answers -/
def varsI (sg t : List Int) : List Int := if termOkB sg t = true then vars t else []
theorem varsI_len {sg t : List Int} {m : Nat} (h : t.length = m) (hm : m ≤ 1048576) : (varsI sg t).length ≤ 1048576 := by
  unfold varsI
  split
  · have := vars_len t; omega
  · simp
end Go.Proofs.Ytdkjafjphgcbjaa.varsMath
end

section
/-
  PLAIN MATHEMATICS of terms, more: a scan parts in two, within a term each place begins a term; the places of arguments; the depth. Conditions: none. By an AI agent.
-/
namespace Go.Proofs.Ytdkjafjphgcbjaa.term

theorem scan_split {sg : List Int} : ∀ {l : List Int} {p q j : Nat}, scan sg (p + q) l = some j → ∃ i, i ≤ j ∧ scan sg p l = some i ∧ scan sg q (l.drop i) = some (j - i) := by
  intro l
  induction l with
  | nil =>
    intro p q j h
    cases p with
    | zero => exact ⟨0, Nat.zero_le _, rfl, by simpa using h⟩
    | succ p => rw [show p + 1 + q = (p + q) + 1 by omega, scan_nil] at h; cases h
  | cons x r ih =>
    intro p q j h
    cases p with
    | zero => exact ⟨0, Nat.zero_le _, rfl, by simpa using h⟩
    | succ p =>
      rw [show p + 1 + q = (p + q) + 1 by omega] at h
      by_cases ha : ar sg x < 0
      · rw [scan_bad ha] at h; cases h
      · rw [scan_step ha] at h
        obtain ⟨j', hj', rfl⟩ := Option.map_eq_some_iff.1 h
        rw [show p + q + (ar sg x).toNat = (p + (ar sg x).toNat) + q by omega] at hj'
        obtain ⟨i, h1, h2, h3⟩ := ih hj'
        refine ⟨i + 1, by omega, by rw [scan_step ha, h2]; rfl, ?_⟩
        rw [List.drop_succ_cons, h3]
        congr 1
        omega

theorem scan_tail {sg : List Int} : ∀ {l : List Int} {q j a : Nat}, scan sg q l = some j → a < j → ∃ q', scan sg (q' + 1) (l.drop a) = some (j - a) := by
  intro l
  induction l with
  | nil =>
    intro q j a h ha
    cases q with
    | zero => rw [scan_zero] at h; injection h; omega
    | succ q => rw [scan_nil] at h; cases h
  | cons x r ih =>
    intro q j a h ha
    cases q with
    | zero => rw [scan_zero] at h; injection h; omega
    | succ q =>
      cases a with
      | zero => exact ⟨q, h⟩
      | succ a =>
        by_cases hx : ar sg x < 0
        · rw [scan_bad hx] at h; cases h
        · rw [scan_step hx] at h
          obtain ⟨j', hj', rfl⟩ := Option.map_eq_some_iff.1 h
          obtain ⟨q', h'⟩ := ih (a := a) hj' (by omega)
          exact ⟨q', by rw [List.drop_succ_cons, h']; congr 1; omega⟩

theorem scan_pos {sg : List Int} {l : List Int} {q j : Nat} (h : scan sg (q + 1) l = some j) : 1 ≤ j := by
  cases l with
  | nil => rw [scan_nil] at h; cases h
  | cons x r =>
    by_cases hx : ar sg x < 0
    · rw [scan_bad hx] at h; cases h
    · rw [scan_step hx] at h
      obtain ⟨j', _, rfl⟩ := Option.map_eq_some_iff.1 h
      omega

theorem scan_le {sg : List Int} : ∀ {l : List Int} {q j : Nat}, scan sg q l = some j → j ≤ l.length := by
  intro l
  induction l with
  | nil =>
    intro q j h
    cases q with
    | zero => rw [scan_zero] at h; injection h; omega
    | succ q => rw [scan_nil] at h; cases h
  | cons x r ih =>
    intro q j h
    cases q with
    | zero => rw [scan_zero] at h; injection h; omega
    | succ q =>
      by_cases hx : ar sg x < 0
      · rw [scan_bad hx] at h; cases h
      · rw [scan_step hx] at h
        obtain ⟨j', hj', rfl⟩ := Option.map_eq_some_iff.1 h
        have := ih hj'
        simp
        omega

/-- within a term each place begins a term -/
theorem scan_at {sg t : List Int} (h : scan sg 1 t = some t.length) {a : Nat} (ha : a < t.length) : ∃ j, scan sg 1 (t.drop a) = some j ∧ 1 ≤ j ∧ a + j ≤ t.length := by
  obtain ⟨q', h'⟩ := scan_tail h ha
  rw [Nat.add_comm] at h'
  obtain ⟨i, h1, h2, _⟩ := scan_split h'
  have h3 := scan_pos (q := 0) h2
  exact ⟨i, h2, h3, by omega⟩

/-- the arguments of what begins at a place: so many terms from the next place on -/
theorem scan_args {sg t : List Int} {a j : Nat} (h : scan sg 1 (t.drop a) = some j) : ∃ i, j = i + 1 ∧ a < t.length ∧ ¬ ar sg (t.getD a 0) < 0 ∧ scan sg (ar sg (t.getD a 0)).toNat (t.drop (a + 1)) = some i := by
  by_cases ha : a < t.length
  · rw [drop_cons ha] at h
    by_cases hx : ar sg (t.getD a 0) < 0
    · rw [scan_bad hx] at h; cases h
    · rw [scan_step hx, Nat.zero_add] at h
      obtain ⟨i, hi, rfl⟩ := Option.map_eq_some_iff.1 h
      exact ⟨i, rfl, ha, hx, hi⟩
  · rw [List.drop_eq_nil_of_le (by omega), scan_nil] at h; cases h

/-- so many terms: the first one, and the rest behind it -/
theorem scan_first {sg t : List Int} {q a i : Nat} (h : scan sg (q + 1) (t.drop a) = some i) : ∃ j, scan sg 1 (t.drop a) = some j ∧ 1 ≤ j ∧ j ≤ i ∧ scan sg q (t.drop (a + j)) = some (i - j) := by
  rw [Nat.add_comm] at h
  obtain ⟨j, h1, h2, h3⟩ := scan_split h
  rw [List.drop_drop] at h3
  exact ⟨j, h2, scan_pos (q := 0) h2, h1, h3⟩

/-- how far what begins at a place reaches -/
def len1 (sg t : List Int) (a : Nat) : Nat := (scan sg 1 (t.drop a)).getD 0
theorem len1_eq {sg t : List Int} {a j : Nat} (h : scan sg 1 (t.drop a) = some j) : len1 sg t a = j := by unfold len1; rw [h]; rfl

/-- the places of so many terms from a place on -/
def places (sg t : List Int) : Nat → Nat → List Int
  | 0, _ => []
  | k + 1, p => (p : Int) :: places sg t k (p + len1 sg t p)

/-- the greatest of what g gives for so many terms from a place on -/
def maxOver (sg t : List Int) (g : Nat → Int) : Nat → Nat → Int
  | 0, _ => 0
  | k + 1, p => max (g p) (maxOver sg t g k (p + len1 sg t p))

/-- the depth of what begins at a place (fuel first) -/
def dep (sg t : List Int) : Nat → Nat → Int
  | 0, _ => 0
  | f + 1, a => maxOver sg t (dep sg t f) (ar sg (t.getD a 0)).toNat (a + 1) + 1

theorem maxOver_bd {sg t : List Int} {g : Nat → Int} {B : Int} (hB : 0 ≤ B) (hg : ∀ p, 0 ≤ g p ∧ g p ≤ B) : ∀ k p, 0 ≤ maxOver sg t g k p ∧ maxOver sg t g k p ≤ B
  | 0, _ => by simp [maxOver, hB]
  | k + 1, p => by
    have h1 := hg p
    have h2 := maxOver_bd (sg := sg) (t := t) hB hg k (p + len1 sg t p)
    simp only [maxOver]
    omega
theorem dep_bd {sg t : List Int} : ∀ f a, 0 ≤ dep sg t f a ∧ dep sg t f a ≤ f
  | 0, _ => by simp [dep]
  | f + 1, a => by
    have := maxOver_bd (sg := sg) (t := t) (g := dep sg t f) (B := f) (by omega) (fun p => dep_bd (sg := sg) (t := t) f p) (ar sg (t.getD a 0)).toNat (a + 1)
    simp only [dep]
    omega
theorem places_len {sg t : List Int} : ∀ k p, (places sg t k p).length = k
  | 0, _ => rfl
  | k + 1, p => by simp [places, places_len]
end Go.Proofs.Ytdkjafjphgcbjaa.term
end

section
/-
  PLAIN MATHEMATICS of valid terms: their parts, the numbers in them. Conditions: none. By an AI agent.
-/
namespace Go.Proofs.Ytdkjafjphgcbjaa.termFacts
open Go.Proofs.Ytdkjafjphgcbjaa.sig Go.Proofs.Ytdkjafjphgcbjaa.term Go.Proofs.Ytdkjafjphgcbjaa.termOk

theorem term_parts {sg t : List Int} (h : termOkB sg t = true) : sigOkB sg = true ∧ t.length ≤ 60 ∧ scan sg 1 t = some t.length := by
  unfold termOkB termB at h
  simp only [Bool.and_eq_true, decide_eq_true_eq] at h
  exact h
theorem term_mk {sg t : List Int} (h1 : sigOkB sg = true) (h2 : t.length ≤ 60) (h3 : scan sg 1 t = some t.length) : termOkB sg t = true := by
  unfold termOkB termB
  simp [h1, h2, h3]
theorem term_len {sg t : List Int} (h : termOkB sg t = true) : 1 ≤ t.length ∧ t.length ≤ 60 := ⟨scan_pos (q := 0) (term_parts h).2.2, (term_parts h).2.1⟩
theorem term_ar {sg t : List Int} (h : termOkB sg t = true) {j : Nat} (hj : j < t.length) : ¬ ar sg (t.getD j 0) < 0 := by
  obtain ⟨i, h1, _, _⟩ := scan_at (term_parts h).2.2 hj
  obtain ⟨_, _, _, h2, _⟩ := scan_args h1
  exact h2
/-- each number is a variable or a symbol -/
theorem term_num {sg t : List Int} (h : termOkB sg t = true) {j : Nat} (hj : j < t.length) : -24 ≤ t.getD j 0 ∧ t.getD j 0 < 8 := by
  have h1 := term_ar h hj
  have h2 := (sig_arities (term_parts h).1).2
  unfold ar at h1
  split at h1
  · omega
  · split at h1
    · omega
    · omega
theorem term_mem {sg t : List Int} (h : termOkB sg t = true) {x : Int} (hx : x ∈ t) : -24 ≤ x ∧ x < 8 := by
  obtain ⟨j, hj, rfl⟩ := List.getElem_of_mem hx
  have := term_num h hj
  simpa [List.getD, hj] using this
end Go.Proofs.Ytdkjafjphgcbjaa.termFacts
end

section
/-
  CONTRACTS: spec.l1Copy, slices.Clone at []int64; a part of a slice. Conditions: the slices read as lists ('Seg'), at most 1048576 numbers. By an AI agent.
-/
namespace Go.Proofs.Ytdkjafjphgcbjaa.sub
open Go.RowKit Go.Proofs.Ytdkjafjphgcbjaa.base Go.Proofs.Ytdkjafjphgcbjaa.ints Go.Proofs.Ytdkjafjphgcbjaa.marks Go.Proofs.Ytdkjafjphgcbjaa.app Go.Proofs.Ytdkjafjphgcbjaa.sym

theorem Seg.cut {w : World} {B b off m a j : Nat} {t : List Int} (h : Seg w B (some ⟨b, off, none⟩) m t) (hj : a + j ≤ m) : Seg w B (some ⟨b, off + a, none⟩) j ((t.drop a).take j) := by
  refine ⟨by have := h.1; simp; omega, fun hn => ?_⟩
  obtain ⟨b', off', e, hb, hc⟩ := h.2 (by omega)
  injection e with e
  injection e with e1 e2
  subst e1 e2
  refine ⟨_, _, rfl, hb, fun q hq => ?_⟩
  rw [Nat.add_assoc, hc (a + q) (by omega)]
  simp [List.getD, List.getElem?_take, hq]

set_option maxHeartbeats 400000 in
theorem copyInts (S : Option Addr) (m c : Nat) (ys : List Int) (w : World) (h : Seg w w.heap.size S m ys) (hnone : S = none → c = 0) (hm : m ≤ 1048576) :
    Calls Try.prog 120 #[.slice S m c] w (AnsList w ys) := by
  have ho := own_empty w w.heap.size (Nat.le_refl _)
  have bb : Below w.heap.size w (w.alloc (.cells #[] 2)) := (Below.refl _ _).alloc (Nat.le_refl _) _
  have hs := h.alloc (Nat.le_refl _) (.cells #[] 2)
  have HN := Lib.hid hnone
  clear hnone h
  go_enter Try.func120, Try.ntmps120
  go_wp2_with (at_builtin; refine appAll rfl _ _ rfl w.heap.size (some ⟨w.heap.size, 0, none⟩) 0 0 [] rfl ho S m c w.heap.size ys rfl hs HN.out (by omega) (by omega) (by simp) ?_; intro A' c' w' ho' b')
  simp only [Nat.zero_add, List.nil_append] at ho'
  have F : AnsList w ys (.returned (.slice A' m c')) w' := ⟨A', m, c', rfl, ho', bb.trans b'⟩
  have HF := Lib.hid F
  clear F ho' b' bb hs ho
  go_wp2
  go_ret
  exact HF.out

end Go.Proofs.Ytdkjafjphgcbjaa.sub
end

section
/-
  CONTRACTS: spec.l1Into, l2Vars, VarsOf, GroundIn; impl.VarsOf, GroundIn. Conditions: the slices read as lists ('Seg'), at most 1048576 numbers. By an AI agent.
-/
namespace Go.Proofs.Ytdkjafjphgcbjaa.varsOf
open Go.RowKit Go.Proofs.Ytdkjafjphgcbjaa.base Go.Proofs.Ytdkjafjphgcbjaa.ints Go.Proofs.Ytdkjafjphgcbjaa.sig Go.Proofs.Ytdkjafjphgcbjaa.term Go.Proofs.Ytdkjafjphgcbjaa.termOk Go.Proofs.Ytdkjafjphgcbjaa.marks Go.Proofs.Ytdkjafjphgcbjaa.app Go.Proofs.Ytdkjafjphgcbjaa.sym Go.Proofs.Ytdkjafjphgcbjaa.sub Go.Proofs.Ytdkjafjphgcbjaa.segs Go.Proofs.Ytdkjafjphgcbjaa.varsMath Go.Proofs.Ytdkjafjphgcbjaa.termFacts
set_option maxRecDepth 100000

/-- a slice that reads as these numbers -/
def AnsInto (w : World) (ys : List Int) (e : Ending) (w' : World) : Prop := ∃ b off n c, e = .returned (.slice (some ⟨b, off, none⟩) n c) ∧ Seg w' w'.heap.size (some ⟨b, off, none⟩) n ys ∧ n ≤ c ∧ c ≤ 9223372036854775807 ∧ Below w.heap.size w w'

theorem Seg.pre {w : World} {B n k : Nat} {A : Option Addr} {xs : List Int} (h : Seg w B A n xs) (hk : k ≤ n) : Seg w B A k (xs.take k) := by
  refine ⟨by have := h.1; simp; omega, fun h0 => ?_⟩
  obtain ⟨b, off, e, hb, hc⟩ := h.2 (by omega)
  refine ⟨b, off, e, hb, fun j hj => ?_⟩
  rw [hc j (by omega)]
  simp [List.getD, List.getElem?_take, hj]
theorem Seg.post {w : World} {B n k b off : Nat} {xs : List Int} (h : Seg w B (some ⟨b, off, none⟩) n xs) (hk : k ≤ n) : Seg w B (some ⟨b, off + k, none⟩) (n - k) (xs.drop k) := by
  have h1 := Seg.cut (a := k) (j := n - k) h (by omega)
  rw [List.take_of_length_le (by have := h.1; simp; omega)] at h1
  exact h1
theorem into_ans {w w' : World} {base : Nat} {A : Option Addr} {n c : Nat} {xs ys : List Int} (h : Own w' base (.slice A n c) ys) (hn : 1 ≤ n) (e : ys = xs) (hb : Below w.heap.size w w') : AnsInto w xs (.returned (.slice A n c)) w' := by
  subst e
  have hl := Own.len h
  rcases own_form (n := n) (vs := ys.map (Value.int .i64)) (by rw [hl]; rw [hl] at h; exact h) with ⟨_, e, _⟩ | ⟨g, cur, rfl, _, _, h1, _, h3, _⟩
  · omega
  · exact ⟨g, 0, n, c, rfl, Own.seg h, h1, h3, hb⟩

def HeadInto (n : Nat) (xs : List Int) (x : Int) (i : Value) : Prop := ∃ k : Nat, k ≤ n ∧ i = .int .i64 k ∧ ∀ j, j < k → xs.getD j 0 < x

set_option maxHeartbeats 4000000 in
theorem l1Into (b off n c : Nat) (xs : List Int) (x : Int) (w : World) (h : Seg w w.heap.size (some ⟨b, off, none⟩) n xs) (hc1 : n ≤ c) (hc2 : c ≤ 9223372036854775807) (hn : n ≤ 1048576) :
    Calls Try.prog 98 #[.slice (some ⟨b, off, none⟩) n c, .int .i64 x] w (AnsInto w (into xs x)) := by
  have HX := Lib.hid h.1
  go_enter Try.func98, Try.ntmps98
  go_wp2
  go_loop [5] (fun i => HeadInto n xs x i) (fun i => n - (intOf i).toNat)
  case atStart => exact ⟨0, Nat.zero_le _, rfl, fun j hj => absurd hj (Nat.not_lt_zero _)⟩
  case round =>
    obtain ⟨k, hk, rfl, hlow⟩ := hrel
    have HLOW := Lib.hid hlow
    clear hlow
    have i1 : (0 : Int) ≤ (k : Int) := by omega
    have i2 : (k : Int) ≤ (n : Int) := by omega
    have i3 : (k : Int) ≤ (c : Int) := by omega
    have i4 : (n : Int) ≤ (c : Int) := by omega
    have L := Lib.hid (copyInts (some ⟨b, off, none⟩) k c (xs.take k) w (Seg.pre h hk) (fun e => by cases e) (by omega))
    by_cases hlt : k < n
    · obtain ⟨b', off', y, e, -, hy, ey⟩ := h.spot hlt
      injection e with e
      injection e with e1 e2
      subst e1 e2
      have i5 : (k : Int) < (n : Int) := by omega
      by_cases hyx : y < x
      · have S : HeadInto n xs x (.int .i64 ((k : Int) + 1)) := ⟨k + 1, hlt, by simp, fun j hj => by
          by_cases e : j = k
          · subst e; rw [ey.out]; exact hyx
          · exact HLOW.out j (by omega)⟩
        replace S := Lib.hid S
        clear h ey L
        go_wp2
        go_round
        case rel => exact S.out
        case measure => simp [intOf]; omega
      · by_cases hye : y = x
        · have F : AnsInto w (into xs x) (.returned (.slice (some ⟨b, off, none⟩) n c)) w := by
            rw [into_at (by rw [HX.out]; exact hlt) HLOW.out (ey.out.trans hye)]
            exact ⟨b, off, n, c, rfl, h, hc1, hc2, Below.refl _ _⟩
          have HF := Lib.hid F
          have d1 : (y == x) = true := by simp [hye]
          have d2 : decide (y < x) = false := by simp; omega
          clear F h ey L hye hyx
          go_wp2
          go_ret
          exact HF.out
        · have hck : ¬ c = k := by omega
          have E := Lib.hid (into_mid (xs := xs) (n := x) (k := k) (by rw [HX.out]; exact hlt) HLOW.out (by rw [ey.out]; omega))
          have d1 : (y == x) = false := by simp [hye]
          have d2 : decide (y < x) = false := by simp; omega
          have hp := Seg.post h hk
          clear h ey hye hyx
          go_wp2_with fail
          refine L.out.mono ?_
          rintro e w1 ⟨D, dn, dc, rfl, o1, b1⟩
          have hdn : dn = k := by rw [Own.len o1]; have := HX.out; simp; omega
          subst hdn
          clear L
          go_wp2_with (first
            | (at_builtin; refine app1 rfl (.tmp 37) (.tmp 39) rfl w.heap.size D dn dc (xs.take dn) rfl (Own.alloc o1 _) w1.heap.size 1 x rfl ((Row.new _ _ _).cell 0) (by omega) (by simp; exact Nat.le_trans b1.size (Nat.le_succ _)) ?_; intro O' oc' w2 o2 b2; have hp2 := hp.below ((b1.alloc b1.size _).trans b2))
            | (at_builtin; refine appAll rfl (.tmp 41) (.tmp 44) rfl w.heap.size O' (dn + 1) oc' _ rfl o2 (some ⟨b, off + dn, none⟩) (n - dn) (c - dn) w.heap.size (xs.drop dn) rfl hp2 (fun e => by cases e) (by omega) (by omega) (by have h1 := b1.size; have h2 := b2.size; simp at h2; omega) ?_; intro Q' qc' w3 o3 b3))
          have F := Lib.hid (into_ans (xs := into xs x) o3 (by omega) E.out.symm (((b1.alloc b1.size _).trans b2).trans b3))
          clear o1 o2 o3 b1 b2 b3 hp hp2 E
          go_wp2
          go_ret
          exact F.out
    · have ek : k = n := by omega
      subst ek
      have E := Lib.hid (into_end (xs := xs) (n := x) (fun j hj => HLOW.out j (by rw [HX.out] at hj; exact hj)))
      have ET := Lib.hid (show xs.take k = xs from List.take_of_length_le (by rw [HX.out]; exact Nat.le_refl _))
      have d0 : decide (k < k) = false := by simp
      by_cases hck : c = k
      · subst hck
        have hp := Seg.pre h (Nat.zero_le _)
        clear h
        go_wp2_with fail
        refine L.out.mono ?_
        rintro e w1 ⟨D, dn, dc, rfl, o1, b1⟩
        rw [ET.out] at o1
        have hdn : dn = c := by rw [Own.len o1]; exact HX.out
        subst hdn
        clear L
        go_wp2_with (first
          | (at_builtin; refine app1 rfl (.tmp 37) (.tmp 39) rfl w.heap.size D dn dc xs rfl (Own.alloc o1 _) w1.heap.size 1 x rfl ((Row.new _ _ _).cell 0) (by omega) (by simp; exact Nat.le_trans b1.size (Nat.le_succ _)) ?_; intro O' oc' w2 o2 b2; have hp2 := hp.below ((b1.alloc b1.size _).trans b2))
          | (at_builtin; refine appAll rfl (.tmp 41) (.tmp 44) rfl w.heap.size O' (dn + 1) oc' _ rfl o2 (some ⟨b, off, none⟩) 0 0 w.heap.size (xs.take 0) rfl hp2 (fun e => by cases e) (by omega) (by omega) (by have h1 := b1.size; have h2 := b2.size; simp at h2; omega) ?_; intro Q' qc' w3 o3 b3))
        have F := Lib.hid (into_ans (xs := into xs x) o3 (by omega) (by rw [E.out]; simp) (((b1.alloc b1.size _).trans b2).trans b3))
        clear o1 o2 o3 b1 b2 b3 hp hp2 E
        go_wp2
        go_ret
        exact F.out
      · have hp := Seg.post h (Nat.le_refl _)
        rw [Nat.sub_self] at hp
        clear h
        go_wp2_with fail
        refine L.out.mono ?_
        rintro e w1 ⟨D, dn, dc, rfl, o1, b1⟩
        rw [ET.out] at o1
        have hdn : dn = k := by rw [Own.len o1]; exact HX.out
        subst hdn
        clear L
        go_wp2_with (first
          | (at_builtin; refine app1 rfl (.tmp 37) (.tmp 39) rfl w.heap.size D dn dc xs rfl (Own.alloc o1 _) w1.heap.size 1 x rfl ((Row.new _ _ _).cell 0) (by omega) (by simp; exact Nat.le_trans b1.size (Nat.le_succ _)) ?_; intro O' oc' w2 o2 b2; have hp2 := hp.below ((b1.alloc b1.size _).trans b2))
          | (at_builtin; refine appAll rfl (.tmp 41) (.tmp 44) rfl w.heap.size O' (dn + 1) oc' _ rfl o2 (some ⟨b, off + dn, none⟩) 0 (c - dn) w.heap.size (xs.drop dn) rfl hp2 (fun e => by cases e) (by omega) (by omega) (by have h1 := b1.size; have h2 := b2.size; simp at h2; omega) ?_; intro Q' qc' w3 o3 b3))
        have F := Lib.hid (into_ans (xs := into xs x) o3 (by omega) (by rw [E.out, List.drop_eq_nil_of_le (by rw [HX.out]; exact Nat.le_refl _)]; simp) (((b1.alloc b1.size _).trans b2).trans b3))
        clear o1 o2 o3 b1 b2 b3 hp hp2 E
        go_wp2
        go_ret
        exact F.out
end Go.Proofs.Ytdkjafjphgcbjaa.varsOf
end

section
/-
  WORD: what a contract of a test says: a bool, and that below the call's own blocks nothing has turned. Conditions: none. By an AI agent.
-/
namespace Go.Proofs.Ytdkjafjphgcbjaa.varsOf
open Go.RowKit Go.Proofs.Ytdkjafjphgcbjaa.base

def AnsB (w : World) (b : Bool) (e : Ending) (w' : World) : Prop := e = .returned (.bool b) ∧ Below w.heap.size w w'
theorem ansB {w w' : World} {a b : Bool} (h : a = b) (hb : Below w.heap.size w w') : AnsB w b (.returned (.bool a)) w' := ⟨by rw [h], hb⟩
end Go.Proofs.Ytdkjafjphgcbjaa.varsOf
end

section
/-
  DERIVED: THE SHELF's CONTRACTS AT THIS DUMP, IN PLAIN WORDS (tools/lay-plain.mjs out of 'YtdkjafjphgcbjaaShelfT.lean', which tools/lay-shelf.mjs wrote): THE SAME DECLARATIONS UNDER THE SAME NAMES: 'import', 'namespace', 'open', 'def', 'theorem' AND NOTHING ELSE: no command of the shelf's: FOR A HAND-IN. Each laying: the table of numbers ('.._ren') and one theorem, a field a fact of the dump's own or the kernel's comparison; each contract: ONE APPLICATION.
-/
namespace Go.Proofs
open Go.Shelf
def Try.laysSlgn53_ren : Go.Shelf.Ren := ⟨fun | 53 => 127 | 64 => 130 | 63 => 129 | 78 => 140 | 79 => 141 | 70 => 131 | 71 => 132 | 72 => 133 | 73 => 134 | 74 => 135 | 75 => 136 | 59 => 137 | 76 => 138 | 77 => 139 | 88 => 142 | 89 => 143 | 90 => 144 | 91 => 145 | 92 => 146 | 68 => 147 | 96 => 148 | n => n, fun | 22 => 24 | 23 => 2 | 3 => 3 | 51 => 113 | 0 => 0 | 67 => 128 | 69 => 130 | 4 => 4 | 61 => 120 | 60 => 119 | 44 => 125 | 5 => 5 | 9 => 9 | 75 => 131 | 79 => 135 | 83 => 137 | 84 => 138 | n => n, fun | n => n⟩
theorem Try.laysSlgn53 : Go.Proofs.SlLaysN.n53 Try.prog Try.laysSlgn53_ren := {
  mixed := by kernel_rfl
  f53 := ⟨Try.f127.name, by decide, Try.func127.trans (congrArg some (by kernel_rfl))⟩
  f59 := ⟨Try.f137.name, by decide, Try.func137.trans (congrArg some (by kernel_rfl))⟩
  f63 := ⟨Try.f129.name, by decide, Try.func129.trans (congrArg some (by kernel_rfl))⟩
  f64 := Try.func130.trans (congrArg some (by kernel_rfl))
  f68 := ⟨Try.f147.name, by decide, Try.func147.trans (congrArg some (by kernel_rfl))⟩
  f70 := ⟨Try.f131.name, by decide, Try.func131.trans (congrArg some (by kernel_rfl))⟩
  f71 := ⟨Try.f132.name, by decide, Try.func132.trans (congrArg some (by kernel_rfl))⟩
  f72 := ⟨Try.f133.name, by decide, Try.func133.trans (congrArg some (by kernel_rfl))⟩
  f73 := ⟨Try.f134.name, by decide, Try.func134.trans (congrArg some (by kernel_rfl))⟩
  f74 := ⟨Try.f135.name, by decide, Try.func135.trans (congrArg some (by kernel_rfl))⟩
  f75 := ⟨Try.f136.name, by decide, Try.func136.trans (congrArg some (by kernel_rfl))⟩
  f76 := ⟨Try.f138.name, by decide, Try.func138.trans (congrArg some (by kernel_rfl))⟩
  f77 := ⟨Try.f139.name, by decide, Try.func139.trans (congrArg some (by kernel_rfl))⟩
  f78 := Try.func140.trans (congrArg some (by kernel_rfl))
  f79 := Try.func141.trans (congrArg some (by kernel_rfl))
  f88 := ⟨Try.f142.name, by decide, Try.func142.trans (congrArg some (by kernel_rfl))⟩
  f89 := Try.func143.trans (congrArg some (by kernel_rfl))
  f90 := Try.func144.trans (congrArg some (by kernel_rfl))
  f91 := ⟨Try.f145.name, by decide, Try.func145.trans (congrArg some (by kernel_rfl))⟩
  f92 := ⟨Try.f146.name, by decide, Try.func146.trans (congrArg some (by kernel_rfl))⟩
  f96 := ⟨Try.f148.name, by decide, Try.func148.trans (congrArg some (by kernel_rfl))⟩
  t0 := Try.underlying0
  a0 := Try.isAgg0
  z0 := Try.sizeOf0
  v0 := Try.zeroValue0
  t3 := Try.underlying3
  a3 := Try.isAgg3
  z3 := Try.sizeOf3
  v3 := Try.zeroValue3
  t4 := Try.underlying4
  a4 := Try.isAgg4
  z4 := Try.sizeOf4
  v4 := Try.zeroValue4
  t5 := Try.underlying5
  a5 := Try.isAgg5
  z5 := Try.sizeOf5
  v5 := Try.zeroValue5
  t9 := Try.underlying9
  a9 := Try.isAgg9
  z9 := Try.sizeOf9
  v9 := Try.zeroValue9
  t22 := Try.underlying24
  a22 := Try.isAgg24
  z22 := Try.sizeOf24
  v22 := Try.zeroValue24
  t23 := Try.underlying2
  a23 := Try.isAgg2
  z23 := Try.sizeOf2
  v23 := Try.zeroValue2
  t44 := Try.underlying125
  a44 := Try.isAgg125
  z44 := Try.sizeOf125
  v44 := Try.zeroValue125
  t51 := Try.underlying113
  a51 := Try.isAgg113
  z51 := Try.sizeOf113
  v51 := Try.zeroValue113
  t60 := Try.underlying119
  a60 := Try.isAgg119
  z60 := Try.sizeOf119
  v60 := Try.zeroValue119
  t61 := Try.underlying120
  a61 := Try.isAgg120
  z61 := Try.sizeOf120
  v61 := Try.zeroValue120
  t67 := Try.underlying128
  a67 := Try.isAgg128
  z67 := Try.sizeOf128
  v67 := Try.zeroValue128
  t69 := Try.underlying130
  a69 := Try.isAgg130
  z69 := Try.sizeOf130
  v69 := Try.zeroValue130
  t75 := Try.underlying131
  a75 := Try.isAgg131
  z75 := Try.sizeOf131
  v75 := Try.zeroValue131
  t79 := Try.underlying135
  a79 := Try.isAgg135
  z79 := Try.sizeOf135
  v79 := Try.zeroValue135
  t83 := Try.underlying137
  a83 := Try.isAgg137
  z83 := Try.sizeOf137
  v83 := Try.zeroValue137
  t84 := Try.underlying138
  a84 := Try.isAgg138
  z84 := Try.sizeOf138
  v84 := Try.zeroValue138 }
open Go.Sort Go.RowKit in
theorem Try.slices_Sort_int (blk off cap : Nat) (zs : List Int) (w : World) (hH : Holds (Value.int .i64) w blk off zs.toArray) (hblk : blk < w.heap.size) (hsz : zs.length < 4611686018427387904) :
    Calls Try.prog 127 #[.slice (some ⟨blk, off, none⟩) zs.length cap] w fun e w' => e = .returned (.tuple #[]) ∧ ∃ n os, w' = grow (putRow (Value.int .i64) (Sort.ahead w n) blk off (zs.mergeSort fun x y => decide (x ≤ y)).toArray) os := AnyG.slices_Sort_int Try.laysSlgn53 blk off cap zs w hH hblk hsz
open Go.Sort Go.RowKit in
theorem Try.slices_Sort_int_none (p : Option Addr) (cap : Nat) (w : World) :
    Calls Try.prog 127 #[.slice p 0 cap] w fun e w' => e = .returned (.tuple #[]) ∧ w' = w := AnyG.slices_Sort_int_none Try.laysSlgn53 p cap w
def Try.laysSlgn43_ren : Go.Shelf.Ren := ⟨fun | 43 => 128 | n => n, fun | 22 => 24 | 23 => 2 | 3 => 3 | 4 => 4 | 0 => 0 | n => n, fun | n => n⟩
theorem Try.laysSlgn43 : Go.Proofs.SlLaysN.n43 Try.prog Try.laysSlgn43_ren := {
  mixed := by kernel_rfl
  f43 := ⟨Try.f128.name, by decide, Try.func128.trans (congrArg some (by kernel_rfl))⟩
  t0 := Try.underlying0
  a0 := Try.isAgg0
  z0 := Try.sizeOf0
  v0 := Try.zeroValue0
  t3 := Try.underlying3
  a3 := Try.isAgg3
  z3 := Try.sizeOf3
  v3 := Try.zeroValue3
  t4 := Try.underlying4
  a4 := Try.isAgg4
  z4 := Try.sizeOf4
  v4 := Try.zeroValue4
  t22 := Try.underlying24
  a22 := Try.isAgg24
  z22 := Try.sizeOf24
  v22 := Try.zeroValue24
  t23 := Try.underlying2
  a23 := Try.isAgg2
  z23 := Try.sizeOf2
  v23 := Try.zeroValue2
  i23 := by kernel_rfl }
open Go.Sort Go.RowKit in
theorem Try.slices_Compact_int (blk off cap : Nat) (zs : List Int) (w : World) (hH : Holds (Value.int .i64) w blk off zs.toArray) (hsz : zs.length ≤ 9223372036854775807) (hcap : zs.length ≤ cap) :
    Calls Try.prog 128 #[.slice (some ⟨blk, off, none⟩) zs.length cap] w fun e w' => e = .returned (.slice (some ⟨blk, off, none⟩) (Lib.compact zs).length cap) ∧ ∃ q, w' = putRow (Value.int .i64) (Sort.ahead w q) blk off (Lib.compact zs ++ List.replicate (zs.length - (Lib.compact zs).length) 0).toArray := AnyG.slices_Compact_int Try.laysSlgn43 blk off cap zs w hH hsz hcap
open Go.Sort Go.RowKit in
theorem Try.slices_Compact_int_empty (a : Option Addr) (cap : Nat) (w : World) :
    Calls Try.prog 128 #[.slice a 0 cap] w fun e w' => e = .returned (.slice a 0 cap) ∧ w' = w := AnyG.slices_Compact_int_empty Try.laysSlgn43 a cap w
end Go.Proofs
end

section
/-
  CONTRACTS: slices.Sort and slices.Compact at a slice of int64 of the call's own ('Own'), out of the library's. Conditions: none beyond the slice's. By an AI agent.
-/
namespace Go.Proofs.Ytdkjafjphgcbjaa.sorted
open Go.RowKit Go.Proofs.Ytdkjafjphgcbjaa.base Go.Proofs.Ytdkjafjphgcbjaa.marks Go.Proofs.Ytdkjafjphgcbjaa.app Go.Proofs.Ytdkjafjphgcbjaa.sym Go.Proofs.Ytdkjafjphgcbjaa.appAt Go.Proofs.Ytdkjafjphgcbjaa.segs
set_option maxRecDepth 100000

theorem row_put {w : World} {g : Nat} {t : TypeId} {cs : Array Value} (h : Row w g t cs) (d : Array Int) : Row (Sort.putRow (Value.int .i64) w g 0 d) g t (Sort.putCells (Value.int .i64) 0 d cs) := by
  unfold Row at h ⊢
  show (w.heap.modify g (Sort.onCells (Sort.putCells (Value.int .i64) 0 d)))[g]? = _
  rw [Array.getElem?_modify, if_pos rfl, h]
  rfl
theorem grown_putRow (w : World) (g q : Nat) (d : Array Int) : w.grownBy (Sort.putRow (Value.int .i64) (Sort.ahead w q) g 0 d) (some g) := by
  refine ⟨rfl, rfl, rfl, ?_, fun i hi hne => ?_⟩
  · show w.heap.size ≤ (w.heap.modify g _).size
    simp
  · show (w.heap.modify g _)[i]? = _
    rw [Array.getElem?_modify, if_neg (fun e => hne (by rw [e]))]
theorem grown_grow {w w' : World} {r : Option Nat} (h : w.grownBy w' r) (os : Array Obj) : w.grownBy (Sort.grow w' os) r := by
  refine ⟨h.os, h.tape, h.output, by rw [Sort.size_grow]; have := h.size; omega, fun i hi hne => ?_⟩
  rw [Sort.heap_grow_old w' os (Nat.lt_of_lt_of_le hi h.size)]
  exact h.block i hi hne
theorem holds_own {w : World} {g : Nat} {t : TypeId} {cs : Array Value} {xs : List Int} (h : Row w g t cs) (hc : ∀ j, j < xs.length → cs[j]? = some ((xs.map (Value.int .i64)).getD j undef)) : Sort.Holds (Value.int .i64) w g 0 xs.toArray := by
  intro j hj
  have hj' : j < xs.length := by simpa using hj
  refine ⟨?_, by rw [Nat.zero_add]; exact h.free j⟩
  rw [Nat.zero_add, h.cell j, hc j hj']
  simp [List.getD, hj']
theorem putCells_get {cs : Array Value} {d : List Int} {j : Nat} (hj : j < d.length) (hs : d.length ≤ cs.size) : (Sort.putCells (Value.int .i64) 0 d.toArray cs)[j]? = some (.int .i64 (d.getD j 0)) := by
  unfold Sort.putCells
  rw [Array.getElem?_mapIdx, Array.getElem?_eq_getElem (by omega)]
  simp [hj, List.getD]

/-- what sorting leaves -/
def AnsSort (w : World) (base : Nat) (A : Option Addr) (n c : Nat) (ys : List Int) (e : Ending) (w' : World) : Prop := e = .returned (.tuple #[]) ∧ Own w' base (.slice A n c) ys ∧ w.grownBy w' (blk A)

def up (xs : List Int) : List Int := xs.mergeSort fun x y => decide (x ≤ y)

theorem sortOwn (base : Nat) (A : Option Addr) (n c : Nat) (xs : List Int) (w : World) (h : Own w base (.slice A n c) xs) (hn : n ≤ 1048576) :
    Calls Try.prog 127 #[.slice A n c] w (AnsSort w base A n c (up xs)) := by
  have hl := Own.len h
  subst hl
  rcases own_form (n := xs.length) h with ⟨rfl, h0, rfl, _⟩ | ⟨g, cs, rfl, hb, hr, hnc, hz, hmax, _, hc⟩
  · have hx : xs = [] := List.eq_nil_of_length_eq_zero h0
    subst hx
    refine (Try.slices_Sort_int_none none 0 w).mono ?_
    rintro e w' ⟨rfl, rfl⟩
    exact ⟨rfl, by simpa [up] using h, World.grownBy.refl _ _⟩
  · have hH := holds_own hr hc
    refine (Try.slices_Sort_int g 0 c xs w hH hr.lt (by omega)).mono ?_
    rintro e w' ⟨rfl, n, os, rfl⟩
    have hyl : (up xs).length = xs.length := List.length_mergeSort _
    refine ⟨rfl, ?_, grown_grow (grown_putRow w g n _) os⟩
    have r1 : Row (Sort.ahead w n) g 2 cs := hr
    have r2 := row_put r1 (up xs).toArray
    have r3 : Row (Sort.grow (Sort.putRow (Value.int .i64) (Sort.ahead w n) g 0 (up xs).toArray) os) g 2 _ := (Sort.heap_grow_old _ os r2.lt).trans r2
    exact Own.of_row r3 hyl (by simp [Sort.putCells, hz]) hnc hmax hb (fun j hj => putCells_get (by omega) (by omega))

theorem compact_le (zs : List Int) : (Lib.compact zs).length ≤ zs.length := by
  unfold Lib.compact Lib.compactUpTo
  rw [List.length_map]
  exact Nat.le_trans (List.length_filter_le _ _) (by simp)

/-- what compacting leaves: a slice of the same row, shorter perhaps -/
def AnsCompact (w : World) (base : Nat) (A : Option Addr) (ys : List Int) (e : Ending) (w' : World) : Prop := ∃ c, e = .returned (.slice A ys.length c) ∧ Own w' base (.slice A ys.length c) ys ∧ w.grownBy w' (blk A)

theorem compactOwn (base : Nat) (A : Option Addr) (n c : Nat) (xs : List Int) (w : World) (h : Own w base (.slice A n c) xs) (hn : n ≤ 1048576) :
    Calls Try.prog 128 #[.slice A n c] w (AnsCompact w base A (Lib.compact xs)) := by
  have hl := Own.len h
  subst hl
  rcases own_form (n := xs.length) h with ⟨rfl, h0, rfl, _⟩ | ⟨g, cs, rfl, hb, hr, hnc, hz, hmax, _, hc⟩
  · have hx : xs = [] := List.eq_nil_of_length_eq_zero h0
    subst hx
    refine (Try.slices_Compact_int_empty none 0 w).mono ?_
    rintro e w' ⟨rfl, rfl⟩
    exact ⟨0, rfl, h, World.grownBy.refl _ _⟩
  · have hH := holds_own hr hc
    have hle : (Lib.compact xs).length ≤ xs.length := compact_le xs
    refine (Try.slices_Compact_int g 0 c xs w hH (by omega) hnc).mono ?_
    rintro e w' ⟨rfl, q, rfl⟩
    refine ⟨c, rfl, ?_, grown_putRow w g q _⟩
    have r1 : Row (Sort.ahead w q) g 2 cs := hr
    have r2 := row_put r1 (Lib.compact xs ++ List.replicate (xs.length - (Lib.compact xs).length) 0).toArray
    refine Own.of_row r2 rfl (by simp [Sort.putCells, hz]) (by omega) hmax hb (fun j hj => ?_)
    rw [putCells_get (by simp; omega) (by simp; omega)]
    simp [List.getD, List.getElem?_append_left hj]
end Go.Proofs.Ytdkjafjphgcbjaa.sorted
end
