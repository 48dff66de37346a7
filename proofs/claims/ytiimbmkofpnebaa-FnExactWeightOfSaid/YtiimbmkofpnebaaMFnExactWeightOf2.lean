/-
  MERGED: my texts Shape, Shape2, KindsR, Rename, Same, RuleSpec, AnyR, RuleImpl, RankSpec, Dice, DrawSig, DrawTerm, DrawAny, DrawX, Stk, PartsSpec, KboLink, AnyJ, TabR, Inside, Plain, PlainOf, MatchSpec, Whole, KboOft, KboWt, LpoPrec, KboOk, KboScale, KboFun, Shape3, one behind the other, as they are. By an AI agent.
-/
import Derived.Test.YtiimbmkofpnebaaMFnExactWeightOf1
import Derived.Deep.RegionHeld3
import Derived.Deep.QuietTactic
import Derived.BigQuiet
import Derived.Shelf.Abstract
import Derived.Deep.LoopGhost
import Derived.Deep.AppendLies
import Derived.Deep.RegionLaw
import Derived.Deep.Onto
import Derived.Deep.DeepMust
import Derived.Laws.Rows
import Derived.Laws.ResultCell
import Derived.Deep.WholeRow
namespace Go.Proofs.Ytiimbmkofpnebaa
section
namespace shape
open Go.RowKit base ints sig cursor marks app sym appAt segs segsHelp segsMark kinds
inductive Sh where
 | num : Sh
 | bit : Sh
 | row : TypeId → Sh → Sh
 | cat : Sh → Sh → Sh
@[reducible] def Dat : Sh → Type
 | .num => Int
 | .bit => Bool
 | .row _ s => List (Dat s)
 | .cat a b => Dat a × Dat b
def nc : Sh → Nat
 | .num => 1
 | .bit => 1
 | .row _ _ => 1
 | .cat a b => nc a + nc b
def dft : (s : Sh) → Dat s
 | .num => (0 : Int)
 | .bit => false
 | .row _ _ => []
 | .cat a b => (dft a, dft b)
def Piece (w : World) (b off : Nat) (es : List Value) : Prop := ∀ i, i < es.length → w.cell? ⟨b, off + i, none⟩ = es[i]?
theorem nc_pos : ∀ s : Sh, 1 ≤ nc s
 | .num => Nat.le_refl _
 | .bit => Nat.le_refl _
 | .row _ _ => Nat.le_refl _
 | .cat a b => Nat.le_trans (nc_pos a) (Nat.le_add_right _ _)
def Rd (w : World) (B : Nat) : (s : Sh) → List Value → Dat s → Prop
 | .num, cs, (x : Int) => cs = [.int .i64 x]
 | .bit, cs, (x : Bool) => cs = [.bool x]
 | .row _ s, cs, (d : List (Dat s)) => ∃ A n c, cs = [.slice A n c] ∧ Cap A n c ∧ d.length = n ∧
   (0 < n → ∃ b off, A = some ⟨b, off, none⟩ ∧ b < B ∧ ∀ j, j < n → ∃ es, es.length = nc s ∧ Piece w b (off + j * nc s) es ∧ Rd w B s es (d.getD j (dft s)))
 | .cat a b, cs, d => ∃ ca cb, cs = ca ++ cb ∧ Rd w B a ca d.1 ∧ Rd w B b cb d.2
def Ow (w : World) : (s : Sh) → List Value → Dat s → List Nat → Prop
 | .num, cs, (x : Int), F => cs = [.int .i64 x] ∧ F = []
 | .bit, cs, (x : Bool), F => cs = [.bool x] ∧ F = []
 | .row e s, cs, (d : List (Dat s)), F => ∃ A n c, cs = [.slice A n c] ∧ d.length = n ∧
   ((A = none ∧ n = 0 ∧ c = 0 ∧ F = []) ∨ ∃ (g : Nat) (cur : Array Value) (E : Nat → List Value) (G : Nat → List Nat), A = some ⟨g, 0, none⟩ ∧ Row w g e cur ∧ n ≤ c ∧ c ≤ 9223372036854775807 ∧ cur.size = c * nc s ∧
    F = g :: (List.range n).flatMap G ∧ ∀ j, j < n → (E j).length = nc s ∧ (∀ i, i < nc s → cur[j * nc s + i]? = (E j)[i]?) ∧ Ow w s (E j) (d.getD j (dft s)) (G j))
 | .cat a b, cs, d, F => ∃ ca cb Fa Fb, cs = ca ++ cb ∧ F = Fa ++ Fb ∧ Ow w a ca d.1 Fa ∧ Ow w b cb d.2 Fb
section
variable {w w' : World} {B B' : Nat}
theorem Rd.len : ∀ {s : Sh} {cs : List Value} {d : Dat s}, Rd w B s cs d → cs.length = nc s
 | .num, _, _, h => by have h : _ = _ := h; rw [h]; rfl
 | .bit, _, _, h => by have h : _ = _ := h; rw [h]; rfl
 | .row _ _, _, _, h => by obtain ⟨A, n, c, e, _⟩ := h; rw [e]; rfl
 | .cat a b, _, _, h => by
  obtain ⟨ca, cb, e, h1, h2⟩ := h
  rw [e, List.length_append, h1.len, h2.len]; rfl
theorem Piece.keep {b off : Nat} {es : List Value} (h : Piece w b off es) (hk : ∀ p : Addr, p.block = b → w'.cell? p = w.cell? p) : Piece w' b off es := fun i hi => (hk _ rfl).trans (h i hi)
theorem Rd.keep (hk : ∀ p : Addr, p.block < B → w'.cell? p = w.cell? p) : ∀ {s : Sh} {cs : List Value} {d : Dat s}, Rd w B s cs d → Rd w' B s cs d
 | .num, _, _, h => h
 | .bit, _, _, h => h
 | .row _ s, _, _, h => by
  obtain ⟨A, n, c, e, hc, hl, h1⟩ := h
  refine ⟨A, n, c, e, hc, hl, fun hn => ?_⟩
  obtain ⟨b, off, e2, hb, h2⟩ := h1 hn
  refine ⟨b, off, e2, hb, fun j hj => ?_⟩
  obtain ⟨es, he, hp, hr⟩ := h2 j hj
  exact ⟨es, he, hp.keep (fun p hp => hk p (by rw [hp]; exact hb)), hr.keep hk⟩
 | .cat a b, _, _, h => by
  obtain ⟨ca, cb, e, h1, h2⟩ := h
  exact ⟨ca, cb, e, h1.keep hk, h2.keep hk⟩
theorem Rd.more (hB : B ≤ B') : ∀ {s : Sh} {cs : List Value} {d : Dat s}, Rd w B s cs d → Rd w B' s cs d
 | .num, _, _, h => h
 | .bit, _, _, h => h
 | .row _ s, _, _, h => by
  obtain ⟨A, n, c, e, hc, hl, h1⟩ := h
  refine ⟨A, n, c, e, hc, hl, fun hn => ?_⟩
  obtain ⟨b, off, e2, hb, h2⟩ := h1 hn
  refine ⟨b, off, e2, by omega, fun j hj => ?_⟩
  obtain ⟨es, he, hp, hr⟩ := h2 j hj
  exact ⟨es, he, hp, hr.more hB⟩
 | .cat a b, _, _, h => by
  obtain ⟨ca, cb, e, h1, h2⟩ := h
  exact ⟨ca, cb, e, h1.more hB, h2.more hB⟩
theorem Rd.below {s : Sh} {cs : List Value} {d : Dat s} (h : Rd w B s cs d) (hb : Below B w w') : Rd w' B s cs d := h.keep fun _ hp => hb.cell hp
theorem Rd.next {s : Sh} {cs : List Value} {d : Dat s} (h : Rd w w.heap.size s cs d) (hb : Below w.heap.size w w') : Rd w' w'.heap.size s cs d := (h.below hb).more hb.size
theorem Ow.len : ∀ {s : Sh} {cs : List Value} {d : Dat s} {F : List Nat}, Ow w s cs d F → cs.length = nc s
 | .num, _, _, _, h => by obtain ⟨e, _⟩ := h; rw [e]; rfl
 | .bit, _, _, _, h => by obtain ⟨e, _⟩ := h; rw [e]; rfl
 | .row _ _, _, _, _, h => by obtain ⟨A, n, c, e, _⟩ := h; rw [e]; rfl
 | .cat a b, _, _, _, h => by
  obtain ⟨ca, cb, Fa, Fb, e, _, h1, h2⟩ := h
  rw [e, List.length_append, h1.len, h2.len]; rfl
theorem Ow.keep : ∀ {s : Sh} {cs : List Value} {d : Dat s} {F : List Nat}, Ow w s cs d F → (∀ k ∈ F, w'.heap[k]? = w.heap[k]?) → Ow w' s cs d F
 | .num, _, _, _, h, _ => h
 | .bit, _, _, _, h, _ => h
 | .row e s, _, _, F, h, hk => by
  obtain ⟨A, n, c, e1, hl, h1⟩ := h
  refine ⟨A, n, c, e1, hl, ?_⟩
  rcases h1 with h1 | ⟨g, cur, E, G, e2, hr, h2, h3, h4, h5, h6⟩
  ·exact .inl h1
  ·subst h5
   refine .inr ⟨g, cur, E, G, e2, (hk g (List.mem_cons_self ..)).trans hr, h2, h3, h4, rfl, fun j hj => ?_⟩
   obtain ⟨q1, q2, q3⟩ := h6 j hj
   exact ⟨q1, q2, q3.keep fun k hkG => hk k (List.mem_cons_of_mem _ (List.mem_flatMap.2 ⟨j, List.mem_range.2 hj, hkG⟩))⟩
 | .cat a b, _, _, F, h, hk => by
  obtain ⟨ca, cb, Fa, Fb, e, e2, h1, h2⟩ := h
  subst e2
  exact ⟨ca, cb, Fa, Fb, e, rfl, h1.keep fun k h => hk k (List.mem_append_left _ h), h2.keep fun k h => hk k (List.mem_append_right _ h)⟩
theorem Ow.lt : ∀ {s : Sh} {cs : List Value} {d : Dat s} {F : List Nat}, Ow w s cs d F → ∀ k ∈ F, k < w.heap.size
 | .num, _, _, _, h, k, hk => by obtain ⟨_, e⟩ := h; rw [e] at hk; cases hk
 | .bit, _, _, _, h, k, hk => by obtain ⟨_, e⟩ := h; rw [e] at hk; cases hk
 | .row e s, _, _, F, h, k, hk => by
  obtain ⟨A, n, c, e1, hl, h1⟩ := h
  rcases h1 with ⟨_, _, _, h1⟩ | ⟨g, cur, E, G, e2, hr, h2, h3, h4, h5, h6⟩
  ·rw [h1] at hk; cases hk
  ·rw [h5] at hk
   rcases List.mem_cons.1 hk with hk | hk
   ·rw [hk]; exact hr.lt
   ·obtain ⟨j, hj, hk⟩ := List.mem_flatMap.1 hk
    exact (h6 j (List.mem_range.1 hj)).2.2.lt k hk
 | .cat a b, _, _, F, h, k, hk => by
  obtain ⟨ca, cb, Fa, Fb, e, e2, h1, h2⟩ := h
  rw [e2] at hk
  rcases List.mem_append.1 hk with hk | hk
  ·exact h1.lt k hk
  ·exact h2.lt k hk
theorem Ow.next {s : Sh} {cs : List Value} {d : Dat s} {F : List Nat} (h : Ow w s cs d F) (hb : Below w.heap.size w w') : Ow w' s cs d F := h.keep fun k hk => hb.block k (h.lt k hk)
theorem Ow.rd : ∀ {s : Sh} {cs : List Value} {d : Dat s} {F : List Nat}, Ow w s cs d F → Rd w w.heap.size s cs d
 | .num, _, _, _, h => h.1
 | .bit, _, _, _, h => h.1
 | .row e s, _, _, F, h => by
  obtain ⟨A, n, c, e1, hl, h1⟩ := h
  rcases h1 with ⟨rfl, rfl, rfl, _⟩ | ⟨g, cur, E, G, e2, hr, h2, h3, h4, h5, h6⟩
  ·exact ⟨none, 0, 0, e1, ⟨by omega, by omega, fun _ => rfl⟩, hl, fun h => absurd h (by omega)⟩
  ·refine ⟨A, n, c, e1, ⟨h2, h3, fun e => by rw [e] at e2; cases e2⟩, hl, fun hn => ⟨g, 0, e2, hr.lt, fun j hj => ?_⟩⟩
   obtain ⟨q1, q2, q3⟩ := h6 j hj
   refine ⟨E j, q1, fun i hi => ?_, q3.rd⟩
   rw [Nat.zero_add, hr.cell, q2 i (by omega)]
 | .cat a b, _, _, F, h => by
  obtain ⟨ca, cb, Fa, Fb, e, e2, h1, h2⟩ := h
  exact ⟨ca, cb, e, h1.rd, h2.rd⟩
def Owned (w : World) (lo hi : Nat) (s : Sh) (cs : List Value) (d : Dat s) : Prop := ∃ F, Ow w s cs d F ∧ F.Nodup ∧ ∀ k ∈ F, lo ≤ k ∧ k < hi
variable {lo hi : Nat} {s : Sh} {cs : List Value} {d : Dat s}
theorem Owned.rd (h : Owned w lo hi s cs d) : Rd w w.heap.size s cs d := by obtain ⟨F, h, _⟩ := h; exact h.rd
theorem Owned.next (h : Owned w lo hi s cs d) (hb : Below w.heap.size w w') : Owned w' lo hi s cs d := by obtain ⟨F, h, h2⟩ := h; exact ⟨F, h.next hb, h2⟩
theorem Owned.drew (h : Owned w lo hi s cs d) : Owned w.drew lo hi s cs d := h.next (drew_below w)
theorem Owned.wider {lo' hi' : Nat} (h : Owned w lo hi s cs d) (h1 : lo' ≤ lo) (h2 : hi ≤ hi') : Owned w lo' hi' s cs d := by
 obtain ⟨F, h, h3, h4⟩ := h
 exact ⟨F, h, h3, fun k hk => by have := h4 k hk; omega⟩
theorem Owned.put {g i : Nat} {u : Value} (h : Owned w lo hi s cs d) (hg : g < lo ∨ hi ≤ g) : Owned (w.setCell ⟨g, i, none⟩ u) lo hi s cs d := by
 obtain ⟨F, h, h3, h4⟩ := h
 exact ⟨F, h.keep fun k hk => Below.heap_setCell w _ u k (by have := h4 k hk; show k ≠ g; omega), h3, h4⟩
theorem Owned.cat {mid mid' : Nat} {a b : Sh} {ca cb : List Value} {da : Dat a} {db : Dat b} (h1 : Owned w lo mid a ca da) (h2 : Owned w mid' hi b cb db) (hm : mid ≤ mid') (hl : lo ≤ mid') (hh : mid ≤ hi) : Owned w lo hi (.cat a b) (ca ++ cb) (da, db) := by
 obtain ⟨F, h1, n1, b1⟩ := h1
 obtain ⟨G, h2, n2, b2⟩ := h2
 refine ⟨F ++ G, ⟨ca, cb, F, G, rfl, rfl, h1, h2⟩, List.nodup_append.2 ⟨n1, n2, fun x hx y hy e => ?_⟩, fun k hk => ?_⟩
 ·have := b1 x hx; have := b2 y hy; omega
 ·rcases List.mem_append.1 hk with hk | hk
  ·have := b1 k hk; omega
  ·have := b2 k hk; omega
end
abbrev sI : Sh := .row 2 .num
section
variable {w w' : World} {B : Nat}
theorem rd_ints {v : Value} {xs : List Int} : Rd w B sI [v] xs ↔ ∃ A n c, v = .slice A n c ∧ Seg w B A n xs ∧ Cap A n c := by
 constructor
 ·rintro ⟨A, n, c, e, hc, hl, h⟩
  refine ⟨A, n, c, by injection e, ⟨hl, fun hn => ?_⟩, hc⟩
  obtain ⟨b, off, e2, hb, h2⟩ := h hn
  refine ⟨b, off, e2, hb, fun j hj => ?_⟩
  obtain ⟨es, he, hp, hr⟩ := h2 j hj
  have hr : es = [.int .i64 (xs.getD j 0)] := hr
  have := hp 0 (by rw [hr]; simp)
  rw [hr] at this
  simpa [nc] using this
 ·rintro ⟨A, n, c, rfl, h, hc⟩
  refine ⟨A, n, c, rfl, hc, h.1, fun hn => ?_⟩
  obtain ⟨b, off, e2, hb, h2⟩ := h.2 hn
  refine ⟨b, off, e2, hb, fun j hj => ⟨[.int .i64 (xs.getD j 0)], rfl, fun i hi => ?_, rfl⟩⟩
  have hi : i = 0 := by simpa using hi
  subst hi
  first | (simp [nc]; done) | (simpa [nc] using h2 j hj)
theorem Rd.seg {A : Option Addr} {n c : Nat} {xs : List Int} (h : Rd w B sI [.slice A n c] xs) : Seg w B A n xs := by
 obtain ⟨A', n', c', e, h, _⟩ := rd_ints.1 h
 injection e with e1 e2 e3
 subst e1 e2
 exact h
theorem ow_ints {lo hi : Nat} {A : Option Addr} {n c : Nat} {xs : List Int} : Owned w lo hi sI [.slice A n c] xs ↔ Ownd w lo hi A n c xs := by
 constructor
 ·rintro ⟨F, ⟨A', n', c', e, hl, h⟩, _, hb⟩
  injection e with e
  injection e with e1 e2 e3
  subst e1 e2 e3
  rcases h with ⟨rfl, rfl, rfl, rfl⟩ | ⟨g, cur, E, G, rfl, hr, h2, h3, h4, rfl, h6⟩
  ·have hx : xs = [] := List.eq_nil_of_length_eq_zero hl
   subst hx
   exact ⟨Own.nil _ _, fun k hk => by cases hk⟩
  ·have hg := hb g (List.mem_cons_self ..)
   refine ⟨Own.of_row hr hl (by simpa [nc] using h4) h2 h3 hg.1 fun j hj => ?_, fun k hk => by have : g = k := Option.some.inj hk; omega⟩
   obtain ⟨q1, q2, q3⟩ := h6 j hj
   have q3 : E j = [.int .i64 (xs.getD j 0)] := q3.1
   have := q2 0 (by simp [nc])
   rw [q3] at this
   simpa [nc] using this
 ·rintro ⟨ho, hb⟩
  have hl := Own.len ho
  rcases own_form (n := n) (vs := xs.map (Value.int .i64)) (by rw [hl]; rw [hl] at ho; exact ho) with ⟨rfl, h1, rfl, _⟩ | ⟨g, cur, rfl, hlo, hr, h1, h2, h3, _, h5⟩
  ·subst h1
   exact ⟨[], ⟨none, 0, 0, rfl, hl.symm, .inl ⟨rfl, rfl, rfl, rfl⟩⟩, List.nodup_nil, fun k hk => by cases hk⟩
  ·have hg := hb g rfl
   refine ⟨[g], ⟨some ⟨g, 0, none⟩, n, c, rfl, hl.symm, .inr ⟨g, cur, fun j => [.int .i64 (xs.getD j 0)], fun _ => [], rfl, hr, h1, h3, by simp [nc, h2], ?_, fun j hj => ⟨rfl, fun i hi => ?_, rfl, rfl⟩⟩⟩, by simp, fun k hk => ?_⟩
   ·have : ∀ l : List Nat, l.flatMap (fun _ => ([] : List Nat)) = [] := fun l => by induction l <;> simp_all
    rw [this]
   ·have hi : i = 0 := by simpa [nc] using hi
    subst hi
    have := h5 j hj
    simp only [nc, Nat.mul_one, Nat.add_zero]
    rw [this]
    have hj' : j < xs.length := by omega
    simp [List.getD, hj']
   ·rw [List.mem_singleton.1 hk]; exact ⟨hlo, hg⟩
end
def sz : (s : Sh) → Dat s → Nat
 | .num, _ => 0
 | .bit, _ => 0
 | .row _ s, (d : List (Dat s)) => d.length + (d.map (sz s)).sum
 | .cat a b, d => sz a d.1 + sz b d.2
theorem sz_ints (xs : List Int) : sz sI xs = xs.length := by
 have : ∀ l : List Int, (l.map (sz .num)).sum = 0 := fun l => by induction l <;> simp_all [sz]
 show xs.length + (xs.map (sz .num)).sum = _
 rw [this]; rfl
end shape
end
section
namespace shape
open Go.RowKit base ints sig cursor marks app sym appAt segs segsHelp segsMark kinds
structure Only (F : List Nat) (w w' : World) : Prop where
 os : w'.os = w.os
 tape : w'.tape = w.tape
 output : w'.output = w.output
 size : w.heap.size ≤ w'.heap.size
 block : ∀ k, k < w.heap.size → k ∉ F → w'.heap[k]? = w.heap[k]?
section
variable {w w' w2 : World} {B : Nat} {s : Sh} {e : TypeId} {v : Value} {F G : List Nat}
theorem Ow.only {cs : List Value} {d : Dat s} (h : Ow w s cs d F) (ho : Only G w w') (hd : ∀ k ∈ F, k ∉ G) : Ow w' s cs d F := h.keep fun k hk => ho.block k (h.lt k hk) (hd k hk)
theorem Rd.slice {D : List (Dat s)} (h : Rd w B (.row e s) [v] D) : ∃ A c, v = .slice A D.length c ∧ Cap A D.length c := by
 obtain ⟨A, n, c, e1, hc, hl, h1⟩ := h
 injection e1 with e1
 subst hl
 exact ⟨A, c, e1, hc⟩
def Copy1 (w : World) (s : Sh) (d : Dat s) (e : Ending) (w' : World) : Prop := ∃ A n c, e = .returned (.slice A n c) ∧ Owned w' w.heap.size w'.heap.size s [.slice A n c] d ∧ Below w.heap.size w w'
def AnsSzK (w : World) (left : Int) (t : Nat) (e : Ending) (w' : World) : Prop := e = .returned (.int .i64 (if left - t < 0 then -1 else left - t)) ∧ Below w.heap.size w w'
def Yes (w : World) (e : Ending) (w' : World) : Prop := e = .returned (.bool true) ∧ Below w.heap.size w w'
theorem szK_ints (v : Value) (xs : List Int) (left : Int) (w : World) (h : Rd w w.heap.size sI [v] xs) (h0 : 0 ≤ left) (h1 : left ≤ 1048576) :
  Calls Try.prog 83 #[v, .int .i64 left] w (AnsSzK w left (sz sI xs)) := by
 obtain ⟨A, n, c, rfl, hs, hc⟩ := rd_ints.1 h
 rw [sz_ints, hs.1]
 exact (szInts A n c left w (Nat.le_trans hc.1 hc.2.1) h0 h1).mono fun _ _ ⟨e1, e2⟩ => ⟨e2, e1 ▸ Below.refl _ _⟩
theorem toK_ints (v : Value) (xs : List Int) (w : World) (h : Rd w w.heap.size sI [v] xs) (hz : sz sI xs ≤ 1048576) :
  Calls Try.prog 43 #[v] w (Copy1 w sI xs) := by
 obtain ⟨A, n, c, rfl, hs, hc⟩ := rd_ints.1 h
 rw [sz_ints, hs.1] at hz
 exact (intsTo A n c xs w hs hz).mono fun _ _ ⟨g, e, ho, _, hb⟩ => ⟨_, _, _, e, ow_ints.2 ho, hb⟩
theorem eqK_ints (v v' : Value) (xs : List Int) (w : World) (h : Rd w w.heap.size sI [v] xs) (h' : Rd w w.heap.size sI [v'] xs) (hz : sz sI xs ≤ 1048576) :
  Calls Try.prog 44 #[v, v'] w (Yes w) := by
 obtain ⟨A, n, c, rfl, hs, hc⟩ := rd_ints.1 h
 obtain ⟨A', n', c', rfl, hs', hc'⟩ := rd_ints.1 h'
 rw [sz_ints, hs.1] at hz
 exact intsEq A A' n n' c c' xs w hs hs' hz
end
section
variable {s : Sh} {e : TypeId}
end
theorem Rd.split {w : World} {B : Nat} {a b : Sh} {ca cb : List Value} {d : Dat (.cat a b)} (h : Rd w B (.cat a b) (ca ++ cb) d) (hl : ca.length = nc a) : Rd w B a ca d.1 ∧ Rd w B b cb d.2 := by
 obtain ⟨ca', cb', e, h1, h2⟩ := h
 obtain ⟨rfl, rfl⟩ := List.append_inj e (by rw [hl, h1.len])
 exact ⟨h1, h2⟩
theorem Ow.split {w : World} {a b : Sh} {ca cb : List Value} {d : Dat (.cat a b)} {F : List Nat} (h : Ow w (.cat a b) (ca ++ cb) d F) (hl : ca.length = nc a) : ∃ Fa Fb, F = Fa ++ Fb ∧ Ow w a ca d.1 Fa ∧ Ow w b cb d.2 Fb := by
 obtain ⟨ca', cb', Fa, Fb, e, e2, h1, h2⟩ := h
 obtain ⟨rfl, rfl⟩ := List.append_inj e (by rw [hl, h1.len])
 exact ⟨Fa, Fb, e2, h1, h2⟩
theorem Row.only {w w' : World} {g : Nat} {t : TypeId} {cs : Array Value} {F : List Nat} (h : Row w g t cs) (ho : Only F w w') (hg : g ∉ F) : Row w' g t cs := (ho.block g h.lt hg).trans h
section
variable {s : Sh} {e : TypeId}
end
structure CpS (w : World) (tL tI : TypeId) (cs zs part : Array Value) (wr : World) : Prop where
 box : Row wr w.heap.size tL cs
 res : Row wr (w.heap.size + 1) tI zs
 cur : Row wr (w.heap.size + 1 + 1) tI part
 bel : Below w.heap.size w wr
 size : w.heap.size + 1 + 1 + 1 ≤ wr.heap.size
section
variable {w wr w1 : World} {tL tI : TypeId} {cs zs part : Array Value}
theorem CpS.zero (w : World) (tL tI : TypeId) (cs zs : Array Value) : CpS w tL tI cs zs zs (((w.alloc (.cells cs tL)).alloc (.cells zs tI)).alloc (.cells zs tI)) where
 box := by have := ((Row.new w tL cs).alloc (.cells zs tI)).alloc (.cells zs tI); simpa using this
 res := by have := (Row.new (w.alloc (.cells cs tL)) tI zs).alloc (.cells zs tI); simpa using this
 cur := by have := Row.new ((w.alloc (.cells cs tL)).alloc (.cells zs tI)) tI zs; simpa using this
 bel := (((Below.refl _ _).alloc (Nat.le_refl _) _).alloc (by simp) _).alloc (by simp; omega) _
 size := by simp
theorem CpS.next (h : CpS w tL tI cs zs part wr) (bb : Below wr.heap.size wr w1) : CpS w tL tI cs zs part w1 :=
 ⟨h.box.next bb, h.res.next bb, h.cur.next bb, h.bel.trans (bb.mono h.bel.size), Nat.le_trans h.size bb.size⟩
theorem CpS.put (h : CpS w tL tI cs zs part wr) (i : Nat) (u : Value) : CpS w tL tI cs zs (part.setIfInBounds i u) (wr.setCell ⟨w.heap.size + 1 + 1, i, none⟩ u) :=
 ⟨h.box.far (by show _ ≠ w.heap.size + 1 + 1; omega) _, h.res.far (by show _ ≠ w.heap.size + 1 + 1; omega) _, h.cur.put i u, h.bel.setCell (by show _ ≤ w.heap.size + 1 + 1; omega) _, by simpa using h.size⟩
theorem CpS.fin (h : CpS w tL tI cs zs part wr) (i : Nat) (u : Value) : CpS w tL tI cs (zs.setIfInBounds i u) part (wr.setCell ⟨w.heap.size + 1, i, none⟩ u) :=
 ⟨h.box.far (by show _ ≠ w.heap.size + 1; omega) _, h.res.put i u, h.cur.far (by show _ ≠ w.heap.size + 1; omega) _, h.bel.setCell (by show _ ≤ w.heap.size + 1; omega) _, by simpa using h.size⟩
end
end shape
end
section
open Go.Lib (hid)
namespace kindsR
open Go.RowKit base ints sig cursor marks app sym appAt segs segsHelp segsMark kinds shape
set_option maxRecDepth 100000
abbrev sSig : Sh := sI
theorem cells_Sig {w : World} {B : Nat} {es : List Value} {d : Dat sSig} (h : Rd w B sSig es d) : ∃ (v0 : Value), es = [v0] := by
 obtain ⟨A0, n0, c0, z0, -⟩ := h
 exact ⟨.slice A0 n0 c0, by rw [z0] <;> rfl⟩
set_option maxHeartbeats 2000000 in
theorem szK_Sig (v0 : Value) (d : Dat sSig) (left : Int) (w : World) (h : Rd w w.heap.size sSig [v0] d) (h0 : 0 ≤ left) (h1 : left ≤ 1048576) :
  Calls Try.prog 35 #[.agg #[v0], .int .i64 left] w (AnsSzK w left (sz sSig d)) := by
 have g0 := h
 obtain ⟨t0, ht0⟩ : ∃ t, sz sI d = t := ⟨_, rfl⟩
 have HE : Hid (sz sSig d = t0) := hid (by rw [← ht0]; try rfl)
 have HT0 := hid ht0
 have G0 := hid g0
 obtain ⟨W, hW⟩ : ∃ W, W = w.alloc (.cells #[v0] 58) := ⟨_, rfl⟩
 have r : Row W w.heap.size 58 #[v0] := by rw [hW]; exact Row.new _ _ _
 have bel : Below w.heap.size w W := by rw [hW]; exact (Below.refl _ _).alloc (Nat.le_refl _) _
 have HW := hid hW
 clear hW h g0 ht0
 go_enter Try.func35, Try.ntmps35
 go_wp2_with fail
 rw [← HW.out]
 refine (szK_ints _ _ left W (G0.out.next bel) h0 h1).mono ?_
 rintro e w1 ⟨he, bb⟩
 rw [HT0.out] at he
 replace r := r.next bb
 replace bel := next_trans bel bb
 clear bb
 by_cases q0 : left - (t0 : Int) < 0
 ·rw [if_pos q0] at he
  subst he
  have F : AnsSzK w left (sz sSig d) (.returned (.int .i64 (-1))) w1 := ⟨by rw [HE.out, if_pos (by omega)], bel⟩
  have HF := hid F
  clear F bel r
  go_wp2
  go_ret
  exact HF.out
 rw [if_neg q0] at he
 obtain ⟨l0, hl0⟩ : ∃ l, left - (t0 : Int) = l := ⟨_, rfl⟩
 rw [hl0] at he
 have a0 : 0 ≤ l0 := by omega
 have b0 : l0 ≤ 1048576 := by omega
 have HL0 := hid hl0
 clear hl0 q0
 subst he
 have F : AnsSzK w left (sz sSig d) (.returned (.int .i64 l0)) w1 := ⟨by have := HL0.out; rw [HE.out, if_neg (by omega)]; exact congrArg (fun z => Ending.returned (.int .i64 z)) (by omega), bel⟩
 have HF := hid F
 clear F bel r
 go_wp2
 go_ret
 exact HF.out
def CopySig (w : World) (d : Dat sSig) (e : Ending) (w' : World) : Prop := ∃ A0 n0 c0, e = .returned (.agg #[.slice A0 n0 c0]) ∧ Owned w' w.heap.size w'.heap.size sSig [.slice A0 n0 c0] d ∧ Below w.heap.size w w'
set_option maxHeartbeats 2000000 in
theorem toK_Sig (v0 : Value) (d : Dat sSig) (w : World) (h : Rd w w.heap.size sSig [v0] d) (hz : sz sSig d ≤ 1048576) :
  Calls Try.prog 38 #[.agg #[v0]] w (CopySig w d) := by
 have g0 := h
 have cp0 := CpS.zero w 58 29 #[v0] #[.slice none 0 0]
 obtain ⟨W, hW⟩ : ∃ W, W = ((w.alloc (.cells #[v0] 58)).alloc (.cells #[.slice none 0 0] 29)).alloc (.cells #[.slice none 0 0] 29) := ⟨_, rfl⟩
 rw [← hW] at cp0
 have HW := hid hW
 have G0 := hid g0
 have Z0 : Hid (sz sI d ≤ 1048576) := hid (hz)
 clear hW hz h g0
 go_enter Try.func38, Try.ntmps38
 go_wp2_with fail
 rw [← HW.out]
 refine (toK_ints _ _ _ ((G0.out.below cp0.bel).more cp0.bel.size) Z0.out).mono ?_
 rintro e w1 ⟨x0A0, x0n0, x0c0, rfl, o0, bb⟩
 have zb0 := bb.size
 have zc0 := cp0.size
 replace cp0 := cp0.next bb
 clear bb
 have f0_0 : w1.frozen? ⟨w.heap.size + 1 + 1, 0, none⟩ = false := cp0.cur.free 0
 have k0_0 : w1.cell? ⟨w.heap.size + 1 + 1, 0, none⟩ = some (.slice none 0 0) := cp0.cur.cell 0
 obtain ⟨w2, hw0⟩ : ∃ x, x = (w1.setCell ⟨w.heap.size + 1 + 1, 0, none⟩ (.slice x0A0 x0n0 x0c0)) := ⟨_, rfl⟩
 replace o0 := o0.put (g := w.heap.size + 1 + 1) (i := 0) (u := .slice x0A0 x0n0 x0c0) (by omega)
 rw [← hw0] at o0
 replace cp0 : CpS w 58 29 #[v0] #[.slice none 0 0] #[.slice x0A0 x0n0 x0c0] w2 := by rw [hw0]; exact (CpS.put cp0 0 (.slice x0A0 x0n0 x0c0))
 have zw0 : w2.heap.size = w1.heap.size := by rw [hw0]; simp
 have HW0 := hid hw0
 clear hw0
 have y0 : w2.cell? ⟨w.heap.size + 1 + 1, 0, none⟩ = some (.slice x0A0 x0n0 x0c0) := cp0.cur.cell 0
 rw [HW0.out] at y0
 have s0 : (w2).cell? ⟨w.heap.size + 1, 0, none⟩ = some (.slice none 0 0) := cp0.res.cell 0
 rw [HW0.out] at s0
 have r0 : (w2).frozen? ⟨w.heap.size + 1, 0, none⟩ = false := cp0.res.free 0
 rw [HW0.out] at r0
 have oo : Owned w2 (w.heap.size + 1 + 1 + 1) w2.heap.size sSig [.slice x0A0 x0n0 x0c0] d := o0.wider (by omega) (by omega)
 have F : CopySig w d (.returned (.agg #[.slice x0A0 x0n0 x0c0])) (w2.setCell ⟨w.heap.size + 1, 0, none⟩ (.slice x0A0 x0n0 x0c0)) := ⟨x0A0, x0n0, x0c0, rfl, Owned.wider ((oo.put (g := w.heap.size + 1) (i := 0) (u := .slice x0A0 x0n0 x0c0) (by omega))) (by omega) (by simp), ((CpS.fin cp0 0 (.slice x0A0 x0n0 x0c0))).bel⟩
 have u0 : ((w2.setCell ⟨w.heap.size + 1, 0, none⟩ (.slice x0A0 x0n0 x0c0))).cell? ⟨w.heap.size + 1, 0, none⟩ = some (.slice x0A0 x0n0 x0c0) := (CpS.fin cp0 0 (.slice x0A0 x0n0 x0c0)).res.cell 0
 rw [HW0.out] at u0
 rw [HW0.out] at F
 have HF := hid F
 clear F oo cp0 o0
 go_wp2
 exact bodyPost_ret (v := .agg #[.slice x0A0 x0n0 x0c0]) (by simp [results, Try.results38, go_sem, u0]) rfl HF.out
set_option maxHeartbeats 2000000 in
theorem eqK_Sig (v0 u0 : Value) (d : Dat sSig) (w : World) (h : Rd w w.heap.size sSig [v0] d) (h' : Rd w w.heap.size sSig [u0] d) (hz : sz sSig d ≤ 1048576) :
  Calls Try.prog 40 #[.agg #[v0], .agg #[u0]] w (Yes w) := by
 have g0 := h
 have g0' := h'
 obtain ⟨W, hW⟩ : ∃ W, W = (w.alloc (.cells #[v0] 29)).alloc (.cells #[u0] 29) := ⟨_, rfl⟩
 have ra : Row W w.heap.size 29 #[v0] := by rw [hW]; exact (Row.new w 29 #[v0]).alloc _
 have rb : Row W (w.heap.size + 1) 29 #[u0] := by rw [hW]; have := Row.new (w.alloc (.cells #[v0] 29)) 29 #[u0]; simpa using this
 have bel : Below w.heap.size w W := by rw [hW]; exact ((Below.refl _ _).alloc (Nat.le_refl _) _).alloc (by simp) _
 have HW := hid hW
 have G0 := hid g0
 have G0' := hid g0'
 have Z0 : Hid (sz sI d ≤ 1048576) := hid (hz)
 clear hW hz h h' g0 g0'
 go_enter Try.func40, Try.ntmps40
 go_wp2_with fail
 rw [← HW.out]
 refine (eqK_ints _ _ _ W (G0.out.next bel) (G0'.out.next bel) Z0.out).mono ?_
 rintro e w1 ⟨rfl, bb⟩
 replace ra := ra.next bb
 replace rb := rb.next bb
 replace bel := next_trans bel bb
 clear bb
 have F : Yes w (.returned (.bool true)) w1 := ⟨rfl, bel⟩
 have HF := hid F
 clear F ra rb bel
 go_wp2
 go_ret
 exact HF.out
end kindsR
end
section
open Go.Lib (hid)
namespace rename
open Go.RowKit base ints sig term termOk marks app sym segs termFacts varsMath varsOf renMath
set_option maxRecDepth 100000
theorem mem_of_get {t : List Int} {k : Nat} {x : Int} (hk : k < t.length) (hx : t.getD k 0 = x) : x ∈ t := by
 rw [← hx]
 simp [List.getD, hk]
theorem not_mem_of {t : List Int} {x : Int} (h : ∀ j, j < t.length → t.getD j 0 ≠ x) : x ∉ t := fun hx => by
 obtain ⟨j, hj, e⟩ := List.getElem_of_mem hx
 exact h j hj (by simp [List.getD, hj, e])
def HeadNo (n : Nat) (xs : List Int) (x : Int) (i : Value) : Prop := ∃ k : Nat, k ≤ n ∧ i = .int .i64 k ∧ ∀ j, j < k → xs.getD j 0 ≠ x
theorem headNo_step {n k : Nat} {xs : List Int} {x y : Int} (hk : k < n) (h : ∀ j, j < k → xs.getD j 0 ≠ x) (hy : Hid (xs.getD k 0 = y)) (hne : ¬ y = x) : HeadNo n xs x (.int .i64 ((k : Int) + 1)) :=
 ⟨k + 1, hk, by simp, fun j hj => by
  by_cases e : j = k
  ·subst e; rw [hy.out]; exact hne
  ·exact h j (by omega)⟩
set_option maxHeartbeats 1000000 in
theorem l1Has (A : Option Addr) (n c : Nat) (xs : List Int) (x : Int) (w : World) (h : Seg w w.heap.size A n xs) (hn : n ≤ 1048576) :
  Calls Try.prog 106 #[.slice A n c, .int .i64 x] w fun e w' => w = w' ∧ e = .returned (.bool (decide (x ∈ xs))) := by
 have HX := hid h.1
 go_enter Try.func106, Try.ntmps106
 go_wp2
 go_loop [5] (fun i => HeadNo n xs x i) (fun i => n - (intOf i).toNat)
 case atStart => exact ⟨0, Nat.zero_le _, rfl, fun j hj => absurd hj (Nat.not_lt_zero _)⟩
 case round =>
  obtain ⟨k, hk, rfl, hlow⟩ := hrel
  by_cases hlt : k < n
  ·obtain ⟨b, off, y, rfl, -, hy, ey⟩ := h.spot hlt
   by_cases he : y = x
   ·subst he
    have F := hid (show y ∈ xs from mem_of_get (by rw [HX.out]; exact hlt) ey.out)
    have e1 : (y == y) = true := by simp
    clear h ey hlow
    go_wp2
    go_ret
    exact ⟨rfl, by rw [decide_eq_true F.out]; rfl⟩
   ·have S := hid (headNo_step hlt hlow ey he)
    have e1 : (y == x) = false := by simp [he]
    clear h ey hlow
    go_wp2
    go_round
    case rel => exact S.out
    case measure => simp [intOf]; omega
  ·have F := hid (not_mem_of (t := xs) (x := x) (fun j hj => hlow j (by rw [HX.out] at hj; omega)))
   clear h hlow
   go_wp2
   go_ret
   exact ⟨rfl, by rw [decide_eq_false F.out]; rfl⟩
def indexI (xs : List Int) (x : Int) : Int := if x ∈ xs then (idx xs x : Int) else -1
set_option maxHeartbeats 1000000 in
theorem indexOf (A : Option Addr) (n c : Nat) (xs : List Int) (x : Int) (w : World) (h : Seg w w.heap.size A n xs) (hn : n ≤ 1048576) :
  Calls Try.prog 167 #[.slice A n c, .int .i64 x] w fun e w' => w = w' ∧ e = .returned (.int .i64 (indexI xs x)) := by
 have HX := hid h.1
 go_enter Try.func167, Try.ntmps167
 go_wp2
 go_loop [8] (fun i => HeadNo n xs x i) (fun i => n - (intOf i).toNat)
 case atStart => exact ⟨0, Nat.zero_le _, rfl, fun j hj => absurd hj (Nat.not_lt_zero _)⟩
 case round =>
  obtain ⟨k, hk, rfl, hlow⟩ := hrel
  by_cases hlt : k < n
  ·obtain ⟨b, off, y, rfl, -, hy, ey⟩ := h.spot hlt
   by_cases he : y = x
   ·subst he
    have F := hid (show indexI xs y = (k : Int) by
     have hkl : k < xs.length := by rw [HX.out]; exact hlt
     unfold indexI
     rw [if_pos (mem_of_get hkl ey.out), idx_first hkl hlow ey.out])
    have e1 : (y == y) = true := by simp
    clear h ey hlow
    go_wp2
    go_ret
    exact ⟨rfl, by rw [F.out]; rfl⟩
   ·have S := hid (headNo_step hlt hlow ey he)
    have e1 : (x == y) = false := by simp; exact fun e => he e.symm
    clear h ey hlow
    go_wp2
    go_round
    case rel => exact S.out
    case measure => simp [intOf]; omega
  ·have F := hid (show indexI xs x = -1 by unfold indexI; rw [if_neg (not_mem_of (fun j hj => hlow j (by rw [HX.out] at hj; omega)))])
   clear h hlow
   go_wp2
   go_ret
   exact ⟨rfl, by rw [F.out]; rfl⟩
end rename
end
section
namespace same
open Go.RowKit base ints
end same
end
section
namespace ruleSpec
open Go.RowKit renMath base ints sig term termOk marks app sym segs termFacts varsMath varsOf rename same count linear shape kindsR ruleMath
set_option maxRecDepth 100000
theorem box1 (w : World) (t : TypeId) (cs : Array Value) : ∃ W, W = w.alloc (.cells cs t) ∧ Row W w.heap.size t cs ∧ Below w.heap.size w W :=
 ⟨_, rfl, Row.new _ _ _, (Below.refl _ _).alloc (Nat.le_refl _) _⟩
theorem box2 (w : World) (t t' : TypeId) (cs cs' : Array Value) : ∃ W, W = (w.alloc (.cells cs t)).alloc (.cells cs' t') ∧ Row W w.heap.size t cs ∧ Row W (w.heap.size + 1) t' cs' ∧ Below w.heap.size w W := by
 refine ⟨_, rfl, ?_, ?_, ?_⟩
 ·have := (Row.new w t cs).alloc (.cells cs' t'); simpa using this
 ·have := Row.new (w.alloc (.cells cs t)) t' cs'; simpa using this
 ·exact ((Below.refl _ _).alloc (Nat.le_refl _) _).alloc (by simp) _
end ruleSpec
end
section
namespace anyR
open Go.RowKit base ints sig segs varsOf shape kindsR ruleMath
set_option maxRecDepth 100000
end anyR
end
section
namespace ruleImpl
open Go.RowKit base ints sig term termOk marks app sym segs termFacts varsMath varsOf rename same count linear shape kindsR ruleMath ruleSpec anyR
set_option maxRecDepth 100000
theorem containsI (A : Option Addr) (n c : Nat) (xs : List Int) (x : Int) (w : World) (h : Seg w w.heap.size A n xs) (hn : n ≤ 1048576) :
  Calls Try.prog 152 #[.slice A n c, .int .i64 x] w fun e w' => w = w' ∧ e = .returned (.bool (decide (x ∈ xs))) := by
 have L := Lib.hid (indexOf A n c xs x w h hn)
 clear h
 go_enter Try.func152, Try.ntmps152
 go_wp2_with fail
 refine L.out.mono ?_
 rintro e w' ⟨rfl, rfl⟩
 have E : decide (0 ≤ indexI xs x) = decide (x ∈ xs) := decide_eq_decide.2 (by unfold indexI; split <;> simp_all)
 have HE := Lib.hid E
 clear L E
 generalize indexI xs x = z at *
 go_wp2
 go_ret
 exact ⟨rfl, by rw [← HE.out]; rfl⟩
end ruleImpl
end
section
open Go.Lib (hid)
namespace rankSpec
open Go.RowKit base ints sig term rankMath shape kindsR ruleMath ruleSpec ruleImpl
set_option maxRecDepth 100000
def precB (sg rk : List Int) : Bool := sigOkB sg && rankB sg.length rk
theorem prec_sig {sg rk : List Int} (h : sigOkB sg = false) : precB sg rk = false := by unfold precB; rw [h]; rfl
theorem prec_rank {sg rk : List Int} (h : rankB sg.length rk = false) : precB sg rk = false := by unfold precB; rw [h, Bool.and_false]
theorem prec_yes {sg rk : List Int} (h : sigOkB sg = true) (h2 : rankB sg.length rk = true) : precB sg rk = true := by unfold precB; rw [h, h2]; rfl
theorem prec_parts {sg rk : List Int} (h : precB sg rk = true) : sigOkB sg = true ∧ rankB sg.length rk = true := by unfold precB at h; rwa [Bool.and_eq_true] at h
def AnsRank (w : World) (sg rk : List Int) (e : Ending) (w' : World) : Prop := e = .returned (.bool (precB sg rk)) ∧ Below w.heap.size w w'
set_option maxHeartbeats 4000000 in
theorem specRankOk (A A' : Option Addr) (n c m c' : Nat) (sg rk : List Int) (w : World) (h : Seg w w.heap.size A n sg) (h' : Seg w w.heap.size A' m rk) (hn : n ≤ 1048576) (hm : m ≤ 1048576) :
  Calls Try.prog 84 #[.agg #[.slice A n c], .slice A' m c'] w (AnsRank w sg rk) := by
 have HL := hid (And.intro h.1 h'.1)
 obtain ⟨W, hW, rA, bel⟩ := box1 w 29 #[.slice A n c]
 have k0 : W.cell? ⟨w.heap.size, 0, none⟩ = some (.slice A n c) := rA.cell 0
 rw [hW] at k0
 have HW := hid hW
 have L1 := hid (specSigOk A n c sg W ((h.below bel).more bel.size) hn)
 have SR := hid (fun (w1 : World) (bb : Below w.heap.size w w1) => (h'.below bb).more bb.size)
 obtain ⟨bs, hbs⟩ : ∃ b, sigOkB sg = b := ⟨_, rfl⟩
 have HS := hid hbs
 clear hW h h' hbs
 go_enter Try.func84, Try.ntmps84
 go_wp2_with fail
 rw [← HW.out]
 refine L1.out.mono ?_
 rintro e w1 ⟨he, bb⟩
 rw [HS.out] at he
 subst he
 replace bel := next_trans bel bb
 replace rA := rA.next bb
 clear k0 L1 bb HW
 cases bs with
 | false =>
  have F := hid (show AnsRank w sg rk (.returned (.bool false)) w1 from ⟨by rw [prec_sig HS.out], bel⟩)
  clear bel rA
  go_wp2
  go_ret
  exact F.out
 | true =>
  have k0 : w1.cell? ⟨w.heap.size, 0, none⟩ = some (.slice A n c) := rA.cell 0
  by_cases hmn : m = n
  ·subst hmn
   have S0 := hid bel
   clear bel rA
   go_wp2_with fail
   go_loopg [5] m (fun g i wr => ∃ j : Nat, i = .int .i64 (j : Int) ∧ j + g = m ∧ (∀ k : Nat, k < j → (0 ≤ rk.getD k 0 ∧ rk.getD k 0 ≤ (rk.length : Int) - 1) ∧ ∀ l : Nat, l < k → ¬ rk.getD l 0 = rk.getD k 0) ∧ Below w.heap.size w wr)
   case atStart => exact ⟨0, rfl, by omega, (fun k hk => absurd hk (Nat.not_lt_zero _)), S0.out⟩
   case round =>
    clear S0 k0
    obtain ⟨j, rfl, hj, hall, bel⟩ := hrel
    obtain ⟨G, hG⟩ : ∃ G, G = gk := ⟨_, rfl⟩
    subst hG
    have HA := hid hall
    clear hall
    by_cases hlt : j < m
    ·obtain ⟨b, off, x, rfl, hbB, hx, ex⟩ := (SR.out wr bel).spot hlt
     have HB := hid bel
     have i0 : (0 : Int) ≤ (j : Int) := by omega
     have i1 : (j : Int) < (m : Int) := by omega
     have HJ := hid hj
     clear bel hj
     by_cases hin : 0 ≤ x ∧ x ≤ (m : Int) - 1
     ·have HI := hid hin
      clear hin
      go_wp2_with (first
       | (go_at_call 85; refine (inYes _ _ _ _ HI.out).mono ?_; rintro e w2 ⟨rfl, rfl⟩))
      clear hx
      go_loopg [6] j (fun g i W2 => ∃ k : Nat, i = .int .i64 (k : Int) ∧ k + g = j ∧ (∀ l : Nat, l < k → ¬ rk.getD l 0 = rk.getD j 0) ∧ Below w.heap.size w W2)
      case atStart => exact ⟨0, rfl, by omega, (fun l hl => absurd hl (Nat.not_lt_zero _)), HB.out⟩
      case round =>
       clear HB
       obtain ⟨k, rfl, hkj, hlow, bel⟩ := hrel
       have HLOW := hid hlow
       clear hlow
       obtain ⟨b', off', x', e', hbB', hx', ex'⟩ := (SR.out _ bel).spot hlt
       injection e' with e'
       injection e' with e1 e2
       subst e1 e2
       have exx : x' = x := by rw [← ex'.out, ← ex.out]
       subst exx
       by_cases hk : k < j
       ·obtain ⟨b2, off2, y, e2, -, hy, ey⟩ := (SR.out _ bel).spot (show k < m by omega)
        injection e2 with e2
        injection e2 with e21 e22
        subst e21 e22
        have HB := hid bel
        have HK := hid hkj
        have q0 : (0 : Int) ≤ (k : Int) := by omega
        have q1 : (k : Int) < (m : Int) := by omega
        have q2 : (k : Int) < (j : Int) := by omega
        clear hkj bel
        by_cases hxy : y = x'
        ·subst hxy
         have F := hid (fun dd => (show AnsRank w sg rk (.returned (.bool false)) (wr.drewN dd) from ⟨by rw [prec_rank (rank_twice (i := j) (k := k) (by rw [HL.out.2]; exact hlt) hk (by rw [ey.out, ex.out]))], below_drewN HB.out dd⟩))
         go_wp2_with fail
         go_quiet (fail)
         go_wp2
         go_ret
         exact F.out _
        ·have S2 := hid (show ∀ l : Nat, l < k + 1 → ¬ rk.getD l 0 = rk.getD j 0 from fun l hl => by
          by_cases e : l = k
          ·rw [e, ey.out, ex.out]; exact hxy
          ·exact HLOW.out l (by omega))
         have S3 := hid (fun dd => below_drewN HB.out dd)
         have e9 : (y == x') = false := by simp [hxy]
         go_wp2_with fail
         go_quiet (fail)
         go_wp2
         go_roundg (gk - 1)
         case measure => have := HK.out; omega
         case rel => exact ⟨k + 1, by simp, by have := HK.out; omega, S2.out, S3.out _⟩
       ·have hkj' : k = j := by omega
        subst hkj'
        have HB := hid bel
        clear bel
        have S1 := hid (show ∀ k' : Nat, k' < k + 1 → (0 ≤ rk.getD k' 0 ∧ rk.getD k' 0 ≤ (rk.length : Int) - 1) ∧ ∀ l : Nat, l < k' → ¬ rk.getD l 0 = rk.getD k' 0 from fun k' hk' => by
         by_cases e : k' = k
         ·rw [e]
          refine ⟨?_, HLOW.out⟩
          rw [ex.out, HL.out.2]
          exact HI.out
         ·exact HA.out k' (by omega))
        go_wp2
        go_roundg (G - 1)
        case measure => have := HJ.out; omega
        case rel => exact ⟨k + 1, by simp, by have := HJ.out; omega, S1.out, HB.out⟩
     ·have F := hid (show AnsRank w sg rk (.returned (.bool false)) wr from ⟨by rw [prec_rank (rank_out (i := j) (by rw [HL.out.2]; exact hlt) (by rw [ex.out, HL.out.2]; exact hin))], HB.out⟩)
      have HI := hid hin
      clear hin
      go_wp2_with (first
       | (go_at_call 85; refine (inNo _ _ _ _ HI.out).mono ?_; rintro e w2 ⟨rfl, rfl⟩))
      go_wp2
      go_ret
      exact F.out
    ·have F := hid (show AnsRank w sg rk (.returned (.bool true)) wr from ⟨by rw [prec_yes HS.out (rank_spec (by rw [HL.out.1, HL.out.2]) (fun i hi => (HA.out i (by rw [HL.out.2] at hi; omega)).1) fun i k hi hk => (HA.out i (by rw [HL.out.2] at hi; omega)).2 k hk)], bel⟩)
     clear bel
     go_wp2
     go_ret
     exact F.out
  ·have F := hid (show AnsRank w sg rk (.returned (.bool false)) w1 from ⟨by rw [prec_rank (rank_len (by rw [HL.out.1, HL.out.2]; exact hmn))], bel⟩)
   have hne : ¬ (m : Int) = (n : Int) := by omega
   clear bel rA
   go_wp2
   go_ret
   exact F.out
set_option maxHeartbeats 2000000 in
theorem implRankOk (A A' : Option Addr) (n c m c' : Nat) (sg rk : List Int) (w : World) (h : Seg w w.heap.size A n sg) (h' : Seg w w.heap.size A' m rk) (hn : n ≤ 1048576) (hm : m ≤ 1048576) :
  Calls Try.prog 140 #[.agg #[.slice A n c], .slice A' m c'] w (AnsRank w sg rk) := by
 have HL := hid (And.intro h.1 h'.1)
 obtain ⟨W, hW, rA, bel⟩ := box1 w 29 #[.slice A n c]
 have k0 : W.cell? ⟨w.heap.size, 0, none⟩ = some (.slice A n c) := rA.cell 0
 rw [hW] at k0
 have HW := hid hW
 have L1 := hid (implSigOk A n c sg W ((h.below bel).more bel.size) hn)
 have L2 := hid (fun (w1 : World) (bb : Below w.heap.size w w1) (x : Int) => containsI A' m c' rk x w1 ((h'.below bb).more bb.size) hm)
 obtain ⟨bs, hbs⟩ : ∃ b, sigOkB sg = b := ⟨_, rfl⟩
 have HS := hid hbs
 clear hW h h' hbs
 go_enter Try.func140, Try.ntmps140
 go_wp2_with fail
 rw [← HW.out]
 refine L1.out.mono ?_
 rintro e w1 ⟨he, bb⟩
 rw [HS.out] at he
 subst he
 replace bel := next_trans bel bb
 replace rA := rA.next bb
 clear k0 L1 bb HW
 cases bs with
 | false =>
  have F := hid (show AnsRank w sg rk (.returned (.bool false)) w1 from ⟨by rw [prec_sig HS.out], bel⟩)
  clear bel rA
  go_wp2
  go_ret
  exact F.out
 | true =>
  have k0 : w1.cell? ⟨w.heap.size, 0, none⟩ = some (.slice A n c) := rA.cell 0
  by_cases hmn : m = n
  ·subst hmn
   have S0 := hid bel
   clear bel rA
   go_wp2_with fail
   go_loopw [19] (fun i wr => ∃ j : Nat, i = .int .i64 (j : Int) ∧ j ≤ m ∧ (∀ k : Nat, k < j → (k : Int) ∈ rk) ∧ Below w.heap.size w wr) (fun i _ => m - (intOf i).toNat)
   case atStart => exact ⟨0, rfl, Nat.zero_le _, (fun k hk => absurd hk (Nat.not_lt_zero _)), S0.out⟩
   case round =>
    clear S0 k0
    obtain ⟨j, rfl, hj, hall, bel⟩ := hrel
    have HA := hid hall
    clear hall
    by_cases hlt : j < m
    ·have LL := hid (L2.out wr bel (j : Int))
     have HB := hid bel
     have i0 : (0 : Int) ≤ (j : Int) := by omega
     have i1 : (j : Int) < (m : Int) := by omega
     clear bel
     by_cases hin : (j : Int) ∈ rk
     ·have S1 := hid (show ∀ k : Nat, k < j + 1 → (k : Int) ∈ rk from fun k hk => by
       by_cases e : k = j
       ·rw [e]; exact hin
       ·exact HA.out k (by omega))
      have e1 : decide ((j : Int) ∈ rk) = true := decide_eq_true hin
      rw [e1] at LL
      clear e1 hin
      go_wp2_with (first
       | (go_at_call 152; refine LL.out.mono ?_; rintro e w2 ⟨rfl, rfl⟩))
      go_wp2
      go_roundw
      case rel => exact ⟨j + 1, by simp, hlt, S1.out, HB.out⟩
      case measure => simp [intOf]; omega
     ·have F := hid (show AnsRank w sg rk (.returned (.bool false)) wr from ⟨by rw [prec_rank (rank_miss (k := j) (by rw [HL.out.2]; exact hlt) hin)], HB.out⟩)
      have e1 : decide ((j : Int) ∈ rk) = false := decide_eq_false hin
      rw [e1] at LL
      clear e1 hin
      go_wp2_with (first
       | (go_at_call 152; refine LL.out.mono ?_; rintro e w2 ⟨rfl, rfl⟩))
      go_wp2
      go_ret
      exact F.out
    ·have F := hid (show AnsRank w sg rk (.returned (.bool true)) wr from ⟨by rw [prec_yes HS.out (rank_yes (by rw [HL.out.1, HL.out.2]) fun k hk => HA.out k (by rw [HL.out.2] at hk; omega))], bel⟩)
     clear bel
     go_wp2
     go_ret
     exact F.out
  ·have F := hid (show AnsRank w sg rk (.returned (.bool false)) w1 from ⟨by rw [prec_rank (rank_len (by rw [HL.out.1, HL.out.2]; exact hmn))], bel⟩)
   have hne : ¬ (m : Int) = (n : Int) := by omega
   clear bel rA
   go_wp2
   go_ret
   exact F.out
end rankSpec
end
section
namespace dice
open Go.RowKit base ints cursor
def SegB (w : World) (B : Nat) (A : Option Addr) (n : Nat) : Prop :=
 0 < n → ∃ b off, A = some ⟨b, off, none⟩ ∧ b < B ∧ ∀ j, j < n → ∃ x : Int, 0 ≤ x ∧ x ≤ 255 ∧ w.cell? ⟨b, off + j, none⟩ = some (.int .u8 x)
theorem SegB.keep {w w' : World} {B : Nat} {A : Option Addr} {n : Nat} (h : SegB w B A n) (hk : ∀ p : Addr, p.block < B → w'.cell? p = w.cell? p) : SegB w' B A n := fun hn => by
 obtain ⟨b, off, e, hb, hc⟩ := h hn
 refine ⟨b, off, e, hb, fun j hj => ?_⟩
 obtain ⟨x, h0, h1, h2⟩ := hc j hj
 exact ⟨x, h0, h1, (hk ⟨b, off + j, none⟩ hb).trans h2⟩
structure DiceAt (w : World) (p : Nat) (A : Option Addr) (n c i : Nat) (h : Int) : Prop where
 row : Row w p 152 #[.slice A n c, .int .i64 i, .int .i64 h]
 le : i ≤ n
 s : SegB w p A n
 hn : n ≤ 4096
def Dice (w : World) (p : Nat) (A : Option Addr) (n c : Nat) : Prop := ∃ i h, DiceAt w p A n c i h
section
variable {w w' : World} {p : Nat} {A : Option Addr} {n c i : Nat} {h : Int}
theorem Dice.next (d : Dice w p A n c) (hb : Below w.heap.size w w') : Dice w' p A n c := by
 obtain ⟨i, h, d⟩ := d
 have hp := d.row.lt
 exact ⟨i, h, d.row.next hb, d.le, d.s.keep fun q hq => hb.cell (Nat.lt_trans hq hp), d.hn⟩
end
end dice
end
section
namespace drawSig
open Go.RowKit base ints sig cursor marks app sym dice
set_option maxRecDepth 100000
section
variable {w : World} {p : Nat} {A : Option Addr} {n c v : Nat} {wr : World} {O : Option Addr} {on oc : Nat} {xs : List Int}
end
def Short (xs : List Int) : Prop := xs.length ≤ 9
end drawSig
end
section
namespace drawTerm
open Go.RowKit base ints sig term cursor marks app sym dice drawSig
set_option maxRecDepth 100000
def Rd (w : World) (p B : Nat) (A : Option Addr) (n : Nat) (xs : List Int) : Prop :=
 xs.length = n ∧ (0 < n → ∃ b off, A = some ⟨b, off, none⟩ ∧ b < B ∧ b ≠ p ∧ ∀ j, j < n → w.cell? ⟨b, off + j, none⟩ = some (.int .i64 (xs.getD j 0)))
theorem Rd.more {w : World} {p B B' : Nat} {A : Option Addr} {n : Nat} {xs : List Int} (h : Rd w p B A n xs) (hB : B ≤ B') : Rd w p B' A n xs :=
 ⟨h.1, fun hn => by obtain ⟨b, off, e, hb, hne, hc⟩ := h.2 hn; exact ⟨b, off, e, by omega, hne, hc⟩⟩
theorem Rd.keep {w w' : World} {p B : Nat} {A : Option Addr} {n : Nat} {xs : List Int} (h : Rd w p B A n xs) (hk : ∀ q : Addr, q.block < B → q.block ≠ p → w'.cell? q = w.cell? q) : Rd w' p B A n xs :=
 ⟨h.1, fun hn => by obtain ⟨b, off, e, hb, hne, hc⟩ := h.2 hn; exact ⟨b, off, e, hb, hne, fun j hj => (hk ⟨b, off + j, none⟩ hb hne).trans (hc j hj)⟩⟩
theorem Rd.below {w w' : World} {p B B' : Nat} {A : Option Addr} {n : Nat} {xs : List Int} (h : Rd w p B A n xs) (hb : Below B' w w') (hB : B ≤ B') : Rd w' p B A n xs :=
 h.keep fun q hq _ => hb.cell (by omega)
theorem Rd.seg {w : World} {p B : Nat} {A : Option Addr} {n : Nat} {xs : List Int} (h : Rd w p B A n xs) : Seg w B A n xs :=
 ⟨h.1, fun hn => by obtain ⟨b, off, e, hb, _, hc⟩ := h.2 hn; exact ⟨b, off, e, hb, hc⟩⟩
section
variable {w : World} {p : Nat} {A : Option Addr} {n c : Nat} {S : Option Addr} {sn sc : Nat} {sg : List Int} {wr w' : World}
end
end drawTerm
end
section
namespace drawAny
open Go.RowKit base ints sig term cursor termOk marks app sym dice drawSig drawTerm
set_option maxRecDepth 100000
theorem Own.cap {w : World} {base : Nat} {O : Option Addr} {on oc : Nat} {xs : List Int} (h : Own w base (.slice O on oc) xs) : on ≤ oc ∧ oc ≤ 9223372036854775807 := by
 rcases h.2 with ⟨e, _⟩ | ⟨g, cap, cur, e, _, _, h1, h2, _⟩
 ·injection e with _ e1 e2; omega
 ·injection e with _ e1 e2
  have := Own.len h
  unfold maxLen at h2
  omega
end drawAny
end
section
namespace drawX
open Go.RowKit base ints sig cursor marks app appAt sym segs shape dice
def RdQ (w : World) (Q : Nat → Prop) : (s : Sh) → List Value → Dat s → Prop
 | .num, cs, (x : Int) => cs = [.int .i64 x]
 | .bit, cs, (x : Bool) => cs = [.bool x]
 | .row _ s, cs, (d : List (Dat s)) => ∃ A n c, cs = [.slice A n c] ∧ Cap A n c ∧ d.length = n ∧
   (0 < n → ∃ b off, A = some ⟨b, off, none⟩ ∧ Q b ∧ ∀ j, j < n → ∃ es, es.length = nc s ∧ Piece w b (off + j * nc s) es ∧ RdQ w Q s es (d.getD j (dft s)))
 | .cat a b, cs, d => ∃ ca cb, cs = ca ++ cb ∧ RdQ w Q a ca d.1 ∧ RdQ w Q b cb d.2
section
variable {w w' : World} {Q Q' : Nat → Prop} {B : Nat}
theorem RdQ.keep (hk : ∀ b, Q b → w'.heap[b]? = w.heap[b]?) : ∀ {s : Sh} {cs : List Value} {d : Dat s}, RdQ w Q s cs d → RdQ w' Q s cs d
 | .num, _, _, h => h
 | .bit, _, _, h => h
 | .row _ s, _, _, h => by
  obtain ⟨A, n, c, e, hc, hl, h1⟩ := h
  refine ⟨A, n, c, e, hc, hl, fun hn => ?_⟩
  obtain ⟨b, off, e2, hb, h2⟩ := h1 hn
  refine ⟨b, off, e2, hb, fun j hj => ?_⟩
  obtain ⟨es, he, hp, hr⟩ := h2 j hj
  exact ⟨es, he, hp.keep (fun p hp => World.cell?_of_block (by rw [hp]; exact hk b hb)), hr.keep hk⟩
 | .cat a b, _, _, h => by
  obtain ⟨ca, cb, e, h1, h2⟩ := h
  exact ⟨ca, cb, e, h1.keep hk, h2.keep hk⟩
theorem RdQ.len : ∀ {s : Sh} {cs : List Value} {d : Dat s}, RdQ w Q s cs d → cs.length = nc s
 | .num, _, _, h => by have h : _ = _ := h; rw [h]; rfl
 | .bit, _, _, h => by have h : _ = _ := h; rw [h]; rfl
 | .row _ _, _, _, h => by obtain ⟨A, n, c, e, _⟩ := h; rw [e]; rfl
 | .cat a b, _, _, h => by
  obtain ⟨ca, cb, e, h1, h2⟩ := h
  rw [e, List.length_append, h1.len, h2.len]; rfl
theorem RdQ.cat {a b : Sh} {ca cb : List Value} {x : Dat a} {y : Dat b} (h1 : RdQ w Q a ca x) (h2 : RdQ w Q b cb y) : RdQ w Q (.cat a b) (ca ++ cb) (x, y) := ⟨ca, cb, rfl, h1, h2⟩
end
def OutR (w : World) (p : Nat) (r : Option Nat) (b : Nat) : Prop := b < w.heap.size ∧ b ≠ p ∧ some b ≠ r
section
variable {w w' : World} {p : Nat} {r : Option Nat} {s : Sh} {cs : List Value} {d : Dat s}
end
def cellsOf (k : Nat) (vs : List Value) (j : Nat) : List Value := (vs.drop (j * k)).take k
def OwnQ (w : World) (p lo : Nat) (e : TypeId) (s : Sh) (A : Option Addr) (n c : Nat) (D : List (Dat s)) : Prop :=
 D.length = n ∧ ∃ vs : List Value, w.ownsRow lo e (nc s) (.slice A n c) n vs ∧ ∀ j, j < n → RdQ w (OutR w p (blk A)) s (cellsOf (nc s) vs j) (D.getD j (dft s))
section
variable {w w' : World} {p lo n c : Nat} {e : TypeId} {s : Sh} {A : Option Addr} {D : List (Dat s)}
theorem OwnQ.nil (w : World) (p lo : Nat) (e : TypeId) (s : Sh) : OwnQ w p lo e s none 0 0 [] := ⟨rfl, [], ⟨by simp, .inl ⟨rfl, rfl⟩⟩, fun j hj => absurd hj (Nat.not_lt_zero _)⟩
end
end drawX
end
section
namespace stk
open Go.RowKit base ints marks app sym appAt segs segsMark kinds shape drawX
set_option maxRecDepth 100000
def Stk (w : World) (Q : Nat → Prop) (lo : Nat) (A : Option Addr) (n c : Nat) (D : List (List Int)) : Prop :=
 D.length = n ∧ ∃ vs : List Value, w.ownsRow lo 27 1 (.slice A n c) n vs ∧ ∀ j, j < n → RdQ w Q sI [vs.getD j undef] (D.getD j [])
def Keep (Q : Nat → Prop) (w w' : World) : Prop := ∀ b, Q b → w'.heap[b]? = w.heap[b]?
section
variable {w w' : World} {Q Q' : Nat → Prop} {lo n c : Nat} {A : Option Addr} {D : List (List Int)}
theorem Keep.below {B : Nat} (h : Below B w w') (hQ : ∀ b, Q b → b < B) : Keep Q w w' := fun b hb => h.block b (hQ b hb)
theorem Stk.nil (w : World) (Q : Nat → Prop) (lo : Nat) : Stk w Q lo none 0 0 [] := ⟨rfl, [], World.ownsRow_nil w lo _ _, fun j hj => absurd hj (Nat.not_lt_zero j)⟩
theorem Stk.keep {r : Option Nat} (h : Stk w Q lo A n c D) (hg : w.grownBy w' r) (hne : blk A = none ∨ blk A ≠ r) (hk : Keep Q w w') : Stk w' Q lo A n c D := by
 obtain ⟨h1, vs, h2, h3⟩ := h
 exact ⟨h1, vs, World.ownsRow.kept h2 hg (by rw [blk_own]; exact hne), fun j hj => (h3 j hj).keep hk⟩
theorem Stk.next (h : Stk w Q lo A n c D) (hb : Below w.heap.size w w') (hQ : ∀ b, Q b → b < w.heap.size) : Stk w' Q lo A n c D :=
 h.keep (r := none) ⟨hb.os, hb.tape, hb.output, hb.size, fun k hk _ => hb.block k hk⟩ (by cases blk A <;> simp) (Keep.below hb hQ)
end
end stk
end
section
namespace partsSpec
open Go.RowKit base ints sig term arity endOf marks app segs kinds shape drawX forest stk
set_option maxRecDepth 100000
theorem Fo.le {sg : List Int} {q : Nat} {l : List Int} (h : Fo sg q l) : q ≤ l.length := by
 induction h with
 | nil => exact Nat.zero_le _
 | var x r q h h1 ih => simp; exact ih
 | app x r q h h2 h1 ih => simp; omega
theorem ar_in {sg : List Int} {x : Int} (h : 0 ≤ x) (h2 : 0 ≤ ar sg x) : x < sg.length ∧ ar sg x = sg.getD x.toNat 0 := by
 by_cases h3 : x < sg.length
 ·exact ⟨h3, ar_sym h h3⟩
 ·rw [ar_no (by omega) (fun k => h3 k.2)] at h2
  exact absurd h2 (by decide)
end partsSpec
end
section
namespace kboLink
open sig term termOk forest partsSpec lpoMath lpoLink rankMath rankSpec kboMath
def admB (sg : List Int) (v : Int) (sy rk : List Int) (f : Nat) : Bool :=
 decide (0 ≤ sy.getD f 0 ∧ sy.getD f 0 ≤ 20 ∧ (sg.getD f 0 = 0 → v ≤ sy.getD f 0) ∧ (sg.getD f 0 = 1 → sy.getD f 0 = 0 → rk.getD f 0 = (rk.length : Int) - 1))
def wB (sg : List Int) (v : Int) (sy rk : List Int) : Bool := precB sg rk && (decide (1 ≤ v ∧ v ≤ 20) && (decide (sy.length = sg.length) && (List.range sy.length).all (admB sg v sy rk)))
variable {sg sy rk : List Int} {v : Int}
theorem w_prec (h : precB sg rk = false) : wB sg v sy rk = false := by unfold wB; rw [h]; rfl
theorem w_var (h : ¬ (1 ≤ v ∧ v ≤ 20)) : wB sg v sy rk = false := by unfold wB; rw [decide_eq_false h]; simp
theorem w_len (h : ¬ sy.length = sg.length) : wB sg v sy rk = false := by unfold wB; rw [decide_eq_false h]; simp
theorem w_bad {f : Nat} (hf : f < sy.length) (h : admB sg v sy rk f = false) : wB sg v sy rk = false := by
 have : (List.range sy.length).all (admB sg v sy rk) = false := by
  rw [List.all_eq_false]
  exact ⟨f, List.mem_range.2 hf, by rw [h]; decide⟩
 unfold wB
 rw [this]
 simp
theorem w_yes (h1 : precB sg rk = true) (h2 : 1 ≤ v ∧ v ≤ 20) (h3 : sy.length = sg.length) (h4 : ∀ f, f < sy.length → admB sg v sy rk f = true) : wB sg v sy rk = true := by
 unfold wB
 rw [h1, decide_eq_true h2, decide_eq_true h3]
 simp only [Bool.true_and]
 rw [List.all_eq_true]
 intro f hf
 exact h4 f (List.mem_range.1 hf)
theorem w_parts (h : wB sg v sy rk = true) : precB sg rk = true ∧ (1 ≤ v ∧ v ≤ 20) ∧ sy.length = sg.length ∧ ∀ f, f < sy.length → admB sg v sy rk f = true := by
 unfold wB at h
 simp only [Bool.and_eq_true, decide_eq_true_iff, List.all_eq_true] at h
 exact ⟨h.1, h.2.1, h.2.2.1, fun f hf => h.2.2.2 f (List.mem_range.2 hf)⟩
theorem adm_parts {f : Nat} (h : admB sg v sy rk f = true) : 0 ≤ sy.getD f 0 ∧ sy.getD f 0 ≤ 20 ∧ (sg.getD f 0 = 0 → v ≤ sy.getD f 0) ∧ (sg.getD f 0 = 1 → sy.getD f 0 = 0 → rk.getD f 0 = (rk.length : Int) - 1) := of_decide_eq_true h
theorem getD_get {l : List Int} {k : Nat} (h : k < l.length) : l.getD k 0 = l[k] := by simp [h]
def Low (sy t : List Int) : Prop := ∀ x ∈ t, x < (sy.length : Int)
def Small (v : Int) (sy : List Int) : Prop := (0 ≤ v ∧ v ≤ 20) ∧ ∀ x ∈ sy, 0 ≤ x ∧ x ≤ 20
theorem small_of (h : wB sg v sy rk = true) : Small v sy := by
 obtain ⟨h1, h2, h3, h4⟩ := w_parts h
 refine ⟨by omega, ?_⟩
 intro x hx
 obtain ⟨k, hk, e⟩ := List.getElem_of_mem hx
 have := adm_parts (h4 k hk)
 rw [getD_get hk, e] at this
 exact ⟨this.1, this.2.1⟩
theorem low_of {t : List Int} (h : wB sg v sy rk = true) (ht : Fo sg 1 t) : Low sy t := by
 intro x hx
 obtain ⟨h1, h2, h3, h4⟩ := w_parts h
 by_cases h0 : 0 ≤ x
 ·have := ar_in h0 (ht.sym x hx h0)
  omega
 ·omega
theorem wt_bd {t : List Int} (h : Small v sy) : 0 ≤ wt v sy t ∧ wt v sy t ≤ 20 * (t.length : Int) := by
 induction t with
 | nil => simp [wt]
 | cons x r ih =>
  simp only [wt, List.length_cons]
  have : 0 ≤ rkL sy x ∧ rkL sy x ≤ 20 := by
   unfold rkL
   by_cases hx : x.toNat < sy.length
   ·rw [getD_get hx]; exact h.2 _ (List.getElem_mem _)
   ·simp [Nat.not_lt.1 hx]
  have h1 := h.1
  split <;> omega
theorem wt_take {t : List Int} {k : Nat} (hk : k < t.length) : wt v sy (t.take (k + 1)) = wt v sy (t.take k) + (if t.getD k 0 < 0 then v else rkL sy (t.getD k 0)) := by
 have e : t.take (k + 1) = t.take k ++ [t.getD k 0] := by rw [List.take_add_one]; simp [hk]
 rw [e, wt_append]
 simp [wt]
def wtV (sg : List Int) (v : Int) (sy rk t : List Int) : Int := if (wB sg v sy rk && termOkB sg t) = true then wt v sy t else -1
end kboLink
end
section
namespace anyJ
open Go.RowKit base ints sig anyR
set_option maxRecDepth 100000
end anyJ
end
section
namespace whole
open Go.RowKit base segs matchMath
set_option maxRecDepth 100000
section
variable {w w' : World} {B B' g : Nat} {cs : Array Value} {s : List (List Int)} {t : TypeId}
end
end whole
end
section
namespace inside
open Go.RowKit base ints sig term arity endOf cursor termOk endAt
set_option maxRecDepth 100000
structure Fr (w wr : World) (A : Option Addr) (n c : Nat) (sg : List Int) (A' : Option Addr) (m : Nat) (t : List Int) : Prop where
 r : Row wr w.heap.size 29 #[.slice A n c]
 s : Seg wr w.heap.size A n sg
 s' : Seg wr w.heap.size A' m t
 b : Below w.heap.size w wr
section
variable {w wr w' : World} {A : Option Addr} {n c : Nat} {sg : List Int} {A' : Option Addr} {m : Nat} {t : List Int}
theorem Fr.next (f : Fr w wr A n c sg A' m t) (hb : Below wr.heap.size wr w') : Fr w w' A n c sg A' m t :=
 have b : Below w.heap.size wr w' := hb.mono (Nat.le_of_lt f.r.lt)
 ⟨f.r.next hb, f.s.below b, f.s'.below b, f.b.trans b⟩
theorem Fr.over (f : Fr w wr A n c sg A' m t) (hb : Below (w.heap.size + 1) wr w') : Fr w w' A n c sg A' m t :=
 have b : Below w.heap.size wr w' := hb.mono (Nat.le_succ _)
 ⟨f.r.below hb (Nat.lt_succ_self _), f.s.below b, f.s'.below b, f.b.trans b⟩
theorem Fr.s1 (f : Fr w wr A n c sg A' m t) : Seg wr wr.heap.size A n sg := f.s.more (Nat.le_of_lt f.r.lt)
theorem Fr.t1 (f : Fr w wr A n c sg A' m t) : Seg wr wr.heap.size A' m t := f.s'.more (Nat.le_of_lt f.r.lt)
theorem Fr.size (f : Fr w wr A n c sg A' m t) : w.heap.size < wr.heap.size := f.r.lt
end
end inside
end
section
namespace plain
open Go.RowKit base ints cursor same marks app appAt sym sub segs segsHelp kinds fillMath Go.Proofs.Ytiimbmkofpnebaa.look plainMath
set_option maxRecDepth 100000
end plain
end
section
namespace plainOf
open Go.RowKit base ints sig cursor marks app appAt sym sub segs segsHelp kinds varsOf fillMath Go.Proofs.Ytiimbmkofpnebaa.look substOk gives plainMath plain
set_option maxRecDepth 100000
end plainOf
end
section
namespace matchSpec
open Go.RowKit base ints sig same term termOk endAt inside marks app sym sub segs segsHelp termFacts termMath posMath plainMath plain plainOf gives cursor matchMath
set_option maxRecDepth 100000
structure Tab (w : World) (T : Nat) (s : List (List Int)) : Prop where
 len : s.length = 24
 row : ∃ cs, Row w T 27 cs ∧ cs.size = 24 ∧ ∀ j, j < 24 → ∃ A n c, cs[j]? = some (.slice A n c) ∧ Own w (T + 1) (.slice A n c) (s.getD j [])
section
variable {w w' : World} {T : Nat} {s : List (List Int)}
theorem Tab.next (h : Tab w T s) (hb : Below w.heap.size w w') : Tab w' T s := by
 obtain ⟨cs, hr, hs, hc⟩ := h.row
 exact ⟨h.len, cs, hr.next hb, hs, fun j hj => by obtain ⟨A, n, c, e, ho⟩ := hc j hj; exact ⟨A, n, c, e, Own.next ho hb⟩⟩
theorem Tab.at (h : Tab w T s) {j : Nat} (hj : j < 24) : ∃ A n c, w.cell? ⟨T, j, none⟩ = some (.slice A n c) ∧ Own w (T + 1) (.slice A n c) (s.getD j []) := by
 obtain ⟨cs, hr, hs, hc⟩ := h.row
 obtain ⟨A, n, c, e, ho⟩ := hc j hj
 exact ⟨A, n, c, by rw [hr.cell j, e], ho⟩
end
structure Mt (w wr : World) (A : Option Addr) (n c : Nat) (sg : List Int) (P : Option Addr) (pn : Nat) (p : List Int) (Q : Option Addr) (m : Nat) (t : List Int) (s : List (List Int)) : Prop where
 r0 : Row wr w.heap.size 29 #[.slice A n c]
 r1 : Row wr (w.heap.size + 1) 37 #[.slice none 0 0]
 r3 : Row wr (w.heap.size + 1 + 1 + 1) 37 #[.slice (some ⟨w.heap.size + 1 + 1, 0, none⟩) 24 24]
 tb : Tab wr (w.heap.size + 1 + 1) s
 ss : Seg wr w.heap.size A n sg
 sp : Seg wr w.heap.size P pn p
 st : Seg wr w.heap.size Q m t
 b : Below w.heap.size w wr
section
variable {w wr w' : World} {A : Option Addr} {n c : Nat} {sg : List Int} {P : Option Addr} {pn : Nat} {p : List Int} {Q : Option Addr} {m : Nat} {t : List Int} {s : List (List Int)}
theorem Mt.next (h : Mt w wr A n c sg P pn p Q m t s) (hb : Below wr.heap.size wr w') : Mt w w' A n c sg P pn p Q m t s :=
 have b : Below w.heap.size wr w' := hb.mono h.b.size
 ⟨h.r0.next hb, h.r1.next hb, h.r3.next hb, h.tb.next hb, h.ss.below b, h.sp.below b, h.st.below b, h.b.trans b⟩
end
structure Mr (w wr : World) (A : Option Addr) (n c : Nat) (sg : List Int) (P : Option Addr) (pn : Nat) (p : List Int) (Q : Option Addr) (m : Nat) (t : List Int) : Prop where
 r0 : Row wr w.heap.size 29 #[.slice A n c]
 r1 : Row wr (w.heap.size + 1) 37 #[.slice none 0 0]
 ss : Seg wr wr.heap.size A n sg
 sp : Seg wr wr.heap.size P pn p
 st : Seg wr wr.heap.size Q m t
 b : Below w.heap.size w wr
section
variable {w wr w' : World} {A : Option Addr} {n c : Nat} {sg : List Int} {P : Option Addr} {pn : Nat} {p : List Int} {Q : Option Addr} {m : Nat} {t : List Int}
theorem Mr.next (h : Mr w wr A n c sg P pn p Q m t) (hb : Below wr.heap.size wr w') : Mr w w' A n c sg P pn p Q m t :=
 ⟨h.r0.next hb, h.r1.next hb, h.ss.next hb, h.sp.next hb, h.st.next hb, next_trans h.b hb⟩
end
end matchSpec
end
section
namespace whole
open Go.RowKit base cursor marks app sym segs matchMath matchSpec
set_option maxRecDepth 100000
section
variable {P : Program} {ops : Array Oper} {rest : List Oper} {o : Oper} {a : Act} {w : World} {Q : Exit → Act → World → Prop}
theorem rowStore (hgd : o.guard = none) (ty : TypeId) (x y : Operand) (ho : o.op = .store ty x y) (g : Nat) (cells old : Array Value) (t : TypeId) (hx : a.eval x = .pointer (some ⟨g, 0, none⟩)) (hy : a.eval y = .agg cells)
  (hg : w.heap[g]? = some (.cells old t (0, 0))) (hi : (P.info? ty).map (·.size) = some cells.size) (hs : old.size = cells.size) (h1 : cells.all (·.oneCell') = true)
  (h : wpList P ops Q rest (a.put o.dst undef) (w.setRow g cells)) : wpList P ops Q (o :: rest) a w :=
 wpList_plain hgd fun _ hK => by
  unfold Oper.wp execOp
  simp only [ho, hx, hy, Instr.storeAt, Instr.sureAddr, Sem.run_bind, Sem.run_pure, Result.andThen_ok, run_storeVar_row w g t ty old cells hg hi hs h1]
  exact hK _ _ h
theorem results_row_tmp {fn : Func} {p u : Tmp} {ty : TypeId} (h : fn.results = #[.cell p ty, .tmp u]) (tmps : Array Value) (g : Nat) (t : TypeId) (cs : Array Value) (d : TypeDesc)
  (hp : tmps.getD p undef = .pointer (some ⟨g, 0, none⟩)) (hg : w.heap[g]? = some (.cells cs t (0, 0)))
  (hu : P.underlying ty = some d) (hd : (match d with | .struct _ | .array _ _ => true | _ => false) = true) (hi : (P.info? ty).map (·.size) = some cs.size) :
  (results fn tmps).run P w = .ok (.tuple #[.agg cs, tmps.getD u undef]) w := by
 rw [results_cell_tmp h, hp]
 simp [asAddr, Result.andThen, run_loadVar_row w g t ty cs (0, 0) d hg hu hd hi]
end
section
variable {w w' : World} {B B' g : Nat} {cs : Array Value} {s : List (List Int)} {t : TypeId}
theorem Row.setRow (h : Row w g t cs) (c' : Array Value) : Row (w.setRow g c') g t c' := setRow_heap w g cs c' t (0, 0) h
theorem grown_setRow (w : World) (g : Nat) (c' : Array Value) : w.grownBy (w.setRow g c') (some g) :=
 ⟨rfl, rfl, rfl, by simp, fun k _ hk => setRow_other w g k c' (fun e => hk (by rw [e]))⟩
end
end whole
end
section
namespace kboOft
open Go.RowKit base ints sig term termOk termFacts marks sym count varsOf ruleSpec anyJ whole kboMath kboLink
set_option maxRecDepth 100000
end kboOft
end
section
open Go.Lib (hid)
namespace kboWt
open Go.RowKit base ints sig term termOk termFacts marks sym ruleSpec lpoLink kboMath kboLink kboOft
set_option maxRecDepth 100000
def AnsI (w : World) (z : Int) (e : Ending) (w' : World) : Prop := e = .returned (.int .i64 z) ∧ Below w.heap.size w w'
def HeadW (w : World) (T : TypeId) (cs : Array Value) (m : Nat) (v : Int) (sy t : List Int) (s i : Value) (wr : World) : Prop :=
 ∃ k : Nat, k ≤ m ∧ i = .int .i64 k ∧ s = .int .i64 (wt v sy (t.take k)) ∧ Row wr w.heap.size T cs ∧ Below w.heap.size w wr
theorem headW_step {w wr : World} {T : TypeId} {cs : Array Value} {m k : Nat} {v x y : Int} {sy t : List Int} {z : Int} (hl : t.length = m) (hk : k < m) (ex : Hid (t.getD k 0 = x)) (hz : Hid (wt v sy (t.take k) = z)) (hy : (if x < 0 then v else rkL sy x) = y) (hr : Row wr w.heap.size T cs) (hb : Below w.heap.size w wr) : HeadW w T cs m v sy t (.int .i64 (z + y)) (.int .i64 ((k : Int) + 1)) wr :=
 ⟨k + 1, hk, by simp, by rw [wt_take (by omega), ex.out, hz.out, hy], hr, hb⟩
theorem take_bd {v : Int} {sy t : List Int} {k m : Nat} (h : Small v sy) (hl : t.length = m) (hm : m ≤ 1048576) : 0 ≤ wt v sy (t.take k) ∧ wt v sy (t.take k) ≤ 20971520 := by
 have h1 := wt_bd (t := t.take k) h
 have h2 : (t.take k).length ≤ 1048576 := by rw [List.length_take]; omega
 omega
set_option maxHeartbeats 4000000 in
theorem l14Weight (Y R T : Option Addr) (yn yc rn rc m mc : Nat) (v : Int) (sy t : List Int) (w : World) (hY : Seg w w.heap.size Y yn sy) (hT : Seg w w.heap.size T m t) (hm : m ≤ 1048576) (hs : Small v sy) (hlow : Low sy t) :
  Calls Try.prog 86 #[.agg #[.int .i64 v, .slice Y yn yc, .slice R rn rc], .slice T m mc] w (AnsI w (wt v sy t)) := by
 obtain ⟨W, hW, rA, bel⟩ := box1 w 32 #[.int .i64 v, .slice Y yn yc, .slice R rn rc]
 have HW := hid hW
 have HL := hid hT.1
 have HS := hid hs
 have HLO := hid hlow
 have HYN := hid hY.1
 have hv := hs.1
 have H0 : Hid (HeadW w 32 #[.int .i64 v, .slice Y yn yc, .slice R rn rc] m v sy t (.int .i64 0) (.int .i64 0) W) := hid ⟨0, Nat.zero_le _, rfl, rfl, rA, bel⟩
 clear hW rA bel hs hlow
 go_enter Try.func86, Try.ntmps86
 go_wp2_with fail
 rw [← HW.out]
 go_loopw [5, 6] (fun s i wr => HeadW w 32 #[.int .i64 v, .slice Y yn yc, .slice R rn rc] m v sy t s i wr) (fun _ i _ => m - (intOf i).toNat)
 case atStart => exact H0.out
 case round =>
  clear H0
  obtain ⟨k, hk, rfl, rfl, rr, hb⟩ := hrel
  obtain ⟨z, hz⟩ : ∃ z, wt v sy (t.take k) = z := ⟨_, rfl⟩
  have HZ := hid hz
  have hzb := take_bd (k := k) HS.out HL.out hm
  rw [hz] at hzb ⊢
  clear hz
  have c0 : wr.cell? ⟨w.heap.size, 0, none⟩ = some (.int .i64 v) := rr.cell 0
  have c1 : wr.cell? ⟨w.heap.size, 1, none⟩ = some (.slice Y yn yc) := rr.cell 1
  by_cases hlt : k < m
  ·obtain ⟨b, off, x, rfl, hbB, hx0, ex⟩ := hT.spot hlt
   have hx : wr.cell? ⟨b, off + k, none⟩ = some (.int .i64 x) := (hb.cell (p := ⟨b, off + k, none⟩) hbB).trans hx0
   have i0 : (0 : Int) ≤ (k : Int) := by omega
   have i1 : (k : Int) < (m : Int) := by omega
   by_cases hneg : x < 0
   ·have hd : decide (x < 0) = true := decide_eq_true hneg
    have S1 := hid (headW_step (w := w) HL.out hlt ex HZ (if_pos hneg) rr hb)
    clear rr hb hx0 ex
    go_wp2
    go_roundw
    case rel => exact S1.out
    case measure => simp [intOf]; omega
   ·have hd : decide (x < 0) = false := decide_eq_false hneg
    have hkl : k < t.length := by rw [HL.out]; exact hlt
    have hxl := HLO.out x (by rw [← ex.out, getD_get hkl]; exact List.getElem_mem _)
    obtain ⟨f, rfl⟩ : ∃ f : Nat, x = (f : Int) := ⟨x.toNat, by omega⟩
    have hf : f < yn := by rw [← HYN.out]; omega
    obtain ⟨b2, off2, u, rfl, hbB2, hu0, eu⟩ := hY.spot hf
    have hu : wr.cell? ⟨b2, off2 + f, none⟩ = some (.int .i64 u) := (hb.cell (p := ⟨b2, off2 + f, none⟩) hbB2).trans hu0
    have j0 : (0 : Int) ≤ (f : Int) := by omega
    have j1 : (f : Int) < (yn : Int) := by omega
    have hub : 0 ≤ u ∧ u ≤ 20 := by
     have hfl : f < sy.length := by rw [HYN.out]; exact hf
     have := HS.out.2 sy[f] (List.getElem_mem _)
     rw [← getD_get hfl, eu.out] at this
     exact this
    have S1 := hid (fun dd : Nat => headW_step (w := w) (y := u) HL.out hlt ex HZ (by rw [if_neg hneg]; exact eu.out) (rr.drewN dd) (below_drewN hb dd))
    clear rr hb hx0 ex hu0 eu
    go_wp2_with fail
    go_quiet (fail)
    go_wp2
    go_roundw
    case rel => exact S1.out _
    case measure => simp [intOf]; omega
  ·have ej : t.take k = t := by rw [List.take_of_length_le (by rw [HL.out]; omega)]
   have F := hid (show AnsI w (wt v sy t) (.returned (.int .i64 z)) wr from ⟨by rw [← HZ.out, ej], hb⟩)
   clear rr hb ej
   go_wp2
   go_ret
   exact F.out
set_option maxHeartbeats 4000000 in
theorem weigh (A Y R T : Option Addr) (n c yn yc rn rc m mc : Nat) (v : Int) (sy t : List Int) (w : World) (hY : Seg w w.heap.size Y yn sy) (hT : Seg w w.heap.size T m t) (hm : m ≤ 1048576) (hs : Small v sy) (hlow : Low sy t) :
  Calls Try.prog 75 #[.agg #[.slice A n c, .slice R rn rc, .int .i64 v, .slice Y yn yc], .slice T m mc] w (AnsI w (wt v sy t)) := by
 obtain ⟨W, hW, rA, bel⟩ := box1 w 96 #[.slice A n c, .slice R rn rc, .int .i64 v, .slice Y yn yc]
 have HW := hid hW
 have HL := hid hT.1
 have HS := hid hs
 have HLO := hid hlow
 have HYN := hid hY.1
 have hv := hs.1
 have H0 : Hid (HeadW w 96 #[.slice A n c, .slice R rn rc, .int .i64 v, .slice Y yn yc] m v sy t (.int .i64 0) (.int .i64 0) W) := hid ⟨0, Nat.zero_le _, rfl, rfl, rA, bel⟩
 clear hW rA bel hs hlow
 go_enter Try.func75, Try.ntmps75
 go_wp2_with fail
 rw [← HW.out]
 go_loopw [5, 10] (fun s i wr => HeadW w 96 #[.slice A n c, .slice R rn rc, .int .i64 v, .slice Y yn yc] m v sy t s i wr) (fun _ i _ => m - (intOf i).toNat)
 case atStart => exact H0.out
 case round =>
  clear H0
  obtain ⟨k, hk, rfl, rfl, rr, hb⟩ := hrel
  obtain ⟨z, hz⟩ : ∃ z, wt v sy (t.take k) = z := ⟨_, rfl⟩
  have HZ := hid hz
  have hzb := take_bd (k := k) HS.out HL.out hm
  rw [hz] at hzb ⊢
  clear hz
  have c0 : wr.cell? ⟨w.heap.size, 2, none⟩ = some (.int .i64 v) := rr.cell 2
  have c1 : wr.cell? ⟨w.heap.size, 3, none⟩ = some (.slice Y yn yc) := rr.cell 3
  by_cases hlt : k < m
  ·obtain ⟨b, off, x, rfl, hbB, hx0, ex⟩ := hT.spot hlt
   have hx : wr.cell? ⟨b, off + k, none⟩ = some (.int .i64 x) := (hb.cell (p := ⟨b, off + k, none⟩) hbB).trans hx0
   have i0 : (0 : Int) ≤ (k : Int) := by omega
   have i1 : (k : Int) < (m : Int) := by omega
   by_cases hneg : x < 0
   ·have hd : decide (x < 0) = true := decide_eq_true hneg
    have S1 := hid (headW_step (w := w) HL.out hlt ex HZ (if_pos hneg) rr hb)
    clear rr hb hx0 ex
    go_wp2
    go_roundw
    case rel => exact S1.out
    case measure => simp [intOf]; omega
   ·have hd : decide (x < 0) = false := decide_eq_false hneg
    have hkl : k < t.length := by rw [HL.out]; exact hlt
    have hxl := HLO.out x (by rw [← ex.out, getD_get hkl]; exact List.getElem_mem _)
    obtain ⟨f, rfl⟩ : ∃ f : Nat, x = (f : Int) := ⟨x.toNat, by omega⟩
    have hf : f < yn := by rw [← HYN.out]; omega
    obtain ⟨b2, off2, u, rfl, hbB2, hu0, eu⟩ := hY.spot hf
    have hu : wr.cell? ⟨b2, off2 + f, none⟩ = some (.int .i64 u) := (hb.cell (p := ⟨b2, off2 + f, none⟩) hbB2).trans hu0
    have j0 : (0 : Int) ≤ (f : Int) := by omega
    have j1 : (f : Int) < (yn : Int) := by omega
    have hub : 0 ≤ u ∧ u ≤ 20 := by
     have hfl : f < sy.length := by rw [HYN.out]; exact hf
     have := HS.out.2 sy[f] (List.getElem_mem _)
     rw [← getD_get hfl, eu.out] at this
     exact this
    have S1 := hid (headW_step (w := w) (y := u) HL.out hlt ex HZ (by rw [if_neg hneg]; exact eu.out) rr hb)
    clear rr hb hx0 ex hu0 eu
    go_wp2
    go_roundw
    case rel => exact S1.out
    case measure => simp [intOf]; omega
  ·have ej : t.take k = t := by rw [List.take_of_length_le (by rw [HL.out]; omega)]
   have F := hid (show AnsI w (wt v sy t) (.returned (.int .i64 z)) wr from ⟨by rw [← HZ.out, ej], hb⟩)
   clear rr hb ej
   go_wp2
   go_ret
   exact F.out
end kboWt
end
section
namespace lpoPrec
open Go.RowKit base ints sig term marks app sym shape rankMath rankSpec ruleSpec
set_option maxRecDepth 100000
def AnsPrec (w : World) (v u : Value) (b : Bool) (e : Ending) (w' : World) : Prop := e = .returned (.tuple #[if b then .agg #[v, u] else .agg #[.slice none 0 0, .slice none 0 0], .bool b]) ∧ Below w.heap.size w w'
set_option maxHeartbeats 4000000 in
theorem precedenceOf (A R : Option Addr) (n c rn rc : Nat) (sg rk : List Int) (w : World) (hA : Seg w w.heap.size A n sg) (hR : Seg w w.heap.size R rn rk) (hn : n ≤ 1048576) (hrn : rn ≤ 1048576) :
  Calls Try.prog 110 #[.agg #[.slice A n c], .slice R rn rc] w (AnsPrec w (.slice A n c) (.slice R rn rc) (precB sg rk)) := by
 obtain ⟨W, hW, rA, rR, bel⟩ := box2 w 29 94 #[.slice A n c] #[.slice none 0 0, .slice none 0 0]
 have k0 : W.cell? ⟨w.heap.size, 0, none⟩ = some (.slice A n c) := rA.cell 0
 rw [hW] at k0
 have HW := Lib.hid hW
 have L1 := Lib.hid (implRankOk A R n c rn rc sg rk W (hA.next bel) (hR.next bel) hn hrn)
 clear hW hA hR
 cases ok1 : precB sg rk with
 | false =>
  have HS := Lib.hid ok1
  clear ok1
  go_enter Try.func110, Try.ntmps110
  go_wp2_with fail
  rw [← HW.out]
  refine L1.out.mono ?_
  rintro e w1 ⟨he, bb⟩
  rw [HS.out] at he
  subst he
  replace rR := rR.next bb
  replace bel := next_trans bel bb
  have y0 : w1.cell? ⟨w.heap.size + 1, 0, none⟩ = some (.slice none 0 0) := rR.cell 0
  have y1 : w1.cell? ⟨w.heap.size + 1, 1, none⟩ = some (.slice none 0 0) := rR.cell 1
  have f0 := rR.free 0
  have f1 := rR.free 1
  have r1 := rR.put 0 (.slice none 0 0)
  have y2 : (w1.setCell ⟨w.heap.size + 1, 0, none⟩ (.slice none 0 0)).cell? ⟨w.heap.size + 1, 1, none⟩ = some (.slice none 0 0) := r1.cell 1
  have f2 := r1.free 1
  have r2 := r1.put 1 (.slice none 0 0)
  have u0 : ((w1.setCell ⟨w.heap.size + 1, 0, none⟩ (.slice none 0 0)).setCell ⟨w.heap.size + 1, 1, none⟩ (.slice none 0 0)).cell? ⟨w.heap.size + 1, 0, none⟩ = some (.slice none 0 0) := r2.cell 0
  have u1 : ((w1.setCell ⟨w.heap.size + 1, 0, none⟩ (.slice none 0 0)).setCell ⟨w.heap.size + 1, 1, none⟩ (.slice none 0 0)).cell? ⟨w.heap.size + 1, 1, none⟩ = some (.slice none 0 0) := r2.cell 1
  have F : AnsPrec w (.slice A n c) (.slice R rn rc) false (.returned (.tuple #[.agg #[.slice none 0 0, .slice none 0 0], .bool false])) ((w1.setCell ⟨w.heap.size + 1, 0, none⟩ (.slice none 0 0)).setCell ⟨w.heap.size + 1, 1, none⟩ (.slice none 0 0)) :=
   ⟨rfl, (bel.setCell (by simp) _).setCell (by simp) _⟩
  have HF := Lib.hid F
  clear F bel rA rR bb r1 r2
  go_wp2
  exact bodyPost_ret (v := .tuple #[.agg #[.slice none 0 0, .slice none 0 0], .bool false]) (by simp [results, Try.results110, go_sem, u0, u1]) rfl HF.out
 | true =>
  have HS := Lib.hid ok1
  clear ok1
  go_enter Try.func110, Try.ntmps110
  go_wp2_with fail
  rw [← HW.out]
  refine L1.out.mono ?_
  rintro e w1 ⟨he, bb⟩
  rw [HS.out] at he
  subst he
  replace rR := rR.next bb
  replace rA := rA.next bb
  replace bel := next_trans bel bb
  have x0 : w1.cell? ⟨w.heap.size, 0, none⟩ = some (.slice A n c) := rA.cell 0
  have y0 : w1.cell? ⟨w.heap.size + 1, 0, none⟩ = some (.slice none 0 0) := rR.cell 0
  have y1 : w1.cell? ⟨w.heap.size + 1, 1, none⟩ = some (.slice none 0 0) := rR.cell 1
  have f0 := rR.free 0
  have f1 := rR.free 1
  have r1 := rR.put 0 (.slice A n c)
  have y2 : (w1.setCell ⟨w.heap.size + 1, 0, none⟩ (.slice A n c)).cell? ⟨w.heap.size + 1, 1, none⟩ = some (.slice none 0 0) := r1.cell 1
  have f2 := r1.free 1
  have r2 := r1.put 1 (.slice R rn rc)
  have u0 : ((w1.setCell ⟨w.heap.size + 1, 0, none⟩ (.slice A n c)).setCell ⟨w.heap.size + 1, 1, none⟩ (.slice R rn rc)).cell? ⟨w.heap.size + 1, 0, none⟩ = some (.slice A n c) := r2.cell 0
  have u1 : ((w1.setCell ⟨w.heap.size + 1, 0, none⟩ (.slice A n c)).setCell ⟨w.heap.size + 1, 1, none⟩ (.slice R rn rc)).cell? ⟨w.heap.size + 1, 1, none⟩ = some (.slice R rn rc) := r2.cell 1
  have F : AnsPrec w (.slice A n c) (.slice R rn rc) true (.returned (.tuple #[.agg #[.slice A n c, .slice R rn rc], .bool true])) ((w1.setCell ⟨w.heap.size + 1, 0, none⟩ (.slice A n c)).setCell ⟨w.heap.size + 1, 1, none⟩ (.slice R rn rc)) :=
   ⟨rfl, (bel.setCell (by simp) _).setCell (by simp) _⟩
  have HF := Lib.hid F
  clear F bel rA rR bb r1 r2
  go_wp2
  exact bodyPost_ret (v := .tuple #[.agg #[.slice A n c, .slice R rn rc], .bool true]) (by simp [results, Try.results110, go_sem, u0, u1]) rfl HF.out
end lpoPrec
end
section
open Go.Lib (hid)
namespace kboOk
open Go.RowKit base ints sig term termOk termFacts marks sym varsOf ruleSpec rankMath rankSpec lpoLink lpoPrec kboMath kboLink kboOft kboWt
set_option maxRecDepth 100000
theorem adm_val {sg sy rk : List Int} {v a y r : Int} {f : Nat} (ha : sg.getD f 0 = a) (hy : sy.getD f 0 = y) (hr : rk.getD f 0 = r) : admB sg v sy rk f = decide (0 ≤ y ∧ y ≤ 20 ∧ (a = 0 → v ≤ y) ∧ (a = 1 → y = 0 → r = (rk.length : Int) - 1)) := by
 unfold admB
 rw [ha, hy, hr]
structure R2 (w : World) (TA TB : TypeId) (ca cb : Array Value) (wr : World) : Prop where
 a : Row wr w.heap.size TA ca
 b : Row wr (w.heap.size + 1) TB cb
 l : Below w.heap.size w wr
theorem R2.next {w wr w' : World} {TA TB : TypeId} {ca cb : Array Value} (h : R2 w TA TB ca cb wr) (hb : Below wr.heap.size wr w') : R2 w TA TB ca cb w' := ⟨h.a.next hb, h.b.next hb, next_trans h.l hb⟩
theorem R2.drewN {w wr : World} {TA TB : TypeId} {ca cb : Array Value} (h : R2 w TA TB ca cb wr) (d : Nat) : R2 w TA TB ca cb (wr.drewN d) := ⟨h.a.drewN d, h.b.drewN d, below_drewN h.l d⟩
theorem r2_new (w : World) (TA TB : TypeId) (ca cb : Array Value) : ∃ W, W = (w.alloc (.cells ca TA)).alloc (.cells cb TB) ∧ R2 w TA TB ca cb W := by
 obtain ⟨W, h, a, b, l⟩ := box2 w TA TB ca cb
 exact ⟨W, h, a, b, l⟩
def HeadA (w : World) (TA TB : TypeId) (ca cb : Array Value) (n : Nat) (g : Nat → Bool) (i : Value) (wr : World) : Prop := ∃ k : Nat, k ≤ n ∧ i = .int .i64 k ∧ (∀ j, j < k → g j = true) ∧ R2 w TA TB ca cb wr
theorem headA_step {w wr : World} {TA TB : TypeId} {ca cb : Array Value} {n k : Nat} {g : Nat → Bool} (hk : k < n) (hlow : ∀ j, j < k → g j = true) (h : g k = true) (hr : R2 w TA TB ca cb wr) : HeadA w TA TB ca cb n g (.int .i64 ((k : Int) + 1)) wr :=
 ⟨k + 1, hk, by simp, fun j hj => by
  by_cases e : j = k
  ·rw [e]; exact h
  ·exact hlow j (by omega), hr⟩
set_option maxHeartbeats 8000000 in
theorem specWeightsOk (A Y R : Option Addr) (n c yn yc rn rc : Nat) (v : Int) (sg sy rk : List Int) (w : World) (hA : Seg w w.heap.size A n sg) (hY : Seg w w.heap.size Y yn sy) (hR : Seg w w.heap.size R rn rk) (hn : n ≤ 1048576) (hyn : yn ≤ 1048576) (hrn : rn ≤ 1048576) :
  Calls Try.prog 37 #[.agg #[.slice A n c], .agg #[.int .i64 v, .slice Y yn yc, .slice R rn rc]] w (AnsB w (wB sg v sy rk)) := by
 obtain ⟨W, hW, q⟩ := r2_new w 29 32 #[.slice A n c] #[.int .i64 v, .slice Y yn yc, .slice R rn rc]
 have HW := hid hW
 have HAL := hid hA.1
 have HYL := hid hY.1
 have HRL := hid hR.1
 have L1 := hid (specRankOk A R n c rn rc sg rk W (hA.next q.l) (hR.next q.l) hn hrn)
 have k0 : W.cell? ⟨w.heap.size, 0, none⟩ = some (.slice A n c) := q.a.cell 0
 have k1 : W.cell? ⟨w.heap.size + 1, 0, none⟩ = some (.int .i64 v) := q.b.cell 0
 have k2 : W.cell? ⟨w.heap.size + 1, 1, none⟩ = some (.slice Y yn yc) := q.b.cell 1
 have k3 : W.cell? ⟨w.heap.size + 1, 2, none⟩ = some (.slice R rn rc) := q.b.cell 2
 rw [hW] at k0 k1 k2 k3
 clear hW
 cases hp : precB sg rk with
 | false =>
  have HP := hid hp
  clear hp
  go_enter Try.func37, Try.ntmps37
  go_wp2_with fail
  rw [← HW.out]
  clear k0 k1 k2 k3
  refine L1.out.mono ?_
  rintro e w1 ⟨he, bb⟩
  rw [HP.out] at he
  subst he
  replace q := q.next bb
  clear bb L1
  have k0 : w1.cell? ⟨w.heap.size, 0, none⟩ = some (.slice A n c) := q.a.cell 0
  have k1 : w1.cell? ⟨w.heap.size + 1, 0, none⟩ = some (.int .i64 v) := q.b.cell 0
  have k2 : w1.cell? ⟨w.heap.size + 1, 1, none⟩ = some (.slice Y yn yc) := q.b.cell 1
  have F := hid (ansB (b := wB sg v sy rk) (a := false) (by rw [w_prec HP.out]) q.l)
  clear q
  go_wp2
  go_ret
  exact F.out
 | true =>
  have HP := hid hp
  clear hp
  go_enter Try.func37, Try.ntmps37
  go_wp2_with fail
  rw [← HW.out]
  clear k0 k1 k2 k3
  refine L1.out.mono ?_
  rintro e w1 ⟨he, bb⟩
  rw [HP.out] at he
  subst he
  replace q := q.next bb
  clear bb L1
  have k0 : w1.cell? ⟨w.heap.size, 0, none⟩ = some (.slice A n c) := q.a.cell 0
  have k1 : w1.cell? ⟨w.heap.size + 1, 0, none⟩ = some (.int .i64 v) := q.b.cell 0
  have k2 : w1.cell? ⟨w.heap.size + 1, 1, none⟩ = some (.slice Y yn yc) := q.b.cell 1
  by_cases hv : 1 ≤ v ∧ v ≤ 20
  case neg =>
   have HV := hid hv
   clear hv
   have F := hid (ansB (b := wB sg v sy rk) (a := false) (by rw [w_var HV.out]) q.l)
   clear q
   go_wp2_with (first
    | (go_at_call 85; refine (inNo _ _ _ _ HV.out).mono ?_; rintro e w2 ⟨rfl, rfl⟩))
   go_ret
   exact F.out
  have HV := hid hv
  clear hv
  by_cases hly : yn = n
  case neg =>
   have F := hid (ansB (b := wB sg v sy rk) (a := false) (by rw [w_len (by rw [HYL.out, HAL.out]; exact hly)]) q.l)
   have e1 : ((yn : Int) != (n : Int)) = true := by simp; omega
   clear q
   go_wp2_with (first
    | (go_at_call 85; refine (inYes _ _ _ _ HV.out).mono ?_; rintro e w2 ⟨rfl, rfl⟩))
   go_ret
   exact F.out
  subst hly
  have hrl : rn = yn := by
   have := (rank_parts (prec_parts HP.out).2).1
   rw [HAL.out, HRL.out] at this
   exact this
  subst hrl
  have e1 : ((rn : Int) != (rn : Int)) = false := by simp
  have H0 : Hid (HeadA w 29 32 #[.slice A rn c] #[.int .i64 v, .slice Y rn yc, .slice R rn rc] rn (admB sg v sy rk) (.int .i64 0) w1) := hid ⟨0, Nat.zero_le _, rfl, fun j hj => absurd hj (Nat.not_lt_zero _), q⟩
  clear q
  go_wp2_with (first
   | (go_at_call 85; refine (inYes _ _ _ _ HV.out).mono ?_; rintro e w2 ⟨rfl, rfl⟩))
  clear k0 k1 k2
  go_loopw [5] (fun i wr => HeadA w 29 32 #[.slice A rn c] #[.int .i64 v, .slice Y rn yc, .slice R rn rc] rn (admB sg v sy rk) i wr) (fun i _ => rn - (intOf i).toNat)
  case atStart => exact H0.out
  case round =>
   clear H0 e1
   obtain ⟨k, hk, rfl, hlow, q⟩ := hrel
   have HLOW := hid hlow
   clear hlow
   have k0 : wr.cell? ⟨w.heap.size, 0, none⟩ = some (.slice A rn c) := q.a.cell 0
   have k1 : wr.cell? ⟨w.heap.size + 1, 0, none⟩ = some (.int .i64 v) := q.b.cell 0
   have k2 : wr.cell? ⟨w.heap.size + 1, 1, none⟩ = some (.slice Y rn yc) := q.b.cell 1
   have k3 : wr.cell? ⟨w.heap.size + 1, 2, none⟩ = some (.slice R rn rc) := q.b.cell 2
   by_cases hlt : k < rn
   case neg =>
    have F := hid (ansB (b := wB sg v sy rk) (a := true) (by rw [w_yes HP.out HV.out (by rw [HYL.out, HAL.out]) (fun f hf => HLOW.out f (by have := HYL.out; omega))]) q.l)
    clear q
    go_wp2
    go_ret
    exact F.out
   obtain ⟨ba, oa, a, rfl, zA, ca, ea⟩ := hA.spot hlt
   obtain ⟨by_, oy, y, rfl, zY, cy, ey⟩ := hY.spot hlt
   obtain ⟨br, orr, r, rfl, zR, cr, er⟩ := hR.spot hlt
   have ca' : wr.cell? ⟨ba, oa + k, none⟩ = some (.int .i64 a) := (q.l.cell (p := ⟨ba, oa + k, none⟩) zA).trans ca
   have cy' : wr.cell? ⟨by_, oy + k, none⟩ = some (.int .i64 y) := (q.l.cell (p := ⟨by_, oy + k, none⟩) zY).trans cy
   have cr' : wr.cell? ⟨br, orr + k, none⟩ = some (.int .i64 r) := (q.l.cell (p := ⟨br, orr + k, none⟩) zR).trans cr
   clear ca cy cr zA zY zR
   have i0 : (0 : Int) ≤ (k : Int) := by omega
   have i1 : (k : Int) < (rn : Int) := by omega
   have AV := hid (adm_val (v := v) ea.out ey.out er.out)
   have Q := hid (fun dd => q.drewN dd)
   have hrk : (rk.length : Int) = (rn : Int) := by rw [HRL.out]
   have HRK := hid hrk
   clear q hrk
   by_cases hin : 0 ≤ y ∧ y ≤ 20
   case neg =>
    have HI := hid hin
    have F := hid (fun dd => ansB (w' := wr.drewN dd) (b := wB sg v sy rk) (a := false) (by rw [w_bad (f := k) (by rw [HYL.out]; exact hlt) (by rw [AV.out]; exact decide_eq_false (fun h => HI.out ⟨h.1, h.2.1⟩))]) (Q.out dd).l)
    clear hin
    go_wp2_with fail
    go_quiet ((go_at_call 85; exact Calls.quiet_of_same (v := .bool false) ((inNo _ _ _ _ HI.out).mono fun _ _ ⟨h1, h2⟩ => ⟨h2, h1.symm⟩)))
    go_wp2
    go_ret
    exact F.out _
   have HI := hid hin
   clear hin
   by_cases a0 : a = 0
   ·subst a0
    have ha : ((0 : Int) == 0) = true := by simp
    have ha1 : ((0 : Int) == 1) = false := by simp
    by_cases hyv : y < v
    ·have hd : decide (y < v) = true := decide_eq_true hyv
     have F := hid (fun dd => ansB (w' := wr.drewN dd) (b := wB sg v sy rk) (a := false) (by rw [w_bad (f := k) (by rw [HYL.out]; exact hlt) (by rw [AV.out, HRK.out]; exact decide_eq_false (fun h => by have := h.2.2.1 rfl; omega))]) (Q.out dd).l)
     go_wp2_with fail
     go_quiet ((go_at_call 85; exact Calls.quiet_of_same (v := .bool true) ((inYes _ _ _ _ HI.out).mono fun _ _ ⟨h1, h2⟩ => ⟨h2, h1.symm⟩)))
     go_wp2
     go_ret
     first
      | exact F.out _
      | (rw [World.drewN_drewN]; exact F.out _)
    ·have hd : decide (y < v) = false := decide_eq_false hyv
     have S1 := hid (fun dd => headA_step hlt HLOW.out (by rw [AV.out, HRK.out]; exact decide_eq_true ⟨HI.out.1, HI.out.2, fun _ => Int.not_lt.1 hyv, fun h => by omega⟩) (Q.out dd))
     go_wp2_with fail
     go_quiet ((go_at_call 85; exact Calls.quiet_of_same (v := .bool true) ((inYes _ _ _ _ HI.out).mono fun _ _ ⟨h1, h2⟩ => ⟨h2, h1.symm⟩)))
     go_wp2_with fail
     go_quiet (fail)
     go_wp2
     go_roundw
     case rel => exact S1.out _
     case measure => simp [intOf]; omega
   ·have ha : (a == 0) = false := by simp [a0]
    by_cases a1 : a = 1
    ·subst a1
     have ha1 : ((1 : Int) == 1) = true := by simp
     by_cases y0 : y = 0
     ·subst y0
      have hy0 : ((0 : Int) == 0) = true := by simp
      by_cases hr : r = (rn : Int) - 1
      ·have hd : (r != (rn : Int) - 1) = false := by simp [hr]
       have S1 := hid (fun dd => headA_step hlt HLOW.out (by rw [AV.out, HRK.out]; exact decide_eq_true ⟨HI.out.1, HI.out.2, fun h => by omega, fun _ _ => hr⟩) (Q.out dd))
       go_wp2_with fail
       go_quiet ((go_at_call 85; exact Calls.quiet_of_same (v := .bool true) ((inYes _ _ _ _ HI.out).mono fun _ _ ⟨h1, h2⟩ => ⟨h2, h1.symm⟩)))
       go_wp2_with fail
       go_quiet (fail)
       go_wp2
       go_roundw
       case rel => exact S1.out _
       case measure => simp [intOf]; omega
      ·have hd : (r != (rn : Int) - 1) = true := by simp [hr]
       have F := hid (fun dd => ansB (w' := wr.drewN dd) (b := wB sg v sy rk) (a := false) (by rw [w_bad (f := k) (by rw [HYL.out]; exact hlt) (by rw [AV.out, HRK.out]; exact decide_eq_false (fun h => hr (h.2.2.2 rfl rfl)))]) (Q.out dd).l)
       go_wp2_with fail
       go_quiet ((go_at_call 85; exact Calls.quiet_of_same (v := .bool true) ((inYes _ _ _ _ HI.out).mono fun _ _ ⟨h1, h2⟩ => ⟨h2, h1.symm⟩)))
       go_wp2_with fail
       go_quiet (fail)
       go_wp2
       go_ret
       first
        | exact F.out _
        | (rw [World.drewN_drewN]; exact F.out _)
     ·have hy0 : (y == 0) = false := by simp [y0]
      have S1 := hid (fun dd => headA_step hlt HLOW.out (by rw [AV.out, HRK.out]; exact decide_eq_true ⟨HI.out.1, HI.out.2, fun h => by omega, fun _ h => absurd h y0⟩) (Q.out dd))
      go_wp2_with fail
      go_quiet ((go_at_call 85; exact Calls.quiet_of_same (v := .bool true) ((inYes _ _ _ _ HI.out).mono fun _ _ ⟨h1, h2⟩ => ⟨h2, h1.symm⟩)))
      go_wp2_with fail
      go_quiet (fail)
      go_wp2
      go_roundw
      case rel => exact S1.out _
      case measure => simp [intOf]; omega
    ·have ha1 : (a == 1) = false := by simp [a1]
     have S1 := hid (fun dd => headA_step hlt HLOW.out (by rw [AV.out, HRK.out]; exact decide_eq_true ⟨HI.out.1, HI.out.2, fun h => absurd h a0, fun h => absurd h a1⟩) (Q.out dd))
     go_wp2_with fail
     go_quiet ((go_at_call 85; exact Calls.quiet_of_same (v := .bool true) ((inYes _ _ _ _ HI.out).mono fun _ _ ⟨h1, h2⟩ => ⟨h2, h1.symm⟩)))
     go_wp2_with fail
     go_quiet (fail)
     go_wp2
     go_roundw
     case rel => exact S1.out _
     case measure => simp [intOf]; omega
set_option maxHeartbeats 4000000 in
theorem admits (A R Y : Option Addr) (n c rc yc : Nat) (v : Int) (sg rk sy : List Int) (k : Nat) (w : World) (hA : Seg w w.heap.size A n sg) (hR : Seg w w.heap.size R n rk) (hY : Seg w w.heap.size Y n sy) (hn : n ≤ 1048576) (hk : k < n) :
  Calls Try.prog 111 #[.agg #[.slice A n c, .slice R n rc, .int .i64 v, .slice Y n yc], .int .i64 (k : Int)] w (AnsB w (admB sg v sy rk k)) := by
 obtain ⟨W, hW, rA, bel⟩ := box1 w 96 #[.slice A n c, .slice R n rc, .int .i64 v, .slice Y n yc]
 have HRL := hid hR.1
 obtain ⟨ba, oa, a, rfl, zA, ca, ea⟩ := (hA.next bel).spot hk
 obtain ⟨by_, oy, y, rfl, zY, cy, ey⟩ := (hY.next bel).spot hk
 obtain ⟨br, orr, r, rfl, zR, cr, er⟩ := (hR.next bel).spot hk
 have i0 : (0 : Int) ≤ (k : Int) := by omega
 have i1 : (k : Int) < (n : Int) := by omega
 have AV := hid (adm_val (v := v) ea.out ey.out er.out)
 have hrk : (rk.length : Int) = (n : Int) := by rw [HRL.out]
 rw [hrk] at AV
 have k0 : W.cell? ⟨w.heap.size, 0, none⟩ = some (.slice (some ⟨ba, oa, none⟩) n c) := rA.cell 0
 have k1 : W.cell? ⟨w.heap.size, 1, none⟩ = some (.slice (some ⟨br, orr, none⟩) n rc) := rA.cell 1
 have k2 : W.cell? ⟨w.heap.size, 2, none⟩ = some (.int .i64 v) := rA.cell 2
 have k3 : W.cell? ⟨w.heap.size, 3, none⟩ = some (.slice (some ⟨by_, oy, none⟩) n yc) := rA.cell 3
 have HW := hid hW
 have Q := hid (fun dd => below_drewN bel dd)
 rw [hW] at k0 k1 k2 k3 ca cy cr
 clear hW rA bel hA hR hY hrk
 by_cases h0 : y < 0
 ·have d0 : decide (y < 0) = true := decide_eq_true h0
  have F := hid (fun dd => ansB (w := w) (w' := W.drewN dd) (b := admB sg v sy rk k) (a := false) (by rw [AV.out]; symm; exact decide_eq_false (fun h => by omega)) (Q.out dd))
  rw [HW.out] at F
  go_enter Try.func111, Try.ntmps111
  go_wp2_with fail
  go_quiet (fail)
  go_wp2
  go_ret
  exact F.out _
 have d0 : decide (y < 0) = false := decide_eq_false h0
 by_cases h20 : 20 < y
 ·have d1 : decide (20 < y) = true := decide_eq_true h20
  have F := hid (fun dd => ansB (w := w) (w' := W.drewN dd) (b := admB sg v sy rk k) (a := false) (by rw [AV.out]; symm; exact decide_eq_false (fun h => by omega)) (Q.out dd))
  rw [HW.out] at F
  go_enter Try.func111, Try.ntmps111
  go_wp2_with fail
  go_quiet (fail)
  go_wp2
  go_ret
  exact F.out _
 have d1 : decide (20 < y) = false := decide_eq_false h20
 by_cases a0 : a = 0
 ·subst a0
  have e0 : ((0 : Int) == 0) = true := by simp
  by_cases hv : v ≤ y
  ·have d2 : decide (v ≤ y) = true := decide_eq_true hv
   have F := hid (fun dd => ansB (w := w) (w' := W.drewN dd) (b := admB sg v sy rk k) (a := true) (by rw [AV.out]; symm; exact decide_eq_true ⟨by omega, by omega, fun _ => hv, fun h => by omega⟩) (Q.out dd))
   rw [HW.out] at F
   go_enter Try.func111, Try.ntmps111
   go_wp2_with fail
   go_quiet (fail)
   go_wp2
   go_ret
   exact F.out _
  ·have d2 : decide (v ≤ y) = false := decide_eq_false hv
   have F := hid (fun dd => ansB (w := w) (w' := W.drewN dd) (b := admB sg v sy rk k) (a := false) (by rw [AV.out]; symm; exact decide_eq_false (fun h => hv (h.2.2.1 rfl))) (Q.out dd))
   rw [HW.out] at F
   go_enter Try.func111, Try.ntmps111
   go_wp2_with fail
   go_quiet (fail)
   go_wp2
   go_ret
   exact F.out _
 ·have e0 : (a == 0) = false := by simp [a0]
  by_cases a1 : a = 1
  ·subst a1
   have e1 : ((1 : Int) == 1) = true := by simp
   by_cases y0 : 0 < y
   ·have d2 : decide (0 < y) = true := decide_eq_true y0
    have F := hid (fun dd => ansB (w := w) (w' := W.drewN dd) (b := admB sg v sy rk k) (a := true) (by rw [AV.out]; symm; exact decide_eq_true ⟨by omega, by omega, fun h => by omega, fun _ h => by omega⟩) (Q.out dd))
    rw [HW.out] at F
    go_enter Try.func111, Try.ntmps111
    go_wp2_with fail
    go_quiet (fail)
    go_wp2
    go_ret
    exact F.out _
   ·have d2 : decide (0 < y) = false := decide_eq_false y0
    by_cases hr : r = (n : Int) - 1
    ·have d3 : (r == (n : Int) - 1) = true := by simp [hr]
     have F := hid (fun dd => ansB (w := w) (w' := W.drewN dd) (b := admB sg v sy rk k) (a := true) (by rw [AV.out]; symm; exact decide_eq_true ⟨by omega, by omega, fun h => by omega, fun _ _ => hr⟩) (Q.out dd))
     rw [HW.out] at F
     go_enter Try.func111, Try.ntmps111
     go_wp2_with fail
     go_quiet (fail)
     go_wp2
     go_ret
     exact F.out _
    ·have d3 : (r == (n : Int) - 1) = false := by simp [hr]
     have F := hid (fun dd => ansB (w := w) (w' := W.drewN dd) (b := admB sg v sy rk k) (a := false) (by rw [AV.out]; symm; exact decide_eq_false (fun h => hr (h.2.2.2 rfl (by omega)))) (Q.out dd))
     rw [HW.out] at F
     go_enter Try.func111, Try.ntmps111
     go_wp2_with fail
     go_quiet (fail)
     go_wp2
     go_ret
     exact F.out _
  ·have e1 : (a == 1) = false := by simp [a1]
   have F := hid (fun dd => ansB (w := w) (w' := W.drewN dd) (b := admB sg v sy rk k) (a := true) (by rw [AV.out]; symm; exact decide_eq_true ⟨by omega, by omega, fun h => absurd h a0, fun h => absurd h a1⟩) (Q.out dd))
   rw [HW.out] at F
   go_enter Try.func111, Try.ntmps111
   go_wp2_with fail
   go_quiet (fail)
   go_wp2
   go_ret
   exact F.out _
end kboOk
end
section
open Go.Lib (hid)
namespace kboScale
open Go.RowKit base ints sig term termOk termFacts marks sym varsOf ruleSpec rankMath rankSpec lpoLink lpoPrec kboMath kboLink kboOft kboWt kboOk whole
set_option maxRecDepth 100000
def scV (A R Y : Option Addr) (n c rn rc yn yc : Nat) (v : Int) (b : Bool) : Value := if b then .agg #[.slice A n c, .slice R rn rc, .int .i64 v, .slice Y yn yc] else .agg #[.slice none 0 0, .slice none 0 0, .int .i64 0, .slice none 0 0]
theorem size_p : (Try.prog.info? 94).map (·.size) = some 2 := by kernel_rfl
theorem size_s : (Try.prog.info? 96).map (·.size) = some 4 := by kernel_rfl
def AnsSc (w : World) (s : Bool → Value) (b : Bool) (e : Ending) (w' : World) : Prop := e = .returned (.tuple #[s b, .bool b]) ∧ Below w.heap.size w w'
structure R3 (w : World) (ca cb cc : Array Value) (wr : World) : Prop where
 a : Row wr w.heap.size 29 ca
 b : Row wr (w.heap.size + 1) 32 cb
 c : Row wr (w.heap.size + 1 + 1) 96 cc
 l : Below w.heap.size w wr
theorem R3.next {w wr w' : World} {ca cb cc : Array Value} (h : R3 w ca cb cc wr) (hb : Below wr.heap.size wr w') : R3 w ca cb cc w' := ⟨h.a.next hb, h.b.next hb, h.c.next hb, next_trans h.l hb⟩
theorem r3_new (w : World) (ca cb cc : Array Value) : ∃ W, W = ((w.alloc (.cells ca 29)).alloc (.cells cb 32)).alloc (.cells cc 96) ∧ R3 w ca cb cc W := by
 obtain ⟨W1, h, a, b, l⟩ := box2 w 29 32 ca cb
 have hs : W1.heap.size = w.heap.size + 1 + 1 := by rw [h]; simp
 refine ⟨_, rfl, ?_, ?_, ?_, ?_⟩
 ·rw [← h]; exact a.alloc _
 ·rw [← h]; exact b.alloc _
 ·rw [← h, ← hs]; exact Row.new _ _ _
 ·rw [← h]; exact l.alloc l.size _
theorem below_setRow {w wr : World} {B g : Nat} {cs : Array Value} (h : Below B w wr) (hg : B ≤ g) (hB : B ≤ wr.heap.size) : Below B w (wr.setRow g cs) := h.grown (grown_setRow wr g cs) hB (fun k e => by injection e; omega)
theorem box_one (w : World) (t : TypeId) (cs : Array Value) : ∃ W, W = w.alloc (.cells cs t) ∧ Row W w.heap.size t cs ∧ Below w.heap.size w W := box1 w t cs
def HeadSc (w : World) (g : Nat) (ca cb cc cs : Array Value) (n : Nat) (f : Nat → Bool) (i : Value) (wr : World) : Prop := ∃ k : Nat, k ≤ n ∧ i = .int .i64 k ∧ (∀ j, j < k → f j = true) ∧ R3 w ca cb cc wr ∧ Row wr g 96 cs
set_option maxHeartbeats 4000000 in
theorem scaleOf (A Y R : Option Addr) (n c yn yc rn rc : Nat) (v : Int) (sg sy rk : List Int) (w : World) (hA : Seg w w.heap.size A n sg) (hY : Seg w w.heap.size Y yn sy) (hR : Seg w w.heap.size R rn rk) (hn : n ≤ 1048576) (hyn : yn ≤ 1048576) (hrn : rn ≤ 1048576) :
  Calls Try.prog 71 #[.agg #[.slice A n c], .agg #[.int .i64 v, .slice Y yn yc, .slice R rn rc]] w (AnsSc w (scV A R Y n c rn rc yn yc v) (wB sg v sy rk)) := by
 obtain ⟨W, hW, q⟩ := r3_new w #[.slice A n c] #[.int .i64 v, .slice Y yn yc, .slice R rn rc] #[.slice none 0 0, .slice none 0 0, .int .i64 0, .slice none 0 0]
 have HW := hid hW
 have HAL := hid hA.1
 have HYL := hid hY.1
 have HRL := hid hR.1
 have L1 := hid (precedenceOf A R n c rn rc sg rk W (hA.next q.l) (hR.next q.l) hn hrn)
 have LA := hid (fun (w1 : World) (bb : Below w.heap.size w w1) (k : Nat) (hk : k < n) (e1 : rn = n) (e2 : yn = n) => admits A R Y n c rc yc v sg rk sy k w1 (hA.next bb) (e1 ▸ hR.next bb) (e2 ▸ hY.next bb) hn hk)
 have k0 : W.cell? ⟨w.heap.size, 0, none⟩ = some (.slice A n c) := q.a.cell 0
 have k1 : W.cell? ⟨w.heap.size + 1, 0, none⟩ = some (.int .i64 v) := q.b.cell 0
 have k2 : W.cell? ⟨w.heap.size + 1, 1, none⟩ = some (.slice Y yn yc) := q.b.cell 1
 have k3 : W.cell? ⟨w.heap.size + 1, 2, none⟩ = some (.slice R rn rc) := q.b.cell 2
 rw [hW] at k0 k1 k2 k3
 clear hW hA hY hR
 cases hp : precB sg rk with
 | false =>
  have HP := hid hp
  clear hp
  go_enter Try.func71, Try.ntmps71
  go_wp2_with fail
  rw [← HW.out]
  clear k0 k1 k2 k3
  refine L1.out.mono ?_
  rintro e w1 ⟨he, bb⟩
  rw [HP.out] at he
  subst he
  replace q := q.next bb
  have zb := q.c.lt
  clear bb L1
  obtain ⟨w2, hw2, rp, bb⟩ := box_one w1 94 #[.slice none 0 0, .slice none 0 0]
  have H2 := hid hw2
  replace q := q.next bb
  clear hw2 bb rp
  go_wp2_with (first
   | (refine rowStore rfl 94 _ _ rfl w1.heap.size #[.slice none 0 0, .slice none 0 0] #[.slice none 0 0, .slice none 0 0] 94 rfl rfl (heap_alloc_new w1 _) size_p rfl (by simp [Value.oneCell']) ?_; rw [World.setRow_alloc_new]; rw [← H2.out]; refine (?_ : Hid _).out))
  refine hid ?_
  have k0 : w2.cell? ⟨w.heap.size, 0, none⟩ = some (.slice A n c) := q.a.cell 0
  have k1 : w2.cell? ⟨w.heap.size + 1, 0, none⟩ = some (.int .i64 v) := q.b.cell 0
  have k2 : w2.cell? ⟨w.heap.size + 1, 1, none⟩ = some (.slice Y yn yc) := q.b.cell 1
  have F := hid (show AnsSc w (scV A R Y n c rn rc yn yc v) (wB sg v sy rk) (.returned (.tuple #[.agg #[.slice none 0 0, .slice none 0 0, .int .i64 0, .slice none 0 0], .bool false])) (w2.setRow (w.heap.size + 1 + 1) #[.slice none 0 0, .slice none 0 0, .int .i64 0, .slice none 0 0]) from ⟨by rw [w_prec HP.out]; rfl, below_setRow q.l (by omega) q.l.size⟩)
  have hz := q.c
  have h3 := Row.setRow q.c #[.slice none 0 0, .slice none 0 0, .int .i64 0, .slice none 0 0]
  unfold Row at hz
  have HZ := hid hz
  have H3 := hid h3
  clear hz h3 q
  go_wp2_with (first
   | (refine rowStore rfl 96 _ _ rfl (w.heap.size + 1 + 1) #[.slice none 0 0, .slice none 0 0, .int .i64 0, .slice none 0 0] #[.slice none 0 0, .slice none 0 0, .int .i64 0, .slice none 0 0] 96 rfl rfl HZ.out size_s rfl (by simp [Value.oneCell']) ?_))
  (try simp only [Exit.inBlock, Exit.then])
  refine bodyPost_ret (v := .tuple #[.agg #[.slice none 0 0, .slice none 0 0, .int .i64 0, .slice none 0 0], .bool false]) ?_ rfl F.out
  exact results_row_tmp Try.results71 _ (w.heap.size + 1 + 1) 96 #[.slice none 0 0, .slice none 0 0, .int .i64 0, .slice none 0 0] _ rfl H3.out Try.underlying96 rfl size_s
 | true =>
  have HP := hid hp
  clear hp
  go_enter Try.func71, Try.ntmps71
  go_wp2_with fail
  rw [← HW.out]
  clear k0 k1 k2 k3
  refine L1.out.mono ?_
  rintro e w1 ⟨he, bb⟩
  rw [HP.out] at he
  subst he
  replace q := q.next bb
  have zb := q.c.lt
  clear bb L1
  obtain ⟨w2, hw2, rp, bb⟩ := box_one w1 94 #[.slice A n c, .slice R rn rc]
  have H2 := hid hw2
  replace q := q.next bb
  clear hw2 bb rp
  go_wp2_with (first
   | (refine rowStore rfl 94 _ _ rfl w1.heap.size #[.slice A n c, .slice R rn rc] #[.slice none 0 0, .slice none 0 0] 94 rfl rfl (heap_alloc_new w1 _) size_p rfl (by simp [Value.oneCell']) ?_; rw [World.setRow_alloc_new]; rw [← H2.out]; refine (?_ : Hid _).out))
  refine hid ?_
  have k0 : w2.cell? ⟨w.heap.size, 0, none⟩ = some (.slice A n c) := q.a.cell 0
  have k1 : w2.cell? ⟨w.heap.size + 1, 0, none⟩ = some (.int .i64 v) := q.b.cell 0
  have k2 : w2.cell? ⟨w.heap.size + 1, 1, none⟩ = some (.slice Y yn yc) := q.b.cell 1
  have k4 : w2.cell? ⟨w1.heap.size, 0, none⟩ = some (.slice A n c) := by rw [H2.out]; exact (Row.new w1 _ _).cell 0
  have k5 : w2.cell? ⟨w1.heap.size, 1, none⟩ = some (.slice R rn rc) := by rw [H2.out]; exact (Row.new w1 _ _).cell 1
  by_cases hly : yn = n
  case neg =>
   have e1 : ((yn : Int) != (n : Int)) = true := by simp; omega
   have F := hid (show AnsSc w (scV A R Y n c rn rc yn yc v) (wB sg v sy rk) (.returned (.tuple #[.agg #[.slice none 0 0, .slice none 0 0, .int .i64 0, .slice none 0 0], .bool false])) (w2.setRow (w.heap.size + 1 + 1) #[.slice none 0 0, .slice none 0 0, .int .i64 0, .slice none 0 0]) from ⟨by rw [w_len (by rw [HYL.out, HAL.out]; exact hly)]; rfl, below_setRow q.l (by omega) q.l.size⟩)
   have hz := q.c
   have h3 := Row.setRow q.c #[.slice none 0 0, .slice none 0 0, .int .i64 0, .slice none 0 0]
   unfold Row at hz
   have HZ := hid hz
   have H3 := hid h3
   clear hz h3 q
   go_wp2_with (first
    | (refine rowStore rfl 96 _ _ rfl (w.heap.size + 1 + 1) #[.slice none 0 0, .slice none 0 0, .int .i64 0, .slice none 0 0] #[.slice none 0 0, .slice none 0 0, .int .i64 0, .slice none 0 0] 96 rfl rfl HZ.out size_s rfl (by simp [Value.oneCell']) ?_))
   (try simp only [Exit.inBlock, Exit.then])
   refine bodyPost_ret (v := .tuple #[.agg #[.slice none 0 0, .slice none 0 0, .int .i64 0, .slice none 0 0], .bool false]) ?_ rfl F.out
   exact results_row_tmp Try.results71 _ (w.heap.size + 1 + 1) 96 #[.slice none 0 0, .slice none 0 0, .int .i64 0, .slice none 0 0] _ rfl H3.out Try.underlying96 rfl size_s
  subst hly
  have hrl : rn = yn := by
   have := (rank_parts (prec_parts HP.out).2).1
   rw [HAL.out, HRL.out] at this
   exact this
  subst hrl
  have e1 : ((rn : Int) != (rn : Int)) = false := by simp
  by_cases hv1 : v < 1
  ·have d1 : decide (v < 1) = true := decide_eq_true hv1
   have F := hid (show AnsSc w (scV A R Y rn c rn rc rn yc v) (wB sg v sy rk) (.returned (.tuple #[.agg #[.slice none 0 0, .slice none 0 0, .int .i64 0, .slice none 0 0], .bool false])) (w2.setRow (w.heap.size + 1 + 1) #[.slice none 0 0, .slice none 0 0, .int .i64 0, .slice none 0 0]) from ⟨by rw [w_var (by omega)]; rfl, below_setRow q.l (by omega) q.l.size⟩)
   have hz := q.c
   have h3 := Row.setRow q.c #[.slice none 0 0, .slice none 0 0, .int .i64 0, .slice none 0 0]
   unfold Row at hz
   have HZ := hid hz
   have H3 := hid h3
   clear hz h3 q
   go_wp2_with (first
    | (refine rowStore rfl 96 _ _ rfl (w.heap.size + 1 + 1) #[.slice none 0 0, .slice none 0 0, .int .i64 0, .slice none 0 0] #[.slice none 0 0, .slice none 0 0, .int .i64 0, .slice none 0 0] 96 rfl rfl HZ.out size_s rfl (by simp [Value.oneCell']) ?_))
   (try simp only [Exit.inBlock, Exit.then])
   refine bodyPost_ret (v := .tuple #[.agg #[.slice none 0 0, .slice none 0 0, .int .i64 0, .slice none 0 0], .bool false]) ?_ rfl F.out
   exact results_row_tmp Try.results71 _ (w.heap.size + 1 + 1) 96 #[.slice none 0 0, .slice none 0 0, .int .i64 0, .slice none 0 0] _ rfl H3.out Try.underlying96 rfl size_s
  have d1 : decide (v < 1) = false := decide_eq_false hv1
  by_cases hv2 : 20 < v
  ·have d2 : decide (20 < v) = true := decide_eq_true hv2
   have F := hid (show AnsSc w (scV A R Y rn c rn rc rn yc v) (wB sg v sy rk) (.returned (.tuple #[.agg #[.slice none 0 0, .slice none 0 0, .int .i64 0, .slice none 0 0], .bool false])) (w2.setRow (w.heap.size + 1 + 1) #[.slice none 0 0, .slice none 0 0, .int .i64 0, .slice none 0 0]) from ⟨by rw [w_var (by omega)]; rfl, below_setRow q.l (by omega) q.l.size⟩)
   have hz := q.c
   have h3 := Row.setRow q.c #[.slice none 0 0, .slice none 0 0, .int .i64 0, .slice none 0 0]
   unfold Row at hz
   have HZ := hid hz
   have H3 := hid h3
   clear hz h3 q
   go_wp2_with (first
    | (refine rowStore rfl 96 _ _ rfl (w.heap.size + 1 + 1) #[.slice none 0 0, .slice none 0 0, .int .i64 0, .slice none 0 0] #[.slice none 0 0, .slice none 0 0, .int .i64 0, .slice none 0 0] 96 rfl rfl HZ.out size_s rfl (by simp [Value.oneCell']) ?_))
   (try simp only [Exit.inBlock, Exit.then])
   refine bodyPost_ret (v := .tuple #[.agg #[.slice none 0 0, .slice none 0 0, .int .i64 0, .slice none 0 0], .bool false]) ?_ rfl F.out
   exact results_row_tmp Try.results71 _ (w.heap.size + 1 + 1) 96 #[.slice none 0 0, .slice none 0 0, .int .i64 0, .slice none 0 0] _ rfl H3.out Try.underlying96 rfl size_s
  have d2 : decide (20 < v) = false := decide_eq_false hv2
  obtain ⟨w3, hw3, rs, bb⟩ := box_one w2 96 #[.slice A rn c, .slice R rn rc, .int .i64 v, .slice Y rn yc]
  have H3 := hid hw3
  replace q := q.next bb
  have h2 : w2.heap.size = w1.heap.size + 1 := by rw [H2.out]; simp
  have hg3 : w.heap.size + 1 + 1 < w2.heap.size := by omega
  clear h2
  have H0 : Hid (HeadSc w w2.heap.size #[.slice A rn c] #[.int .i64 v, .slice Y rn yc, .slice R rn rc] #[.slice none 0 0, .slice none 0 0, .int .i64 0, .slice none 0 0] #[.slice A rn c, .slice R rn rc, .int .i64 v, .slice Y rn yc] rn (admB sg v sy rk) (.int .i64 0) w3) := hid ⟨0, Nat.zero_le _, rfl, fun j hj => absurd hj (Nat.not_lt_zero _), q, rs⟩
  clear hw3 bb rs q
  go_wp2_with (first
   | (refine rowStore rfl 96 _ _ rfl w2.heap.size #[.slice A rn c, .slice R rn rc, .int .i64 v, .slice Y rn yc] #[.slice none 0 0, .slice none 0 0, .int .i64 0, .slice none 0 0] 96 rfl rfl (heap_alloc_new w2 _) size_s rfl (by simp [Value.oneCell']) ?_; rw [World.setRow_alloc_new]; rw [← H3.out]; refine (?_ : Hid _).out))
  refine hid ?_
  have m0 : w3.cell? ⟨w.heap.size + 1, 1, none⟩ = some (.slice Y rn yc) := by obtain ⟨_, _, _, _, q, _⟩ := H0.out; exact q.b.cell 1
  clear k0 k1 k2 k4 k5
  go_wp2
  go_loopw [48] (fun i wr => HeadSc w w2.heap.size #[.slice A rn c] #[.int .i64 v, .slice Y rn yc, .slice R rn rc] #[.slice none 0 0, .slice none 0 0, .int .i64 0, .slice none 0 0] #[.slice A rn c, .slice R rn rc, .int .i64 v, .slice Y rn yc] rn (admB sg v sy rk) i wr) (fun i _ => rn - (intOf i).toNat)
  case atStart => exact H0.out
  case round =>
   clear H0 m0
   obtain ⟨k, hk, rfl, hlow, q, rs⟩ := hrel
   have HLOW := hid hlow
   clear hlow
   have k0 : wr.cell? ⟨w2.heap.size, 0, none⟩ = some (.slice A rn c) := rs.cell 0
   have k1 : wr.cell? ⟨w2.heap.size, 1, none⟩ = some (.slice R rn rc) := rs.cell 1
   have k2 : wr.cell? ⟨w2.heap.size, 2, none⟩ = some (.int .i64 v) := rs.cell 2
   have k3 : wr.cell? ⟨w2.heap.size, 3, none⟩ = some (.slice Y rn yc) := rs.cell 3
   by_cases hlt : k < rn
   case neg =>
    have F := hid (show AnsSc w (scV A R Y rn c rn rc rn yc v) (wB sg v sy rk) (.returned (.tuple #[.agg #[.slice A rn c, .slice R rn rc, .int .i64 v, .slice Y rn yc], .bool true])) (wr.setRow (w.heap.size + 1 + 1) #[.slice A rn c, .slice R rn rc, .int .i64 v, .slice Y rn yc]) from ⟨by rw [w_yes HP.out (by omega) (by rw [HYL.out, HAL.out]) (fun f hf => HLOW.out f (by have := HYL.out; omega))]; rfl, below_setRow q.l (by omega) q.l.size⟩)
    have hz := q.c
    have h3 := Row.setRow q.c #[.slice A rn c, .slice R rn rc, .int .i64 v, .slice Y rn yc]
    unfold Row at hz
    have HZ := hid hz
    have H3 := hid h3
    clear hz h3 q rs
    go_wp2_with (first
     | (refine rowStore rfl 96 _ _ rfl (w.heap.size + 1 + 1) #[.slice A rn c, .slice R rn rc, .int .i64 v, .slice Y rn yc] #[.slice none 0 0, .slice none 0 0, .int .i64 0, .slice none 0 0] 96 rfl rfl HZ.out size_s rfl (by simp [Value.oneCell']) ?_))
    (try simp only [Exit.inBlock, Exit.then])
    refine bodyPost_ret (v := .tuple #[.agg #[.slice A rn c, .slice R rn rc, .int .i64 v, .slice Y rn yc], .bool true]) ?_ rfl F.out
    exact results_row_tmp Try.results71 _ (w.heap.size + 1 + 1) 96 #[.slice A rn c, .slice R rn rc, .int .i64 v, .slice Y rn yc] _ rfl H3.out Try.underlying96 rfl size_s
   have LX := hid (LA.out wr q.l k hlt (by first | rfl | trivial) (by first | rfl | trivial))
   obtain ⟨u, hu⟩ : ∃ u, admB sg v sy rk k = u := ⟨_, rfl⟩
   rw [hu] at LX
   have HU := hid hu
   have Q := hid q
   have RS := hid rs
   clear hu q rs
   go_wp2_with fail
   refine LX.out.mono ?_
   rintro e w4 ⟨rfl, bb⟩
   have q := Q.out.next bb
   have rs := RS.out.next bb
   clear bb Q RS k0 k1 k2 k3 LX
   cases u with
   | false =>
    have F := hid (show AnsSc w (scV A R Y rn c rn rc rn yc v) (wB sg v sy rk) (.returned (.tuple #[.agg #[.slice none 0 0, .slice none 0 0, .int .i64 0, .slice none 0 0], .bool false])) (w4.setRow (w.heap.size + 1 + 1) #[.slice none 0 0, .slice none 0 0, .int .i64 0, .slice none 0 0]) from ⟨by rw [w_bad (f := k) (by rw [HYL.out]; exact hlt) HU.out]; rfl, below_setRow q.l (by omega) q.l.size⟩)
    have hz := q.c
    have h3 := Row.setRow q.c #[.slice none 0 0, .slice none 0 0, .int .i64 0, .slice none 0 0]
    unfold Row at hz
    have HZ := hid hz
    have H3 := hid h3
    clear hz h3 q rs
    go_wp2_with (first
     | (refine rowStore rfl 96 _ _ rfl (w.heap.size + 1 + 1) #[.slice none 0 0, .slice none 0 0, .int .i64 0, .slice none 0 0] #[.slice none 0 0, .slice none 0 0, .int .i64 0, .slice none 0 0] 96 rfl rfl HZ.out size_s rfl (by simp [Value.oneCell']) ?_))
    (try simp only [Exit.inBlock, Exit.then])
    refine bodyPost_ret (v := .tuple #[.agg #[.slice none 0 0, .slice none 0 0, .int .i64 0, .slice none 0 0], .bool false]) ?_ rfl F.out
    exact results_row_tmp Try.results71 _ (w.heap.size + 1 + 1) 96 #[.slice none 0 0, .slice none 0 0, .int .i64 0, .slice none 0 0] _ rfl H3.out Try.underlying96 rfl size_s
   | true =>
    have S1 := hid (show HeadSc w w2.heap.size #[.slice A rn c] #[.int .i64 v, .slice Y rn yc, .slice R rn rc] #[.slice none 0 0, .slice none 0 0, .int .i64 0, .slice none 0 0] #[.slice A rn c, .slice R rn rc, .int .i64 v, .slice Y rn yc] rn (admB sg v sy rk) (.int .i64 ((k : Int) + 1)) w4 from ⟨k + 1, hlt, by simp, fun j hj => by
     by_cases e : j = k
     ·rw [e]; exact HU.out
     ·exact HLOW.out j (by omega), q, rs⟩)
    clear q rs
    go_wp2
    go_roundw
    case rel => exact S1.out
    case measure => simp [intOf]; omega
end kboScale
end
section
open Go.Lib (hid)
namespace kboFun
open Go.RowKit base ints sig term termOk termFacts marks sym varsOf ruleSpec forest rankMath rankSpec lpoLink lpoPrec kboMath kboLink kboOft kboWt kboOk kboScale whole
set_option maxRecDepth 100000
theorem scale2 (A Y R : Option Addr) (n c yn yc rn rc : Nat) (v : Int) (sg sy rk : List Int) (w : World) (hA : Seg w w.heap.size A n sg) (hY : Seg w w.heap.size Y yn sy) (hR : Seg w w.heap.size R rn rk) (hn : n ≤ 1048576) (hyn : yn ≤ 1048576) (hrn : rn ≤ 1048576) :
  (wB sg v sy rk = true → Calls Try.prog 71 #[.agg #[.slice A n c], .agg #[.int .i64 v, .slice Y yn yc, .slice R rn rc]] w fun e w' => e = .returned (.tuple #[.agg #[.slice A n c, .slice R rn rc, .int .i64 v, .slice Y yn yc], .bool true]) ∧ Below w.heap.size w w') ∧
  (wB sg v sy rk = false → Calls Try.prog 71 #[.agg #[.slice A n c], .agg #[.int .i64 v, .slice Y yn yc, .slice R rn rc]] w fun e w' => e = .returned (.tuple #[.agg #[.slice none 0 0, .slice none 0 0, .int .i64 0, .slice none 0 0], .bool false]) ∧ Below w.heap.size w w') :=
 ⟨fun h => (scaleOf A Y R n c yn yc rn rc v sg sy rk w hA hY hR hn hyn hrn).mono fun e w' he => by
  unfold AnsSc at he
  rw [h] at he
  exact he, fun h => (scaleOf A Y R n c yn yc rn rc v sg sy rk w hA hY hR hn hyn hrn).mono fun e w' he => by
  unfold AnsSc at he
  rw [h] at he
  exact he⟩
theorem wt_no1 {sg sy rk t : List Int} {v : Int} (h : wB sg v sy rk = false) : wtV sg v sy rk t = -1 := by unfold wtV; rw [h]; rfl
theorem wt_no2 {sg sy rk t : List Int} {v : Int} (h : wB sg v sy rk = true) (h2 : termOkB sg t = false) : wtV sg v sy rk t = -1 := by unfold wtV; rw [h, h2]; rfl
theorem wt_yes {sg sy rk t : List Int} {v : Int} (h : wB sg v sy rk = true) (h2 : termOkB sg t = true) : wtV sg v sy rk t = wt v sy t := by unfold wtV; rw [h, h2]; rfl
set_option maxHeartbeats 4000000 in
theorem implWeightOf (A Y R T : Option Addr) (n c yn yc rn rc m mc : Nat) (v : Int) (sg sy rk t : List Int) (w : World) (hA : Seg w w.heap.size A n sg) (hY : Seg w w.heap.size Y yn sy) (hR : Seg w w.heap.size R rn rk) (hn : n ≤ 1048576) (hyn : yn ≤ 1048576) (hrn : rn ≤ 1048576) (hT : Seg w w.heap.size T m t) (hm : m ≤ 1048576) :
  Calls Try.prog 28 #[.agg #[.slice A n c], .agg #[.int .i64 v, .slice Y yn yc, .slice R rn rc], .slice T m mc] w (AnsI w (wtV sg v sy rk t)) := by
 obtain ⟨W, hW, q⟩ := r2_new w 29 32 #[.slice A n c] #[.int .i64 v, .slice Y yn yc, .slice R rn rc]
 have HW := hid hW
 have k0 : W.cell? ⟨w.heap.size, 0, none⟩ = some (.slice A n c) := q.a.cell 0
 have k1 : W.cell? ⟨w.heap.size + 1, 0, none⟩ = some (.int .i64 v) := q.b.cell 0
 have k2 : W.cell? ⟨w.heap.size + 1, 1, none⟩ = some (.slice Y yn yc) := q.b.cell 1
 have k3 : W.cell? ⟨w.heap.size + 1, 2, none⟩ = some (.slice R rn rc) := q.b.cell 2
 rw [hW] at k0 k1 k2 k3
 have L1 := hid (scale2 A Y R n c yn yc rn rc v sg sy rk W (hA.next q.l) (hY.next q.l) (hR.next q.l) hn hyn hrn)
 have LT := hid (fun (w1 : World) (bb : Below w.heap.size w w1) => implTermOk A T n c m mc sg t w1 (hA.next bb) (hT.next bb) hn hm)
 have LW := hid (fun (w1 : World) (bb : Below w.heap.size w w1) (h : wB sg v sy rk = true) (h2 : termOkB sg t = true) => weigh A Y R T n c yn yc rn rc m mc v sy t w1 (hY.next bb) (hT.next bb) hm (small_of h) (low_of h (fo_term h2)))
 clear hW hA hY hR
 cases hb : wB sg v sy rk with
 | false =>
  have HB := hid hb
  clear hb
  go_enter Try.func28, Try.ntmps28
  go_wp2_with fail
  rw [← HW.out]
  clear k0 k1 k2 k3
  refine (L1.out.2 HB.out).mono ?_
  rintro e w1 ⟨rfl, bb⟩
  replace q := q.next bb
  clear bb L1
  obtain ⟨w2, hw2, rs, bb⟩ := box_one w1 96 #[.slice none 0 0, .slice none 0 0, .int .i64 0, .slice none 0 0]
  have H2 := hid hw2
  replace q := q.next bb
  clear hw2 bb
  go_wp2_with (first
   | (refine rowStore rfl 96 _ _ rfl w1.heap.size #[.slice none 0 0, .slice none 0 0, .int .i64 0, .slice none 0 0] #[.slice none 0 0, .slice none 0 0, .int .i64 0, .slice none 0 0] 96 rfl rfl (heap_alloc_new w1 _) size_s rfl (by simp [Value.oneCell']) ?_; rw [World.setRow_alloc_new]; rw [← H2.out]; refine (?_ : Hid _).out))
  refine hid ?_
  clear H2
  have F := hid (show AnsI w (wtV sg v sy rk t) (.returned (.int .i64 (-1))) w2 from ⟨by rw [wt_no1 HB.out], q.l⟩)
  clear q rs
  go_wp2
  go_ret
  exact F.out
 | true =>
  have HB := hid hb
  clear hb
  go_enter Try.func28, Try.ntmps28
  go_wp2_with fail
  rw [← HW.out]
  clear k0 k1 k2 k3
  refine (L1.out.1 HB.out).mono ?_
  rintro e w1 ⟨rfl, bb⟩
  replace q := q.next bb
  clear bb L1
  obtain ⟨w2, hw2, rs, bb⟩ := box_one w1 96 #[.slice A n c, .slice R rn rc, .int .i64 v, .slice Y yn yc]
  have H2 := hid hw2
  replace q := q.next bb
  clear hw2 bb
  go_wp2_with (first
   | (refine rowStore rfl 96 _ _ rfl w1.heap.size #[.slice A n c, .slice R rn rc, .int .i64 v, .slice Y yn yc] #[.slice none 0 0, .slice none 0 0, .int .i64 0, .slice none 0 0] 96 rfl rfl (heap_alloc_new w1 _) size_s rfl (by simp [Value.oneCell']) ?_; rw [World.setRow_alloc_new]; rw [← H2.out]; refine (?_ : Hid _).out))
  refine hid ?_
  clear H2
  have k0 : w2.cell? ⟨w.heap.size, 0, none⟩ = some (.slice A n c) := q.a.cell 0
  have L2 := hid (LT.out w2 q.l)
  cases ht : termOkB sg t with
  | false =>
   have HT := hid ht
   clear ht
   go_wp2_with fail
   refine L2.out.mono ?_
   rintro e w3 ⟨he, bb⟩
   rw [HT.out] at he
   subst he
   replace q := q.next bb
   clear bb k0
   have F := hid (show AnsI w (wtV sg v sy rk t) (.returned (.int .i64 (-1))) w3 from ⟨by rw [wt_no2 HB.out HT.out], q.l⟩)
   clear q rs
   go_wp2
   go_ret
   exact F.out
  | true =>
   have HT := hid ht
   clear ht
   go_wp2_with fail
   refine L2.out.mono ?_
   rintro e w3 ⟨he, bb⟩
   rw [HT.out] at he
   subst he
   replace q := q.next bb
   replace rs := rs.next bb
   clear bb k0
   have m0 : w3.cell? ⟨w1.heap.size, 0, none⟩ = some (.slice A n c) := rs.cell 0
   have m1 : w3.cell? ⟨w1.heap.size, 1, none⟩ = some (.slice R rn rc) := rs.cell 1
   have m2 : w3.cell? ⟨w1.heap.size, 2, none⟩ = some (.int .i64 v) := rs.cell 2
   have m3 : w3.cell? ⟨w1.heap.size, 3, none⟩ = some (.slice Y yn yc) := rs.cell 3
   have L3 := hid (LW.out w3 q.l HB.out HT.out)
   have Q := hid q
   clear q rs
   go_wp2_with fail
   refine L3.out.mono ?_
   rintro e w4 ⟨rfl, bb⟩
   have F := hid (show AnsI w (wtV sg v sy rk t) (.returned (.int .i64 (wt v sy t))) w4 from ⟨by rw [wt_yes HB.out HT.out], next_trans Q.out.l bb⟩)
   obtain ⟨z, hz⟩ : ∃ z, wt v sy t = z := ⟨_, rfl⟩
   rw [hz] at F ⊢
   clear bb hz m0 m1 m2 m3
   go_wp2
   go_ret
   exact F.out
set_option maxHeartbeats 4000000 in
theorem specWeightOf (A Y R T : Option Addr) (n c yn yc rn rc m mc : Nat) (v : Int) (sg sy rk t : List Int) (w : World) (hA : Seg w w.heap.size A n sg) (hY : Seg w w.heap.size Y yn sy) (hR : Seg w w.heap.size R rn rk) (hn : n ≤ 1048576) (hyn : yn ≤ 1048576) (hrn : rn ≤ 1048576) (hT : Seg w w.heap.size T m t) (hm : m ≤ 1048576) :
  Calls Try.prog 42 #[.agg #[.slice A n c], .agg #[.int .i64 v, .slice Y yn yc, .slice R rn rc], .slice T m mc] w (AnsI w (wtV sg v sy rk t)) := by
 obtain ⟨W, hW, q⟩ := r2_new w 29 32 #[.slice A n c] #[.int .i64 v, .slice Y yn yc, .slice R rn rc]
 have HW := hid hW
 have k0 : W.cell? ⟨w.heap.size, 0, none⟩ = some (.slice A n c) := q.a.cell 0
 have k1 : W.cell? ⟨w.heap.size + 1, 0, none⟩ = some (.int .i64 v) := q.b.cell 0
 have k2 : W.cell? ⟨w.heap.size + 1, 1, none⟩ = some (.slice Y yn yc) := q.b.cell 1
 have k3 : W.cell? ⟨w.heap.size + 1, 2, none⟩ = some (.slice R rn rc) := q.b.cell 2
 rw [hW] at k0 k1 k2 k3
 have L1 := hid (specWeightsOk A Y R n c yn yc rn rc v sg sy rk W (hA.next q.l) (hY.next q.l) (hR.next q.l) hn hyn hrn)
 have LT := hid (fun (w1 : World) (bb : Below w.heap.size w w1) => specTermOk A T n c m mc sg t w1 (hA.next bb) (hT.next bb) hn hm)
 have LW := hid (fun (w1 : World) (bb : Below w.heap.size w w1) (h : wB sg v sy rk = true) (h2 : termOkB sg t = true) => l14Weight Y R T yn yc rn rc m mc v sy t w1 (hY.next bb) (hT.next bb) hm (small_of h) (low_of h (fo_term h2)))
 clear hW hA hY hR
 cases hb : wB sg v sy rk with
 | false =>
  have HB := hid hb
  clear hb
  go_enter Try.func42, Try.ntmps42
  go_wp2_with fail
  rw [← HW.out]
  clear k0 k1 k2 k3
  refine L1.out.mono ?_
  rintro e w2 ⟨he, bb⟩
  rw [HB.out] at he
  subst he
  replace q := q.next bb
  clear bb L1
  have F := hid (show AnsI w (wtV sg v sy rk t) (.returned (.int .i64 (-1))) w2 from ⟨by rw [wt_no1 HB.out], q.l⟩)
  clear q
  go_wp2
  go_ret
  exact F.out
 | true =>
  have HB := hid hb
  clear hb
  go_enter Try.func42, Try.ntmps42
  go_wp2_with fail
  rw [← HW.out]
  clear k0 k1 k2 k3
  refine L1.out.mono ?_
  rintro e w2 ⟨he, bb⟩
  rw [HB.out] at he
  subst he
  replace q := q.next bb
  clear bb L1
  have k0 : w2.cell? ⟨w.heap.size, 0, none⟩ = some (.slice A n c) := q.a.cell 0
  have L2 := hid (LT.out w2 q.l)
  cases ht : termOkB sg t with
  | false =>
   have HT := hid ht
   clear ht
   go_wp2_with fail
   refine L2.out.mono ?_
   rintro e w3 ⟨he, bb⟩
   rw [HT.out] at he
   subst he
   replace q := q.next bb
   clear bb k0
   have F := hid (show AnsI w (wtV sg v sy rk t) (.returned (.int .i64 (-1))) w3 from ⟨by rw [wt_no2 HB.out HT.out], q.l⟩)
   clear q
   go_wp2
   go_ret
   exact F.out
  | true =>
   have HT := hid ht
   clear ht
   go_wp2_with fail
   refine L2.out.mono ?_
   rintro e w3 ⟨he, bb⟩
   rw [HT.out] at he
   subst he
   replace q := q.next bb
   clear bb k0
   have m0 : w3.cell? ⟨w.heap.size + 1, 0, none⟩ = some (.int .i64 v) := q.b.cell 0
   have m1 : w3.cell? ⟨w.heap.size + 1, 1, none⟩ = some (.slice Y yn yc) := q.b.cell 1
   have m2 : w3.cell? ⟨w.heap.size + 1, 2, none⟩ = some (.slice R rn rc) := q.b.cell 2
   have L3 := hid (LW.out w3 q.l HB.out HT.out)
   have Q := hid q
   clear q
   go_wp2_with fail
   refine L3.out.mono ?_
   rintro e w4 ⟨rfl, bb⟩
   have F := hid (show AnsI w (wtV sg v sy rk t) (.returned (.int .i64 (wt v sy t))) w4 from ⟨by rw [wt_yes HB.out HT.out], next_trans Q.out.l bb⟩)
   obtain ⟨z, hz⟩ : ∃ z, wt v sy t = z := ⟨_, rfl⟩
   rw [hz] at F ⊢
   clear bb hz m0 m1 m2
   go_wp2
   go_ret
   exact F.out
end kboFun
end
section
namespace shape
open Go.RowKit base ints sig cursor marks app sym appAt segs segsHelp segsMark kinds
theorem Owned.num (w : World) (lo hi : Nat) (x : Int) : Owned w lo hi .num [.int .i64 x] x := ⟨[], ⟨rfl, rfl⟩, List.nodup_nil, fun k hk => by cases hk⟩
theorem Ow.num {w w' : World} {cs : List Value} {x : Int} {F : List Nat} (h : Ow w .num cs x F) (y : Int) : Ow w' .num [.int .i64 y] y F := ⟨rfl, h.2⟩
theorem CpS.init (w : World) (tL tI : TypeId) (cs zs ps : Array Value) : CpS w tL tI cs zs ps (((w.alloc (.cells cs tL)).alloc (.cells zs tI)).alloc (.cells ps tI)) where
 box := by have := ((Row.new w tL cs).alloc (.cells zs tI)).alloc (.cells ps tI); simpa using this
 res := by have := (Row.new (w.alloc (.cells cs tL)) tI zs).alloc (.cells ps tI); simpa using this
 cur := by have := Row.new ((w.alloc (.cells cs tL)).alloc (.cells zs tI)) tI ps; simpa using this
 bel := (((Below.refl _ _).alloc (Nat.le_refl _) _).alloc (by simp) _).alloc (by simp; omega) _
 size := by simp
end shape
end
end Go.Proofs.Ytiimbmkofpnebaa
